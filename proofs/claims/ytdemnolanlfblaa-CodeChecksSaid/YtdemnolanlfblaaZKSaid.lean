/- Proved: the law of this row holds for every argument that the row lets in; there is no condition but the row's own. -/
import Derived.Test.YtdemnolanlfblaaZKCan
import Derived.Test.YtdemnolanlfblaaZKIn
import Derived.Test.YtdemnolanlfblaaZCCheck
import Derived.Test.YtdemnolanlfblaaZCSaid
set_option linter.all false
namespace Go.Proofs.Ytdemnolanlfblaa
section
open Go.RowKit
def BadPost (c : CodeD) (f : FnD) (w : World) (e : Ending) (w' : World) : Prop := ∃ b, e = .returned (.bool b) ∧ (b = true ↔ ¬ FormOk c f) ∧ Below w.heap.size w w'
theorem FnOk.can {c : CodeD} {f : FnD} (h : FnOk c f) : (0 ≤ f.frm ∧ f.frm ≤ (c.ops.length : Int) - 1) ∧ 0 ≤ f.slots := ⟨h.frm, h.slots.1⟩
set_option maxRecDepth 100000 in
set_option maxHeartbeats 8000000 in
theorem form1_any (sa : Option Addr) (sc : Nat) (tv : Value) (ss : List (StopD × Value)) (c : CodeD) (f : FnD) (w : World) (B h : Nat) (hst : StopsAt B w (.slice sa ss.length sc) c ss) (hh : w.cell? ⟨h, 0, none⟩ = some (.slice sa ss.length sc)) (hlen : ss.length = c.ops.length) (hn : c.ops.length ≤ 8000) (hf : FnOk c f) :
    Calls Try.prog 31 #[.agg #[.int .i64 f.params, .int .i64 f.slots, .int .i64 f.frm, tv], .pointer (some ⟨h, 0, none⟩)] w (BadPost c f w) := by
  have HC := hide (fun o => can_any sa sc tv ss c f (w.alloc o) B (hst.below (balloc1 w o)) hlen hn hf.can.1 hf.can.2)
  have hhz := cell_lt hh
  clear hst hlen
  go_enter Try.func31, Try.ntmps31
  go_wp2_with (go_at_call 32; refine (unhide HC _).mono ?_; rintro e w1 ⟨b, rfl, hb, hb1⟩; have HB := hide hb; have HB1 := hide ((balloc1 w _).trans (hb1.mono (balloc1 w _).size)); clear hb hb1)
  go_ret
  refine ⟨!b, rfl, ?_, unhide HB1⟩
  rw [← unhide HB]
  cases b <;> simp
def AnyPost (c : CodeD) (w : World) (e : Ending) (w' : World) : Prop := ∃ i : Int, e = .returned (.int .i64 i) ∧ (0 ≤ i ↔ ¬ ∀ f ∈ c.fns, FormOk c f) ∧ Below w.heap.size w w'
set_option maxRecDepth 100000 in
set_option maxHeartbeats 8000000 in
theorem index_fns (sa a2 : Option Addr) (sc c2 : Nat) (ss : List (StopD × Value)) (c : CodeD) (w : World) (B C h : Nat) (hC : C ≤ w.heap.size) (hF : FnsIn C w (.slice a2 c.fns.length c2) c.fns) (hst : StopsAt B w (.slice sa ss.length sc) c ss) (hh : w.cell? ⟨h, 0, none⟩ = some (.slice sa ss.length sc)) (hlen : ss.length = c.ops.length) (hn : c.ops.length ≤ 8000) (hnf : c.fns.length ≤ 1200) (hf : ∀ f ∈ c.fns, FnOk c f) :
    Calls Try.prog 51 #[.slice a2 c.fns.length c2, .func (.func 31) #[] #[.pointer (some ⟨h, 0, none⟩)]] w (AnyPost c w) := by
  have HX := hide hF
  have HP := hide (fun W (hb : Below w.heap.size w W) tv f (hm : f ∈ c.fns) => form1_any sa sc tv ss c f W B h (hst.below hb) ((hb.cell (p := ⟨h, 0, none⟩) (cell_lt hh)).trans hh) hlen hn (hf f hm))
  clear hF hst hh hf hlen hn
  go_enter Try.func51, Try.ntmps51
  go_wp2
  go_loopg [8] c.fns.length (fun k e8 wr => ∃ i : Nat, i ≤ c.fns.length ∧ k = c.fns.length - i ∧ e8 = .int .i64 (i : Int) ∧ Below w.heap.size w wr ∧ Hid (∀ f ∈ c.fns.take i, FormOk c f))
  case atStart => exact ⟨0, Nat.zero_le _, rfl, rfl, Below.refl _ _, by show ∀ _, _; simp⟩
  case round =>
    obtain ⟨i, hi, rfl, rfl, hb, HD⟩ := hrel
    have HB := hide hb
    have hz0 := hb.size
    by_cases hlt : i < c.fns.length
    · have hz : (i : Int) < (c.fns.length : Int) := by omega
      obtain ⟨f, hf⟩ : ∃ f, c.fns[i]? = some f := ⟨_, List.getElem?_eq_getElem hlt⟩
      obtain ⟨tb, tq, ta, tc, rfl, htb, t0, t1, t2, t3, _⟩ := fns_at ((unhide HX).same (Same.of_below hb hC)) hf
      have htz : tb < wr.heap.size := by omega
      have HC := hide (unhide HP wr hb (.slice ta f.takes.length tc) f (List.mem_of_getElem? hf))
      have HF := hide hf
      clear hf hb
      go_wp2_with (go_at_call 31; refine (unhide HC).mono ?_; rintro e w1 ⟨b, rfl, hb1, hw1⟩; have HB1 := hide hb1; have HW1 := hide ((unhide HB).trans (hw1.mono (unhide HB).size)); clear hb1 hw1; cases b)
      · go_roundg (c.fns.length - (i + 1))
        case measure => omega
        case rel =>
          refine ⟨i + 1, by omega, rfl, by go_num, unhide HW1, fun g hg => ?_⟩
          obtain ⟨h1, h2⟩ := List.getElem?_eq_some_iff.1 (unhide HF)
          rw [← List.take_append_getElem h1, h2] at hg
          simp only [List.mem_append, List.mem_singleton] at hg
          rcases hg with hg | rfl
          · exact unhide HD g hg
          · exact Classical.byContradiction fun hn => by have := (unhide HB1).2 hn; cases this
      · go_ret
        refine ⟨(i : Int), rfl, ⟨fun _ hall => (unhide HB1).1 (by simp) (hall f (List.mem_of_getElem? (unhide HF))), fun _ => by omega⟩, unhide HW1⟩
    · have hz : ¬ (i : Int) < (c.fns.length : Int) := by omega
      obtain rfl : i = c.fns.length := by omega
      clear hb
      go_wp2
      go_ret
      refine ⟨-1, rfl, ⟨fun h => by omega, fun h => absurd (fun f hf => unhide HD f (by rw [List.take_length]; exact hf)) h⟩, unhide HB⟩
def FormPost (c : CodeD) (neg : Bool) (w : World) (e : Ending) (w' : World) : Prop := ∃ b, e = .returned (.bool b) ∧ (b = neg ↔ ¬ ∀ f ∈ c.fns, FormOk c f) ∧ Below w.heap.size w w'
theorem contains_fns (sa a2 : Option Addr) (sc c2 : Nat) (ss : List (StopD × Value)) (c : CodeD) (w : World) (B C h : Nat) (hC : C ≤ w.heap.size) (hF : FnsIn C w (.slice a2 c.fns.length c2) c.fns) (hst : StopsAt B w (.slice sa ss.length sc) c ss) (hh : w.cell? ⟨h, 0, none⟩ = some (.slice sa ss.length sc)) (hlen : ss.length = c.ops.length) (hn : c.ops.length ≤ 8000) (hnf : c.fns.length ≤ 1200) (hf : ∀ f ∈ c.fns, FnOk c f) :
    Calls Try.prog 30 #[.slice a2 c.fns.length c2, .func (.func 31) #[] #[.pointer (some ⟨h, 0, none⟩)]] w (FormPost c true w) := by
  have HI := hide (index_fns sa a2 sc c2 ss c w B C h hC hF hst hh hlen hn hnf hf)
  clear hF hst hh hf hlen hn
  go_enter Try.func30, Try.ntmps30
  go_wp2_with (go_at_call 51; refine (unhide HI).mono ?_; rintro e w1 ⟨i, rfl, hi, hw1⟩; have HIE := hide hi; have HW1 := hide hw1; clear hi hw1)
  go_ret
  refine ⟨decide (0 ≤ i), rfl, ?_, unhide HW1⟩
  rw [← unhide HIE]
  simp
set_option maxRecDepth 100000 in
set_option maxHeartbeats 8000000 in
theorem pform_any (a1 a2 a3 : Option Addr) (c1 c2 c3 : Nat) (c : CodeD) (w : World) (C : Nat) (hC : C ≤ w.heap.size) (hI : CodeIn C w (.slice a1 c.ops.length c1) (.slice a2 c.fns.length c2) (.slice a3 c.kinds.length c3) c) (hcap : c.ops.length ≤ c1) (hS : SizeOk c) (hR : RangeOk c) :
    Calls Try.prog 15 #[.agg #[.slice a1 c.ops.length c1, .slice a2 c.fns.length c2, .slice a3 c.kinds.length c3]] w (FormPost c false w) := by
  have HL := hide (fun o => look_any a1 a2 a3 c1 c2 c3 c (w.alloc o) C (by rw [heap_size_alloc]; omega) (hI.same (Same.of_below (balloc1 w o) hC)) hcap hS hR)
  have HK := hide (fun W (hb : Below w.heap.size w W) sa sc ss B h hst hh hlen => contains_fns sa a2 sc c2 ss c W B C h (Nat.le_trans hC hb.size) ((hI.same (Same.of_below hb hC)).fns) hst hh hlen hS.1 hS.2.1 hR.fns)
  clear hI hS hR hcap
  go_enter Try.func15, Try.ntmps15
  go_wp2_with (first
    | (go_at_call 29; refine (unhide HL _).mono ?_; rintro e w1 ⟨v, ss, rfl, hst, hlen, hb1⟩; obtain ⟨sa, sc, hv⟩ := own_form hst.row; subst hv; have HX1 := hide ((hb1.block _ (by rw [heap_size_alloc]; omega)).trans (heap_alloc_new w _)); obtain ⟨x0, x1, x2⟩ := cells3 (unhide HX1); have hwz := heap_lt (unhide HX1); have HST := hide hst; have HLEN := hide hlen; have HB1 := hide ((balloc1 w _).trans (hb1.mono (balloc1 w _).size)); clear hst hlen hb1)
    | (go_at_call 30; refine (unhide HK _ ((unhide HB1).trans ((balloc1 _ _).mono (unhide HB1).size)) sa sc ss _ w1.heap.size ((unhide HST).below (balloc1 _ _)) (by simp) (unhide HLEN)).mono ?_; rintro e w2 ⟨b, rfl, hb, hb2⟩; have HBB := hide hb; have HB2 := hide (((unhide HB1).trans ((balloc1 _ _).mono (unhide HB1).size)).trans (hb2.mono ((unhide HB1).trans ((balloc1 _ _).mono (unhide HB1).size)).size)); clear hb hb2))
  go_ret
  refine ⟨!b, rfl, ?_, unhide HB2⟩
  rw [← unhide HBB]
  cases b <;> simp
set_option maxRecDepth 100000 in
set_option maxHeartbeats 8000000 in
theorem pcheck_any (a1 a2 a3 : Option Addr) (c1 c2 c3 : Nat) (c : CodeD) (w : World) (C : Nat) (hC : C ≤ w.heap.size) (hI : CodeIn C w (.slice a1 c.ops.length c1) (.slice a2 c.fns.length c2) (.slice a3 c.kinds.length c3) c) (hcap : CapsIn w (.slice a1 c.ops.length c1) (.slice a3 c.kinds.length c3)) (hf : CodeFits c) (hc1 : c.ops.length ≤ c1) :
    Calls Try.prog 6 #[.agg #[.slice a1 c.ops.length c1, .slice a2 c.fns.length c2, .slice a3 c.kinds.length c3]] w (CPost c w) := by
  have HZ := hide (fun W => size_any a1 a2 a3 c1 c2 c3 c.ops.length c.fns.length c.kinds.length W)
  have HR := hide (fun W (hb : Below w.heap.size w W) hS => range_any a1 a2 a3 c1 c2 c3 c W C (Nat.le_trans hC hb.size) (hI.same (Same.of_below hb hC)) (hcap.same hI.kinds (Same.of_below hb hC)) hf hS)
  have HF := hide (fun W (hb : Below w.heap.size w W) hS hR => pform_any a1 a2 a3 c1 c2 c3 c W C (Nat.le_trans hC hb.size) (hI.same (Same.of_below hb hC)) hc1 hS hR)
  clear hI hcap hf hc1
  obtain ⟨bz, hbz⟩ : ∃ bz, bz = decide (c.ops.length ≤ 8000 ∧ c.fns.length ≤ 1200 ∧ c.kinds.length ≤ 1200 ∧ c.fns.length ≠ 0) := ⟨_, rfl⟩
  rw [← hbz] at HZ
  have HBZ : Hid (bz = true ↔ SizeOk c) := by
    show _ ↔ _
    rw [hbz, decide_eq_true_eq]
    rfl
  clear hbz
  cases bz with
  | false =>
    go_enter Try.func6, Try.ntmps6
    go_wp2_with (go_at_call 13; refine (unhide HZ _).mono ?_; rintro e w1 ⟨rfl, hb1⟩; have HB1 := hide ((balloc1 w _).trans (hb1.mono (balloc1 w _).size)); clear hb1)
    go_ret
    exact ⟨1, rfl, Or.inl ⟨rfl, fun h => by have := (unhide HBZ).2 h; cases this⟩, unhide HB1⟩
  | true =>
    have hS : Hid (SizeOk c) := (unhide HBZ).1 rfl
    go_enter Try.func6, Try.ntmps6
    go_wp2_with (first
      | (go_at_call 13; refine (unhide HZ _).mono ?_; rintro e w1 ⟨rfl, hb1⟩; have HX1 := hide ((hb1.block _ (by rw [heap_size_alloc]; omega)).trans (heap_alloc_new w _)); obtain ⟨x0, x1, x2⟩ := cells3 (unhide HX1); have HB1 := hide ((balloc1 w _).trans (hb1.mono (balloc1 w _).size)); clear hb1)
      | (go_at_call 14; refine (unhide HR _ (unhide HB1) (unhide hS)).mono ?_; rintro e w2 ⟨b, rfl, hrb, hb2⟩; have HRB := hide hrb; obtain ⟨z0, z1, z2⟩ := cells3 ((hb2.block _ (heap_lt (unhide HX1))).trans (unhide HX1)); have HB2 := hide ((unhide HB1).trans (hb2.mono (unhide HB1).size)); clear hrb hb2; cases b)
      | (go_at_call 15; refine (unhide HF _ (unhide HB2) (unhide hS) ((unhide HRB).1 (by simp))).mono ?_; rintro e w3 ⟨b, rfl, hfb, hb3⟩; have HFB := hide hfb; have HB3 := hide ((unhide HB2).trans (hb3.mono (unhide HB2).size)); clear hfb hb3; cases b))
    · go_ret
      exact ⟨11, rfl, Or.inr (Or.inl ⟨rfl, unhide hS, fun h => by have := (unhide HRB).2 h; cases this⟩), unhide HB2⟩
    · go_ret
      exact ⟨12, rfl, Or.inr (Or.inr (Or.inl ⟨rfl, unhide hS, (unhide HRB).1 (by simp), (unhide HFB).1 (by simp)⟩)), unhide HB3⟩
    · go_ret
      exact ⟨0, rfl, Or.inr (Or.inr (Or.inr ⟨rfl, unhide hS, (unhide HRB).1 (by simp), Classical.byContradiction fun hn => by have := (unhide HFB).2 hn; cases this⟩)), unhide HB3⟩
end
section
open Go.RowKit
theorem checks_all : PChecks := fun a1 a2 a3 c1 c2 c3 c w C hC hI hcap hf => pcheck_any a1 a2 a3 c1 c2 c3 c w C hC hI hcap hf (hcap.ops _ _ _ rfl)
theorem codeChecks_here : Rows.CodeChecksSaid := codeChecks_said checks_all
end
end Go.Proofs.Ytdemnolanlfblaa
