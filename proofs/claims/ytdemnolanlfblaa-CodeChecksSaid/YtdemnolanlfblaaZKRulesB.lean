import Derived.Test.YtdemnolanlfblaaZKRules
import Derived.Test.YtdemnolanlfblaaZCNum
set_option linter.all false
namespace Go.Proofs.Ytdemnolanlfblaa
section
open Go.RowKit Go.Maps
def RulesAt (nf nk no : Int) (b : Nat) (w : World) : Prop := ∃ n D, w.ownsMap Try.prog 3 heldV b n D ∧ MapIs nf nk no w D (fun _ => true)
theorem RulesAt.below {nf nk no : Int} {b : Nat} {w w' : World} (h : RulesAt nf nk no b w) (hb : Below w.heap.size w w') : RulesAt nf nk no b w' := by
  obtain ⟨n, D, ⟨es, clock, hbk, hF, hs, hD⟩, h2⟩ := h
  exact ⟨n, D, ⟨es, clock, by rw [hb.block b (Array.getElem?_eq_some_iff.1 hbk).1]; exact hbk, hF, hs, hD⟩, h2.keep (fun g u hu => (hb.cell (p := ⟨g, 0, none⟩) (cell_lt hu)).trans hu) (fun _ _ _ => rfl)⟩
theorem RulesAt.ok {nf nk no : Int} {b : Nat} {w : World} (h : RulesAt nf nk no b w) {k : Int} (hk : I64 k) : ∃ v, (Instr.lookup 58 (.map (some b)) (.int .i64 k) true).run Try.prog w = .ok (.tuple #[v, .bool (inB k 1 30)]) w ∧ (inB k 1 30 = true → RuleIs w v (ruleT nf nk no k)) ∧ (inB k 1 30 = false → v = zeroRule) := by
  obtain ⟨n, D, h1, h2⟩ := h
  obtain ⟨v, ps, hrun, hv⟩ := h1.look_ok intKey Try.underlying58 (zeroRule_run w) (zd := .held zeroRule) (zp := []) rfl (key := .int .i64 k) (kl := .int .i64 k) (keyOf_int_mk Try.underlying3 (WalkArith.wf_i64 (by unfold I64 at hk; omega)))
  by_cases hb : 1 ≤ k ∧ k ≤ 30
  · have hin : inB k 1 30 = true := by simp [inB, hb]
    obtain ⟨q1, u, q2, q3⟩ := (h2 k).1 ⟨hb.1, hb.2, rfl⟩
    rw [q1] at hrun
    rw [q2] at hv
    simp only [heldV, Option.some.injEq, Prod.mk.injEq, DataW.held.injEq] at hv
    refine ⟨v, by rw [hin]; exact hrun, fun _ => by rw [hv.1]; exact q3, fun e => by rw [hin] at e; cases e⟩
  · have hin : inB k 1 30 = false := by simp [inB]; omega
    obtain ⟨q1, q2⟩ := (h2 k).2 (fun hx => hb ⟨hx.1, hx.2.1⟩)
    rw [q1] at hrun
    rw [q2] at hv
    simp only [heldV, Option.some.injEq, Prod.mk.injEq, DataW.held.injEq] at hv
    exact ⟨v, by rw [hin]; exact hrun, (fun e => by rw [hin] at e; cases e), fun _ => hv.1⟩
theorem RulesAt.look {nf nk no : Int} {b : Nat} {w : World} (h : RulesAt nf nk no b w) {k : Int} (hk : 1 ≤ k ∧ k ≤ 30) : ∃ v, (Instr.lookup 58 (.map (some b)) (.int .i64 k) false).run Try.prog w = .ok v w ∧ RuleIs w v (ruleT nf nk no k) := by
  obtain ⟨n, D, h1, h2⟩ := h
  obtain ⟨v, ps, hrun, hv⟩ := h1.lookup intKey Try.underlying58 (zeroRule_run w) (zd := .held zeroRule) (zp := []) rfl (key := .int .i64 k) (kl := .int .i64 k) (keyOf_int_mk Try.underlying3 (WalkArith.wf_i64 (by omega)))
  obtain ⟨q1, u, q2, q3⟩ := (h2 k).1 ⟨hk.1, hk.2, rfl⟩
  rw [q2] at hv
  simp only [heldV, Option.some.injEq, Prod.mk.injEq, DataW.held.injEq] at hv
  exact ⟨v, hrun, by rw [hv.1]; exact q3⟩
def RulesPost (nf nk no : Int) (w : World) (e : Ending) (w' : World) : Prop := ∃ b, e = .returned (.map (some b)) ∧ RulesAt nf nk no b w' ∧ Below w.heap.size w w'
theorem below_drew_of {w w' : World} (h : Below w.drew.heap.size w.drew w') : Below w.heap.size w w' := ⟨h.os, h.tape, h.output, h.size, h.block⟩
structure Bx (u v x : Value) (w W : World) : Prop where
  c0 : W.cell? ⟨w.heap.size, 0, none⟩ = some u
  c1 : W.cell? ⟨w.heap.size, 1, none⟩ = some v
  c2 : W.cell? ⟨w.heap.size, 2, none⟩ = some x
  below : Below w.heap.size w W
theorem Bx.made (u v x : Value) (t : TypeId) (w : World) : Bx u v x w (w.alloc (.cells #[u, v, x] t)) := ⟨by simp, by simp, by simp, (Below.refl _ w).alloc (Nat.le_refl _) _⟩
theorem Bx.step {u v x : Value} {w W W' : World} (h : Bx u v x w W) (hb : Below W.heap.size W W') : Bx u v x w W' :=
  ⟨(hb.cell (p := ⟨_, 0, none⟩) (cell_lt h.c0)).trans h.c0, (hb.cell (p := ⟨_, 1, none⟩) (cell_lt h.c0)).trans h.c1, (hb.cell (p := ⟨_, 2, none⟩) (cell_lt h.c0)).trans h.c2, h.below.trans (hb.mono h.below.size)⟩
def UpPost (last : Int) (w : World) (e : Ending) (w' : World) : Prop := ∃ g, e = .returned (.func (.func 57) #[] #[.pointer (some ⟨g, 0, none⟩)]) ∧ AskIs w' (.func (.func 57) #[] #[.pointer (some ⟨g, 0, none⟩)]) (fun n => inB n 0 last) ∧ Below w.heap.size w w'
theorem upTo_post (last : Int) (w : World) : Calls Try.prog 45 #[.int .i64 last] w (UpPost last w) := by
  refine (upTo_any last w).mono ?_
  rintro e w1 ⟨rfl, hw1⟩
  refine ⟨_, rfl, Or.inr (Or.inl ⟨_, last, rfl, ?_, fun _ => rfl⟩), ?_⟩
  · rw [hw1]
    simp only [World.cell?, heap_alloc_new]
    rfl
  · rw [hw1]
    exact (Below.refl _ w).alloc (Nat.le_refl _) _
set_option maxHeartbeats 8000000 in
theorem rules_any (a1 a2 a3 : Option Addr) (no nf nk c1 c2 c3 : Nat) (hno : no ≤ 8000) (hnf : nf ≤ 1200) (hnk : nk ≤ 1200) (w : World) : Calls Try.prog 25 #[.agg #[.slice a1 no c1, .slice a2 nf c2, .slice a3 nk c3]] w (RulesPost nf nk no w) := by
  have HU := hide upTo_post
  go_enter Try.func25, Try.ntmps25
  go_wp2_with (first
    | (go_at_call 45; refine (unhide HU _ _).mono ?_; rintro e w2 ⟨g2, rfl, k2, hb2⟩; have B2 := hide ((unhide B1).step hb2); have K2 := hide k2; have HB2 := hide hb2; have q0 := (unhide B2).c0; have q1 := (unhide B2).c1; have q2 := (unhide B2).c2; clear k2 hb2)
    | (go_at_call 45; refine (unhide HU _ _).mono ?_; rintro e w1 ⟨g1, rfl, k1, hb1⟩; have B1 := hide ((Bx.made _ _ _ _ w).step hb1); have K1 := hide k1; clear k1 hb1))
  go_region_held3 (fun w' => w'.cell? ⟨w.heap.size, 0, none⟩ = some (.slice a1 no c1) ∧ w'.cell? ⟨w.heap.size, 1, none⟩ = some (.slice a2 nf c2) ∧ w'.cell? ⟨w.heap.size, 2, none⟩ = some (.slice a3 nk c3)) (go_keep) (first
    | (go_at_call 45; refine (unhide HU _ _).mono ?_; rintro e w5 ⟨g5, rfl, k5, hb5⟩; have B5 := hide ((unhide B4).step hb5); have K5 := hide k5; have HB5 := hide hb5; have s0 := (unhide B5).c0; have s1 := (unhide B5).c1; have s2 := (unhide B5).c2; clear k5 hb5)
    | (go_at_call 45; refine (unhide HU _ _).mono ?_; rintro e w4 ⟨g4, rfl, k4, hb4⟩; have B4 := hide ((unhide B3).step hb4); have K4 := hide k4; have HB4 := hide hb4; have r0 := (unhide B4).c0; have r1 := (unhide B4).c1; have r2 := (unhide B4).c2; clear k4 hb4)
    | (go_at_call 45; refine (unhide HU _ _).mono ?_; rintro e w3 ⟨g3, rfl, k3, hb3⟩; have hb3' := below_drew_of hb3; have B3 := hide ((unhide B2).step hb3'); have K3 := hide k3; have HB3 := hide hb3'; have p0 := (unhide B3).c0; have p1 := (unhide B3).c1; have p2 := (unhide B3).c2; clear k3 hb3 hb3'))
  rename_i K HK _
  have e1 : IntKind.i64.wrap ((no : Int) - 1) = (no : Int) - 1 := by rw [IntKind.wrap_i64]; omega
  have e2 : IntKind.i64.wrap ((nf : Int) - 1) = (nf : Int) - 1 := by rw [IntKind.wrap_i64]; omega
  have e3 : IntKind.i64.wrap ((nk : Int) - 1) = (nk : Int) - 1 := by rw [IntKind.wrap_i64]; omega
  rw [e1] at K3
  rw [e2] at K4
  rw [e3] at K5
  refine HK _ _ (wp_seq ?_)
  have hb25 : Below w2.heap.size w2 w5 := (unhide HB3).trans (((unhide HB4).mono (unhide HB3).size).trans ((unhide HB5).mono (Nat.le_trans (unhide HB3).size (unhide HB4).size)))
  refine rules_region (nf := nf) (nk := nk) (no := no) (w0 := w) (by kernel_rfl) (by kernel_rfl) (by kernel_rfl) ⟨by simp, rfl, rfl, ((unhide K1).below (unhide HB2)).below hb25, (unhide K2).below hb25, ((unhide K3).below (unhide HB4)).below (unhide HB5), (unhide K4).below (unhide HB5), unhide K5, fun t h1 h2 h3 => ?_, fun h3 => ?_, fun h3 => ?_, fun h3 => ?_, fun h3 => ?_, fun _ => ⟨fun k _ _ => ?_, ?_⟩, (unhide B5).below⟩ (fun a' w' b n D h1 h2 h3 h4 h5 h6 h7 => ?_)
  · simp [Array.getD] at h3
  · simp [Array.getD] at h3
  · simp [Array.getD] at h3
  · simp [Array.getD] at h3
  · simp [Array.getD] at h3
  · simp [Array.getD]
  · simp [Array.getD]
  · show Code.wp _ _ _ a' w'
    refine wp_ret (bodyPost_ret (v := .map (some b)) ?_ h1 ⟨b, rfl, ⟨n, D, h5, h6⟩, h7⟩)
    have h3' : a'.tmps.getD 2 undef = .map (some b) := h3
    rw [← h3']
    exact results_tmp rfl _ _ _
end
end Go.Proofs.Ytdemnolanlfblaa
