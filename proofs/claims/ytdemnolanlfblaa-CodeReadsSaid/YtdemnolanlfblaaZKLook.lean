import Derived.Test.YtdemnolanlfblaaZKStopAll
import Derived.Test.YtdemnolanlfblaaZCIn
set_option linter.all false
namespace Go.Proofs.Ytdemnolanlfblaa
section
open Go.RowKit Go.Maps
theorem RulesAt.look2 {nf nk no : Int} {b : Nat} {w : World} (h : RulesAt nf nk no b w) {k : Int} (hk : 1 ≤ k ∧ k ≤ 30) : ∃ v, (∀ W, Below w.heap.size w W → (Instr.lookup 58 (.map (some b)) (.int .i64 k) false).run Try.prog W = .ok v W) ∧ RuleIs w v (ruleT nf nk no k) := by
  obtain ⟨n, D, h1, h2⟩ := h
  obtain ⟨q1, u, q2, q3⟩ := (h2 k).1 ⟨hk.1, hk.2, rfl⟩
  refine ⟨u, fun W hb => ?_, q3⟩
  have h1' : W.ownsMap Try.prog 3 heldV b n D := by
    obtain ⟨es, clock, hbk, hF, hs, hD⟩ := h1
    exact ⟨es, clock, by rw [hb.block b (Array.getElem?_eq_some_iff.1 hbk).1]; exact hbk, hF, hs, hD⟩
  obtain ⟨v, ps, hrun, hv⟩ := h1'.lookup intKey Try.underlying58 (zeroRule_run W) (zd := .held zeroRule) (zp := []) rfl (key := .int .i64 k) (kl := .int .i64 k) (keyOf_int_mk Try.underlying3 (WalkArith.wf_i64 (by omega)))
  rw [q2] at hv
  simp only [heldV, Option.some.injEq, Prod.mk.injEq, DataW.held.injEq] at hv
  rw [hrun, hv.1]
def stopCells (p : StopD × Value) : List Value := [.bool p.1.shut, .int .i64 p.1.needs, .int .i64 p.1.slots, p.2]
def stopVals (l : List (StopD × Value)) : List Value := l.flatMap stopCells
theorem stopVals_snoc (l : List (StopD × Value)) (p : StopD × Value) : stopVals (l ++ [p]) = stopVals l ++ stopCells p := by simp [stopVals]
structure StopsAt (B : Nat) (w : World) (v : Value) (c : CodeD) (ss : List (StopD × Value)) : Prop where
  row : w.ownsRow B 90 4 v ss.length (stopVals ss)
  each : ∀ p ∈ ss, StepsAt B w p.2 p.1.ways
  fits : ∀ k p, ss[k]? = some p → StopFits c k p.1
theorem StopsAt.below {B : Nat} {w w' : World} {v : Value} {c : CodeD} {ss : List (StopD × Value)} (h : StopsAt B w v c ss) (hb : Below w.heap.size w w') : StopsAt B w' v c ss := ⟨own_below h.row hb, fun p hp => own_below (h.each p hp) hb, h.fits⟩
def LookPost (c : CodeD) (w : World) (e : Ending) (w' : World) : Prop := ∃ v ss, e = .returned v ∧ StopsAt w.heap.size w' v c ss ∧ ss.length = c.ops.length ∧ Below w.heap.size w w'
theorem stopInfo : (Try.prog.info? 90).map (fun i => (i.zero, i.size, i.bytes)) = some (some (.agg #[.bool false, .int .i64 0, .int .i64 0, .slice none 0 0]), 4, 48) := by kernel_rfl
theorem cells4_one {w : World} {b : Nat} {x y z u : Value} {t : TypeId} (h : w.heap[b]? = some (.cells #[x, y, z, u] t (0, 0))) : ∀ j v, [x, y, z, u][j]? = some v → w.cell? ⟨b, j, none⟩ = some v := by
  intro j v hj
  obtain ⟨h0, h1, h2, h3, _⟩ := cells4f h
  match j, hj with
  | 0, hj => simp at hj; subst hj; exact h0
  | 1, hj => simp at hj; subst hj; exact h1
  | 2, hj => simp at hj; subst hj; exact h2
  | 3, hj => simp at hj; subst hj; exact h3
set_option maxRecDepth 100000 in
set_option maxHeartbeats 16000000 in
theorem look_any (a1 a2 a3 : Option Addr) (c1 c2 c3 : Nat) (c : CodeD) (w : World) (C : Nat) (hC : C ≤ w.heap.size) (hI : CodeIn C w (.slice a1 c.ops.length c1) (.slice a2 c.fns.length c2) (.slice a3 c.kinds.length c3) c) (hcap : c.ops.length ≤ c1) (hS : SizeOk c) (hR : RangeOk c) :
    Calls Try.prog 29 #[.agg #[.slice a1 c.ops.length c1, .slice a2 c.fns.length c2, .slice a3 c.kinds.length c3]] w (LookPost c w) := by
  have HRU := hide (rules_any a1 a2 a3 c.ops.length c.fns.length c.kinds.length c1 c2 c3 hS.1 hS.2.1 hS.2.2.1)
  have HI := hide hI
  have HR := hide hR
  have hno : c.ops.length ≤ 8000 := hS.1
  have HS := hide hS
  clear hI hR hS
  go_enter Try.func29, Try.ntmps29
  go_wp2_with (go_at_call 25; refine (unhide HRU _).mono ?_; rintro e w1 ⟨mb, rfl, hm1, hb1⟩; have HM1 := hide hm1; have HBX1 := hide ((hb1.block _ (by rw [heap_size_alloc]; omega)).trans (heap_alloc_new w _)); have HBW1 := hide ((balloc1 w _).trans (hb1.mono (by rw [heap_size_alloc]; omega))); obtain ⟨x0, x1, x2⟩ := cells3 (unhide HBX1); clear hm1 hb1)
  go_loopg [12, 4] c.ops.length (fun r iv ov wr => ∃ ss : List (StopD × Value), ss.length ≤ c.ops.length ∧ r = c.ops.length - ss.length ∧ iv = .int .i64 (ss.length : Int) ∧ Below w1.heap.size w1 wr ∧ StopsAt w1.heap.size wr ov c ss)
  case atStart => exact ⟨[], Nat.zero_le _, rfl, rfl, Below.refl _ _, World.ownsRow_nil _ _ _ _, by simp, by simp⟩
  case round =>
    clear x0 x1 x2
    obtain ⟨ss, hi, rfl, rfl, hb, hst⟩ := hrel
    have hlt0 : w.heap.size < w1.heap.size := heap_lt (unhide HBX1)
    have hz1 := hb.size
    obtain ⟨y0, y1, y2⟩ := cells3 ((hb.block _ hlt0).trans (unhide HBX1))
    obtain ⟨va, vc, rfl⟩ := own_form hst.row
    have HB := hide hb
    have HST := hide hst
    clear hb hst
    have hlt1 : w.heap.size < wr.heap.size := by omega
    by_cases hlt : ss.length < c.ops.length
    · have hltz : (ss.length : Int) < (c.ops.length : Int) := by omega
      have hbw : Below w.heap.size w wr := (unhide HBW1).trans ((unhide HB).mono (by omega))
      have HBW := hide hbw
      obtain ⟨o, hoi⟩ : ∃ o, c.ops[ss.length]? = some o := ⟨_, List.getElem?_eq_getElem hlt⟩
      obtain ⟨ob, oq, rfl, hob, v0, v1, v2⟩ := ops_at (((unhide HI).same (Same.of_below hbw hC)).ops) hoi
      have hobz : ob < wr.heap.size := by omega
      have hd : 1 ≤ o.d ∧ o.d ≤ 30 := by
        have := (unhide HR).ops o (List.mem_of_getElem? hoi)
        simp only [OpOk, rangesB, Bool.and_eq_true] at this
        simpa [inB] using this.1
      obtain ⟨rv, hlook, hrule⟩ := ((unhide HM1).below (unhide HB)).look2 hd
      have HL := hide hlook
      have HST1 : Hid (∀ W, Below wr.heap.size wr W → Calls Try.prog 50 #[.agg #[.slice (some ⟨ob, oq, none⟩) c.ops.length c1, .slice a2 c.fns.length c2, .slice a3 c.kinds.length c3], rv, .int .i64 (ss.length : Int)] W (FitPost c ss.length W)) := fun W hW => stop_all c ((unhide HI).same (Same.of_below (hbw.trans (hW.mono hbw.size)) hC)) (Nat.le_trans hC (Nat.le_trans hbw.size hW.size)) hcap (unhide HS) (unhide HR) hoi (hrule.keep fun g u hu => (hW.cell (p := ⟨g, 0, none⟩) (cell_lt hu)).trans hu)
      clear hoi hlook hrule hbw
      go_wp2_with (first
        | (at_lookup; refine wpList_rlook rfl (.tmp 19) (.tmp 21) false rfl mb o.d _ rfl rfl (unhide HL _ (balloc1 _ _)) ?_)
        | (go_at_call 50; refine (unhide HST1 _ (balloc1 _ _)).mono ?_; rintro e w2 ⟨s2, hf2, wv2, rfl, hr2, hb2⟩; have HF2 := hide hf2; obtain ⟨wa2, wc2, hwv2⟩ := own_form hr2; subst hwv2; have HR2 := hide hr2; have HB2 := hide ((balloc1 wr _).trans (hb2.mono (balloc1 wr _).size)); have hz2 := hb2.size; rw [heap_size_alloc] at hz2; clear hf2 hr2 hb2)
        | (at_builtin; refine wpList_one_own 67 90 (.agg #[.bool false, .int .i64 0, .int .i64 0, .slice none 0 0]) 4 48 Try.underlying67 stopInfo rfl (by omega) (by omega) rfl (.tmp 17) (.tmp 25) rfl w1.heap.size (.slice va ss.length vc) ss.length (stopVals ss) rfl (own_below (own_below (unhide HST).row (unhide HB2)) (balloc1 _ _)) w2.heap.size (stopCells (s2, .slice wa2 s2.ways.length wc2)) rfl rfl (cells4_one (heap_alloc_new _ _)) (by simp [stopCells, Value.oneCell']) (by omega) (by simp; omega) ?_; intro v3 w3 hown3 hgrow3 hloc3; obtain ⟨va3, vc3, hv3⟩ := own_form hown3; subst hv3; have HOWN3 := hide hown3; have HG3 := hide hgrow3; clear hown3 hgrow3 hloc3))
      go_roundg (c.ops.length - (ss.length + 1))
      case measure => omega
      case rel =>
        have hst := unhide HST
        have hrow2 := own_below (own_below hst.row (unhide HB2)) (balloc1 w2 (.cells #[.bool s2.shut, .int .i64 s2.needs, .int .i64 s2.slots, .slice wa2 s2.ways.length wc2] 90))
        have hge : ∀ g, (Value.slice va ss.length vc).ownBlock = some g → w1.heap.size ≤ g := fun g hg => (hst.row.lt g hg).1
        have hb12 : Below w1.heap.size w1 w2 := (unhide HB).trans ((unhide HB2).mono (by omega))
        have hkeep : ∀ (v : Value) (l : List (Int × Int)), StepsAt w1.heap.size w2 v l → StepsAt w1.heap.size w3 v l := fun v l h => World.ownsRow.kept (own_below h (balloc1 w2 _)) (unhide HG3) (own_apart (own_below h (balloc1 w2 _)) hrow2 (by decide))
        refine ⟨ss ++ [(s2, .slice wa2 s2.ways.length wc2)], by simp; omega, by simp, by simp; try go_num, (hb12.alloc (by omega) _).grown (unhide HG3) (by rw [heap_size_alloc]; omega) hge, ⟨?_, ?_, ?_⟩⟩
        · rw [stopVals_snoc, List.length_append]
          exact unhide HOWN3
        · intro p hp
          simp only [List.mem_append, List.mem_singleton] at hp
          rcases hp with hp | rfl
          · exact hkeep _ _ (own_below (hst.each p hp) (unhide HB2))
          · exact hkeep _ _ (own_mono (unhide HR2) (by rw [heap_size_alloc]; omega))
        · intro k p hk
          by_cases hkl : k < ss.length
          · rw [List.getElem?_append_left hkl] at hk
            exact hst.fits k p hk
          · rw [List.getElem?_append_right (by omega)] at hk
            have hk0 : k - ss.length = 0 := by
              have := (List.getElem?_eq_some_iff.1 hk).1
              simp at this
              omega
            rw [hk0] at hk
            simp at hk
            subst hk
            obtain rfl : k = ss.length := by omega
            exact unhide HF2
    · have hltz : ¬ (ss.length : Int) < (c.ops.length : Int) := by omega
      have hbw : Below w.heap.size w wr := (unhide HBW1).trans ((unhide HB).mono (by omega))
      have HBW := hide hbw
      clear hbw
      go_wp2
      go_ret
      exact ⟨_, ss, rfl, ⟨own_mono (unhide HST).row (by omega), fun p hp => own_mono ((unhide HST).each p hp) (by omega), (unhide HST).fits⟩, by omega, unhide HBW⟩
end
end Go.Proofs.Ytdemnolanlfblaa
