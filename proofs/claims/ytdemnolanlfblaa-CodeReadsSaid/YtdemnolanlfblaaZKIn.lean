import Derived.Test.YtdemnolanlfblaaZKKind
import Derived.Test.YtdemnolanlfblaaZCCheck
set_option linter.all false
namespace Go.Proofs.Ytdemnolanlfblaa
section
open Go.RowKit Go.Maps
theorem RulesAt.all {nf nk no : Int} {b : Nat} {w : World} (h : RulesAt nf nk no b w) {k : Int} (hk : I64 k) : ∃ v, (∀ W, Below w.heap.size w W → (Instr.lookup 58 (.map (some b)) (.int .i64 k) true).run Try.prog W = .ok (.tuple #[v, .bool (inB k 1 30)]) W) ∧ (inB k 1 30 = true → RuleIs w v (ruleT nf nk no k)) ∧ (inB k 1 30 = false → v = zeroRule) := by
  obtain ⟨n, D, h1, h2⟩ := h
  have hlook : ∀ W, Below w.heap.size w W → ∃ v ps, (Instr.lookup 58 (.map (some b)) (.int .i64 k) true).run Try.prog W = .ok (.tuple #[v, .bool (Maps.has D (.int .i64 k))]) W ∧ heldV v = some (D.atKey (.int .i64 k) (.held zeroRule), ps) := by
    intro W hb
    have h1' : W.ownsMap Try.prog 3 heldV b n D := by
      obtain ⟨es, clock, hbk, hF, hs, hD⟩ := h1
      exact ⟨es, clock, by rw [hb.block b (Array.getElem?_eq_some_iff.1 hbk).1]; exact hbk, hF, hs, hD⟩
    exact h1'.look_ok intKey Try.underlying58 (zeroRule_run W) (zd := .held zeroRule) (zp := []) rfl (keyOf_int_mk Try.underlying3 (WalkArith.wf_i64 (by unfold I64 at hk; omega)))
  by_cases hb : 1 ≤ k ∧ k ≤ 30
  · have hin : inB k 1 30 = true := by simp [inB, hb]
    obtain ⟨q1, u, q2, q3⟩ := (h2 k).1 ⟨hb.1, hb.2, rfl⟩
    refine ⟨u, fun W hW => ?_, fun _ => q3, fun e => by rw [hin] at e; cases e⟩
    obtain ⟨v, ps, hrun, hv⟩ := hlook W hW
    rw [q2] at hv
    simp only [heldV, Option.some.injEq, Prod.mk.injEq, DataW.held.injEq] at hv
    rw [hrun, q1, hin, hv.1]
  · have hin : inB k 1 30 = false := by simp [inB]; omega
    obtain ⟨q1, q2⟩ := (h2 k).2 (fun hx => hb ⟨hx.1, hx.2.1⟩)
    refine ⟨zeroRule, fun W hW => ?_, (fun e => by rw [hin] at e; cases e), fun _ => rfl⟩
    obtain ⟨v, ps, hrun, hv⟩ := hlook W hW
    rw [q2] at hv
    simp only [heldV, Option.some.injEq, Prod.mk.injEq, DataW.held.injEq] at hv
    rw [hrun, q1, hin, hv.1]
theorem size_any (a1 a2 a3 : Option Addr) (c1 c2 c3 no nf nk : Nat) (w : World) : Calls Try.prog 13 #[.agg #[.slice a1 no c1, .slice a2 nf c2, .slice a3 nk c3]] w fun e w' => e = .returned (.bool (decide (no ≤ 8000 ∧ nf ≤ 1200 ∧ nk ≤ 1200 ∧ nf ≠ 0))) ∧ Below w.heap.size w w' := by
  have HW : Hid (∀ o, Below w.heap.size w (w.alloc o)) := fun o => (Below.refl _ w).alloc (Nat.le_refl _) o
  by_cases h1 : no ≤ 8000
  · have h1z : (no : Int) ≤ 8000 := by omega
    by_cases h2 : nk ≤ 1200
    · have h2z : (nk : Int) ≤ 1200 := by omega
      by_cases h3 : 0 < nf
      · have h3z : (0 : Int) < (nf : Int) := by omega
        go_enter Try.func13, Try.ntmps13
        go_wp2
        go_ret
        exact ⟨ret_bool (by rw [Bool.eq_iff_iff] <;> simp <;> omega), unhide HW _⟩
      · have h3z : ¬ (0 : Int) < (nf : Int) := by omega
        go_enter Try.func13, Try.ntmps13
        go_wp2
        go_ret
        exact ⟨ret_bool (by rw [Bool.eq_iff_iff] <;> simp <;> omega), unhide HW _⟩
    · have h2z : ¬ (nk : Int) ≤ 1200 := by omega
      go_enter Try.func13, Try.ntmps13
      go_wp2
      go_ret
      exact ⟨ret_bool (by rw [Bool.eq_iff_iff] <;> simp <;> omega), unhide HW _⟩
  · have h1z : ¬ (no : Int) ≤ 8000 := by omega
    go_enter Try.func13, Try.ntmps13
    go_wp2
    go_ret
    exact ⟨ret_bool (by rw [Bool.eq_iff_iff] <;> simp <;> omega), unhide HW _⟩
theorem wpList_rlook {w : World} {ops : Array Oper} {rest : List Oper} {o : Oper} {a : Act} {Q : Exit → Act → World → Prop} (hg : o.guard = none) (m x : Operand) (c : Bool) (hop : o.op = Op.lookup 58 m x c) (b : Nat) (k : Int) (v : Value) (hm : a.eval m = .map (some b)) (hx : a.eval x = .int .i64 k) (hr : (Instr.lookup 58 (.map (some b)) (.int .i64 k) c).run Try.prog w = .ok v w) (hK : wpList Try.prog ops Q rest (a.put o.dst v) w) : wpList Try.prog ops Q (o :: rest) a w := by
  refine wpList_plain hg fun K hK' => ?_
  unfold Oper.wp
  simp [execOp, hop, hm, hx, hr, Result.andThen]
  exact hK' _ _ hK
theorem wpList_rlook_any {w : World} {ops : Array Oper} {rest : List Oper} {o : Oper} {a : Act} {Q : Exit → Act → World → Prop} (hg : o.guard = none) (m x : Operand) (c : Bool) (hop : o.op = Op.lookup 58 m x c) (b : Nat) (k : Int) (v : Value) (hm : a.eval m = .map (some b)) (hx : a.eval x = .int .i64 k) (hr : (Instr.lookup 58 (.map (some b)) (.int .i64 k) c).run Try.prog w = .ok v w) (hK : wpList Try.prog ops Q rest (a.put o.dst v) w) : wpList Try.prog ops Q (o :: rest) a w := wpList_rlook hg m x c hop b k v hm hx hr hK
def RgPost (c : CodeD) (w : World) (e : Ending) (w' : World) : Prop := ∃ t : Bool, e = .returned (.bool t) ∧ (t = true ↔ RangeOk c) ∧ Below w.heap.size w w'
theorem rg_no {c : CodeD} {w w' : World} (h : ¬ RangeOk c) (hb : Below w.heap.size w w') : RgPost c w (.returned (.bool false)) w' := ⟨false, rfl, ⟨fun e => (by cases e), fun e => absurd e h⟩, hb⟩
theorem rg_yes {c : CodeD} {w w' : World} (h : RangeOk c) (hb : Below w.heap.size w w') : RgPost c w (.returned (.bool true)) w' := ⟨true, rfl, ⟨fun _ => h, fun _ => rfl⟩, hb⟩
set_option maxRecDepth 100000 in
set_option maxHeartbeats 16000000 in
theorem range_any (a1 a2 a3 : Option Addr) (c1 c2 c3 : Nat) (c : CodeD) (w : World) (C : Nat) (hC : C ≤ w.heap.size) (hI : CodeIn C w (.slice a1 c.ops.length c1) (.slice a2 c.fns.length c2) (.slice a3 c.kinds.length c3) c) (hcap : CapsIn w (.slice a1 c.ops.length c1) (.slice a3 c.kinds.length c3)) (hf : CodeFits c) (hS : SizeOk c) :
    Calls Try.prog 14 #[.agg #[.slice a1 c.ops.length c1, .slice a2 c.fns.length c2, .slice a3 c.kinds.length c3]] w (RgPost c w) := by
  have HRU := hide (rules_any a1 a2 a3 c.ops.length c.fns.length c.kinds.length c1 c2 c3 hS.1 hS.2.1 hS.2.2.1)
  have HO := hide hI.ops
  have HF := hide hI.fns
  have HK := hide hI.kinds
  have HCAP := hide hcap
  have HFIT := hide hf
  have hno : c.ops.length ≤ 8000 := hS.1
  have hnf : c.fns.length ≤ 1200 := hS.2.1
  have hnk : c.kinds.length ≤ 1200 := hS.2.2.1
  have HB1 : Hid (∀ o, Below w.heap.size w (w.alloc o)) := fun o => (Below.refl _ _).alloc (Nat.le_refl _) o
  clear hI hcap hf hS
  go_enter Try.func14, Try.ntmps14
  go_wp2_with (go_at_call 25; refine (unhide HRU _).mono ?_; rintro e w1 ⟨mb, rfl, hm1, hb1⟩; have HM1 := hide hm1; have HBX1 := hide ((hb1.block _ (by rw [heap_size_alloc]; omega)).trans (heap_alloc_new w _)); have HBW1 := hide ((unhide HB1 _).trans (hb1.mono (by rw [heap_size_alloc]; omega))); obtain ⟨x0, x1, x2⟩ := cells3 (unhide HBX1); clear hm1 hb1)
  go_loopg [17] c.ops.length (fun r iv wr => ∃ i : Nat, i ≤ c.ops.length ∧ r = c.ops.length - i ∧ iv = .int .i64 (i : Int) ∧ wr.heap[w.heap.size]? = some (.cells #[.slice a1 c.ops.length c1, .slice a2 c.fns.length c2, .slice a3 c.kinds.length c3] 26 (0, 0)) ∧ Below w.heap.size w wr ∧ RulesAt c.fns.length c.kinds.length c.ops.length mb wr ∧ ∀ o ∈ c.ops.take i, OpOk c o)
  case atStart => exact ⟨0, Nat.zero_le _, rfl, rfl, unhide HBX1, unhide HBW1, unhide HM1, by simp⟩
  case round =>
    clear x0 x1 x2
    obtain ⟨i, hi, rfl, rfl, hbx, hb, hm, hall⟩ := hrel
    obtain ⟨y0, y1, y2⟩ := cells3 hbx
    have hlt0 : w.heap.size < wr.heap.size := (Array.getElem?_eq_some_iff.1 hbx).1
    have HBX := hide hbx
    have HB := hide hb
    have HM := hide hm
    have HALL := hide hall
    clear hbx hb hall hm
    by_cases hlt : i < c.ops.length
    · have hltz : (i : Int) < (c.ops.length : Int) := by omega
      obtain ⟨o, hoi⟩ : ∃ o, c.ops[i]? = some o := ⟨_, List.getElem?_eq_getElem hlt⟩
      obtain ⟨ob, oq, rfl, hob, v0, v1, v2⟩ := ops_at ((unhide HO).same (Same.of_below (unhide HB) hC)) hoi
      have hobz : ob < wr.heap.size := by omega
      have HMEM := hide (List.mem_of_getElem? hoi)
      have HOI := hide hoi
      obtain ⟨rv, hlook, hyes, hnot⟩ := (unhide HM).all ((unhide HFIT).ops o (unhide HMEM)).1
      have HL := hide hlook
      have HYES := hide hyes
      have HNOT := hide hnot
      clear hoi hlook hyes hnot
      have HBA : Hid (∀ x, Below wr.heap.size wr (wr.alloc x)) := fun x => (Below.refl _ _).alloc (Nat.le_refl _) x
      have HBB : Hid (∀ x y, Below wr.heap.size wr ((wr.alloc x).alloc y)) := fun x y => ((Below.refl _ _).alloc (Nat.le_refl _) x).alloc (by rw [heap_size_alloc]; omega) y
      cases hin : inB o.d 1 30 with
      | false =>
        have hrv := unhide HNOT hin
        subst hrv
        rw [hin] at HL
        have hR : Hid (¬ RangeOk c) := fun h => by have := h.ops o (unhide HMEM); simp [OpOk, rangesB, hin] at this
        have hzr : zeroRule = .agg #[.nilFunc, .nilFunc, .int .i64 0, .bool false, .int .i64 0] := rfl
        rw [hzr] at HL
        go_wp2_with (at_lookup; refine wpList_rlook rfl (.tmp 22) (.tmp 24) true rfl mb o.d _ rfl rfl (unhide HL _ (unhide HBA _)) ?_)
        go_ret
        exact rg_no (unhide hR) ((unhide HB).trans ((unhide HBB _ _).mono (unhide HB).size))
      | true =>
        rw [hin] at HL
        have hrule := unhide HYES hin
        have HAL : Hid (∀ W, Below wr.heap.size wr W → Calls Try.prog 26 #[rv, .agg #[.int .i64 o.d, .int .i64 o.a, .int .i64 o.b]] W fun e w' => e = .returned (.bool (aOk c.fns.length c.kinds.length c.ops.length o && bOk c.ops.length o)) ∧ Below W.heap.size W w') := fun W hW => allows_any (hrule.keep fun g u hu => (hW.cell (p := ⟨g, 0, none⟩) (cell_lt hu)).trans hu) o
        obtain ⟨fa, fb, hrv, ha, hb⟩ := hrule
        have hfa := ha.fn
        have hfb := hb.fn
        clear ha hb
        generalize (ruleT c.fns.length c.kinds.length c.ops.length o.d).takes = rt at hrv
        generalize (ruleT c.fns.length c.kinds.length c.ops.length o.d).more = rm at hrv
        generalize (ruleT c.fns.length c.kinds.length c.ops.length o.d).puts = rp at hrv
        have hOB : OpOk c o ↔ (aOk c.fns.length c.kinds.length c.ops.length o && bOk c.ops.length o) = true := by simp [OpOk, rangesB, hin]
        have HOB := hide hOB
        clear hOB
        generalize (aOk c.fns.length c.kinds.length c.ops.length o && bOk c.ops.length o) = okb at HAL HOB
        have HNX : Hid (okb = true → ∀ p ∈ c.ops.take (i + 1), OpOk c p) := by
          intro hokb p hp
          rw [take_snoc' (unhide HOI)] at hp
          simp only [List.mem_append, List.mem_singleton] at hp
          rcases hp with hp | rfl
          · exact unhide HALL p hp
          · exact (unhide HOB).2 hokb
        have HNO : Hid (okb = false → ¬ RangeOk c) := fun e h => by
          have := (unhide HOB).1 (h.ops o (unhide HMEM))
          rw [e] at this
          cases this
        clear HOB HYES HNOT HALL
        subst hrv
        rcases hfa with rfl | ⟨ff1, cc1, rfl⟩ <;> rcases hfb with rfl | ⟨ff2, cc2, rfl⟩ <;> cases okb
        · go_wp2_with (first | (at_lookup; refine wpList_rlook rfl (.tmp 22) (.tmp 24) true rfl mb o.d _ rfl rfl (unhide HL _ (unhide HBA _)) ?_) | (go_at_call 26; refine (unhide HAL _ (unhide HBB _ _)).mono ?_; rintro e w2 ⟨rfl, hb2⟩; have HB2 := hide ((unhide HB).trans (((unhide HBB _ _).trans (hb2.mono (unhide HBB _ _).size)).mono (unhide HB).size)); have HBX2 := hide (bx_below (bx_below (unhide HBX) (unhide HBB _ _)) hb2); have HM2 := hide (((unhide HM).below (unhide HBB _ _)).below hb2); clear hb2))
          go_ret
          exact rg_no (unhide HNO (by simp)) (unhide HB2)
        · go_wp2_with (first | (at_lookup; refine wpList_rlook rfl (.tmp 22) (.tmp 24) true rfl mb o.d _ rfl rfl (unhide HL _ (unhide HBA _)) ?_) | (go_at_call 26; refine (unhide HAL _ (unhide HBB _ _)).mono ?_; rintro e w2 ⟨rfl, hb2⟩; have HB2 := hide ((unhide HB).trans (((unhide HBB _ _).trans (hb2.mono (unhide HBB _ _).size)).mono (unhide HB).size)); have HBX2 := hide (bx_below (bx_below (unhide HBX) (unhide HBB _ _)) hb2); have HM2 := hide (((unhide HM).below (unhide HBB _ _)).below hb2); clear hb2))
          go_roundg (c.ops.length - (i + 1))
          case measure => omega
          case rel => exact ⟨i + 1, by omega, rfl, by go_num, unhide HBX2, unhide HB2, unhide HM2, unhide HNX (by simp)⟩
        · go_wp2_with (first | (at_lookup; refine wpList_rlook rfl (.tmp 22) (.tmp 24) true rfl mb o.d _ rfl rfl (unhide HL _ (unhide HBA _)) ?_) | (go_at_call 26; refine (unhide HAL _ (unhide HBB _ _)).mono ?_; rintro e w2 ⟨rfl, hb2⟩; have HB2 := hide ((unhide HB).trans (((unhide HBB _ _).trans (hb2.mono (unhide HBB _ _).size)).mono (unhide HB).size)); have HBX2 := hide (bx_below (bx_below (unhide HBX) (unhide HBB _ _)) hb2); have HM2 := hide (((unhide HM).below (unhide HBB _ _)).below hb2); clear hb2))
          go_ret
          exact rg_no (unhide HNO (by simp)) (unhide HB2)
        · go_wp2_with (first | (at_lookup; refine wpList_rlook rfl (.tmp 22) (.tmp 24) true rfl mb o.d _ rfl rfl (unhide HL _ (unhide HBA _)) ?_) | (go_at_call 26; refine (unhide HAL _ (unhide HBB _ _)).mono ?_; rintro e w2 ⟨rfl, hb2⟩; have HB2 := hide ((unhide HB).trans (((unhide HBB _ _).trans (hb2.mono (unhide HBB _ _).size)).mono (unhide HB).size)); have HBX2 := hide (bx_below (bx_below (unhide HBX) (unhide HBB _ _)) hb2); have HM2 := hide (((unhide HM).below (unhide HBB _ _)).below hb2); clear hb2))
          go_roundg (c.ops.length - (i + 1))
          case measure => omega
          case rel => exact ⟨i + 1, by omega, rfl, by go_num, unhide HBX2, unhide HB2, unhide HM2, unhide HNX (by simp)⟩
        · go_wp2_with (first | (at_lookup; refine wpList_rlook rfl (.tmp 22) (.tmp 24) true rfl mb o.d _ rfl rfl (unhide HL _ (unhide HBA _)) ?_) | (go_at_call 26; refine (unhide HAL _ (unhide HBB _ _)).mono ?_; rintro e w2 ⟨rfl, hb2⟩; have HB2 := hide ((unhide HB).trans (((unhide HBB _ _).trans (hb2.mono (unhide HBB _ _).size)).mono (unhide HB).size)); have HBX2 := hide (bx_below (bx_below (unhide HBX) (unhide HBB _ _)) hb2); have HM2 := hide (((unhide HM).below (unhide HBB _ _)).below hb2); clear hb2))
          go_ret
          exact rg_no (unhide HNO (by simp)) (unhide HB2)
        · go_wp2_with (first | (at_lookup; refine wpList_rlook rfl (.tmp 22) (.tmp 24) true rfl mb o.d _ rfl rfl (unhide HL _ (unhide HBA _)) ?_) | (go_at_call 26; refine (unhide HAL _ (unhide HBB _ _)).mono ?_; rintro e w2 ⟨rfl, hb2⟩; have HB2 := hide ((unhide HB).trans (((unhide HBB _ _).trans (hb2.mono (unhide HBB _ _).size)).mono (unhide HB).size)); have HBX2 := hide (bx_below (bx_below (unhide HBX) (unhide HBB _ _)) hb2); have HM2 := hide (((unhide HM).below (unhide HBB _ _)).below hb2); clear hb2))
          go_roundg (c.ops.length - (i + 1))
          case measure => omega
          case rel => exact ⟨i + 1, by omega, rfl, by go_num, unhide HBX2, unhide HB2, unhide HM2, unhide HNX (by simp)⟩
        · go_wp2_with (first | (at_lookup; refine wpList_rlook rfl (.tmp 22) (.tmp 24) true rfl mb o.d _ rfl rfl (unhide HL _ (unhide HBA _)) ?_) | (go_at_call 26; refine (unhide HAL _ (unhide HBB _ _)).mono ?_; rintro e w2 ⟨rfl, hb2⟩; have HB2 := hide ((unhide HB).trans (((unhide HBB _ _).trans (hb2.mono (unhide HBB _ _).size)).mono (unhide HB).size)); have HBX2 := hide (bx_below (bx_below (unhide HBX) (unhide HBB _ _)) hb2); have HM2 := hide (((unhide HM).below (unhide HBB _ _)).below hb2); clear hb2))
          go_ret
          exact rg_no (unhide HNO (by simp)) (unhide HB2)
        · go_wp2_with (first | (at_lookup; refine wpList_rlook rfl (.tmp 22) (.tmp 24) true rfl mb o.d _ rfl rfl (unhide HL _ (unhide HBA _)) ?_) | (go_at_call 26; refine (unhide HAL _ (unhide HBB _ _)).mono ?_; rintro e w2 ⟨rfl, hb2⟩; have HB2 := hide ((unhide HB).trans (((unhide HBB _ _).trans (hb2.mono (unhide HBB _ _).size)).mono (unhide HB).size)); have HBX2 := hide (bx_below (bx_below (unhide HBX) (unhide HBB _ _)) hb2); have HM2 := hide (((unhide HM).below (unhide HBB _ _)).below hb2); clear hb2))
          go_roundg (c.ops.length - (i + 1))
          case measure => omega
          case rel => exact ⟨i + 1, by omega, rfl, by go_num, unhide HBX2, unhide HB2, unhide HM2, unhide HNX (by simp)⟩
    · have hltz : ¬ (i : Int) < (c.ops.length : Int) := by omega
      have HOPS : Hid (∀ o ∈ c.ops, OpOk c o) := by
        have := unhide HALL
        rwa [List.take_of_length_le (by omega)] at this
      clear HALL
      obtain ⟨wo, rfl⟩ : ∃ x, x = wr := ⟨wr, rfl⟩
      go_wp2
      clear y0 y1 y2 hlt hltz hi
      go_loopg [40] c.fns.length (fun r iv wr => ∃ i : Nat, i ≤ c.fns.length ∧ r = c.fns.length - i ∧ iv = .int .i64 (i : Int) ∧ wr.heap[w.heap.size]? = some (.cells #[.slice a1 c.ops.length c1, .slice a2 c.fns.length c2, .slice a3 c.kinds.length c3] 26 (0, 0)) ∧ Below w.heap.size w wr ∧ ∀ f ∈ c.fns.take i, FnOk c f)
      case atStart => exact ⟨0, Nat.zero_le _, rfl, rfl, unhide HBX, unhide HB, by simp⟩
      case round =>
        clear HBX HB hlt0
        obtain ⟨i, hi, rfl, rfl, hbx, hb, hall⟩ := hrel
        obtain ⟨y0, y1, y2⟩ := cells3 hbx
        have hlt0 : w.heap.size < wr.heap.size := (Array.getElem?_eq_some_iff.1 hbx).1
        have HBX := hide hbx
        have HB := hide hb
        have HALL := hide hall
        clear hbx hb hall
        by_cases hlt : i < c.fns.length
        · have hltz : (i : Int) < (c.fns.length : Int) := by omega
          obtain ⟨f, hfi⟩ : ∃ f, c.fns[i]? = some f := ⟨_, List.getElem?_eq_getElem hlt⟩
          obtain ⟨fb, fq, ta, tc, rfl, hfb, v0, v1, v2, v3, v4⟩ := fns_at ((unhide HF).same (Same.of_below (unhide HB) hC)) hfi
          have HBA : Hid (∀ x, Below wr.heap.size wr (wr.alloc x)) := fun x => (Below.refl _ _).alloc (Nat.le_refl _) x
          have HFN : Hid (∀ x, Calls Try.prog 27 #[.agg #[.int .i64 f.params, .int .i64 f.slots, .int .i64 f.frm, .slice ta f.takes.length tc], .int .i64 (c.ops.length : Int)] (wr.alloc x) fun e w' => e = .returned (.bool (fnB c.ops.length f)) ∧ Below (wr.alloc x).heap.size (wr.alloc x) w') := fun x => function_any f (v4.same (Same.of_below (unhide HBA x) (Nat.le_trans hC (unhide HB).size))) (by rw [heap_size_alloc]; have := (unhide HB).size; omega) _ hno
          have HFB := hide (fnB_iff c f)
          have HMEM := hide (List.mem_of_getElem? hfi)
          have HNX : Hid (fnB c.ops.length f = true → ∀ g ∈ c.fns.take (i + 1), FnOk c g) := by
            intro hokb p hp
            rw [take_snoc' hfi] at hp
            simp only [List.mem_append, List.mem_singleton] at hp
            rcases hp with hp | rfl
            · exact unhide HALL p hp
            · exact (unhide HFB).1 hokb
          have HNO : Hid (fnB c.ops.length f = false → ¬ RangeOk c) := fun e h => by
            have := (unhide HFB).2 (h.fns f (unhide HMEM))
            rw [e] at this
            cases this
          have hfbz : fb < wr.heap.size := by omega
          clear hfi v4 HALL HFB HMEM
          generalize fnB c.ops.length f = okb at HFN HNX HNO
          cases okb
          · go_wp2_with (go_at_call 27; refine (unhide HFN _).mono ?_; rintro e w2 ⟨rfl, hb2⟩; have HB2 := hide ((unhide HB).trans (((unhide HBA _).trans (hb2.mono (unhide HBA _).size)).mono (unhide HB).size)); clear hb2)
            go_ret
            exact rg_no (unhide HNO (by simp)) (unhide HB2)
          · go_wp2_with (go_at_call 27; refine (unhide HFN _).mono ?_; rintro e w2 ⟨rfl, hb2⟩; have HB2 := hide ((unhide HB).trans (((unhide HBA _).trans (hb2.mono (unhide HBA _).size)).mono (unhide HB).size)); have HBX2 := hide (bx_below (bx_below (unhide HBX) (unhide HBA _)) hb2); clear hb2)
            go_roundg (c.fns.length - (i + 1))
            case measure => omega
            case rel => exact ⟨i + 1, by omega, rfl, by go_num, unhide HBX2, unhide HB2, unhide HNX (by simp)⟩
        · have hltz : ¬ (i : Int) < (c.fns.length : Int) := by omega
          have HFNS : Hid (∀ f ∈ c.fns, FnOk c f) := by
            have := unhide HALL
            rwa [List.take_of_length_le (by omega)] at this
          clear HALL
          obtain ⟨wo, rfl⟩ : ∃ x, x = wr := ⟨wr, rfl⟩
          go_wp2
          clear y0 y1 y2 hlt hltz hi
          go_loopg [54] c.kinds.length (fun r iv wr => ∃ i : Nat, i ≤ c.kinds.length ∧ r = c.kinds.length - i ∧ iv = .int .i64 (i : Int) ∧ wr.heap[w.heap.size]? = some (.cells #[.slice a1 c.ops.length c1, .slice a2 c.fns.length c2, .slice a3 c.kinds.length c3] 26 (0, 0)) ∧ Below w.heap.size w wr ∧ ∀ l ∈ c.kinds.take i, KindOk c l)
          case atStart => exact ⟨0, Nat.zero_le _, rfl, rfl, unhide HBX, unhide HB, by simp⟩
          case round =>
            clear HBX HB hlt0
            obtain ⟨i, hi, rfl, rfl, hbx, hb, hall⟩ := hrel
            obtain ⟨y0, y1, y2⟩ := cells3 hbx
            have hlt0 : w.heap.size < wr.heap.size := (Array.getElem?_eq_some_iff.1 hbx).1
            have HBX := hide hbx
            have HB := hide hb
            have HALL := hide hall
            clear hbx hb hall
            by_cases hlt : i < c.kinds.length
            · have hltz : (i : Int) < (c.kinds.length : Int) := by omega
              obtain ⟨l, hli⟩ : ∃ l, c.kinds[i]? = some l := ⟨_, List.getElem?_eq_getElem hlt⟩
              obtain ⟨kb, kq, ta, tc, rfl, hkb, v0, v1⟩ := kinds_at ((unhide HK).same (Same.of_below (unhide HB) hC)) hli
              have hroom : l.length ≤ tc := ((unhide HCAP).same (unhide HK) (Same.of_below (unhide HB) hC)).kinds kb kq _ c3 rfl i _ hlt v0 _ _ _ rfl
              have HKD := hide (kind_any l v1 (Nat.le_trans hC (unhide HB).size) hroom c.fns.length)
              have HFB := hide (kindB_iff c l)
              have HMEM := hide (List.mem_of_getElem? hli)
              have HNX : Hid (kindB c.fns.length l = true → ∀ g ∈ c.kinds.take (i + 1), KindOk c g) := by
                intro hokb p hp
                rw [take_snoc' hli] at hp
                simp only [List.mem_append, List.mem_singleton] at hp
                rcases hp with hp | rfl
                · exact unhide HALL p hp
                · exact (unhide HFB).1 hokb
              have HNO : Hid (kindB c.fns.length l = false → ¬ RangeOk c) := fun e h => by
                have := (unhide HFB).2 (h.kinds l (unhide HMEM))
                rw [e] at this
                cases this
              have hkbz : kb < wr.heap.size := by omega
              clear hli v1 HALL HFB HMEM hroom
              generalize kindB c.fns.length l = okb at HKD HNX HNO
              cases okb
              · go_wp2_with (go_at_call 28; refine (unhide HKD).mono ?_; rintro e w2 ⟨rfl, hb2⟩; have HB2 := hide ((unhide HB).trans (hb2.mono (unhide HB).size)); clear hb2)
                go_ret
                exact rg_no (unhide HNO (by simp)) (unhide HB2)
              · go_wp2_with (go_at_call 28; refine (unhide HKD).mono ?_; rintro e w2 ⟨rfl, hb2⟩; have HB2 := hide ((unhide HB).trans (hb2.mono (unhide HB).size)); have HBX2 := hide (bx_below (unhide HBX) hb2); clear hb2)
                go_roundg (c.kinds.length - (i + 1))
                case measure => omega
                case rel => exact ⟨i + 1, by omega, rfl, by go_num, unhide HBX2, unhide HB2, unhide HNX (by simp)⟩
            · have hltz : ¬ (i : Int) < (c.kinds.length : Int) := by omega
              have HKS : Hid (∀ l ∈ c.kinds, KindOk c l) := by
                have := unhide HALL
                rwa [List.take_of_length_le (by omega)] at this
              go_wp2
              go_ret
              exact rg_yes ⟨unhide HFNS, unhide HKS, unhide HOPS⟩ (unhide HB)
end
end Go.Proofs.Ytdemnolanlfblaa
