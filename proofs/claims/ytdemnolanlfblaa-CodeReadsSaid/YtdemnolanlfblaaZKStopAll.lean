import Derived.Test.YtdemnolanlfblaaZKStop
import Derived.Test.YtdemnolanlfblaaZKFits
set_option linter.all false
namespace Go.Proofs.Ytdemnolanlfblaa
section
open Go.RowKit
def FitPost (c : CodeD) (k : Nat) (w : World) (e : Ending) (w' : World) : Prop := ∃ s, StopFits c k s ∧ StopPost s w e w'
set_option maxHeartbeats 4000000 in
theorem stop_all {w : World} {B : Nat} {a1 a2 a3 : Option Addr} {c1 c2 c3 : Nat} (c : CodeD) (hI : CodeIn B w (.slice a1 c.ops.length c1) (.slice a2 c.fns.length c2) (.slice a3 c.kinds.length c3) c) (hB : B ≤ w.heap.size) (hcap : c.ops.length ≤ c1) (hS : SizeOk c) (hR : RangeOk c) {k : Nat} {o : OpD} (ho : c.ops[k]? = some o) {rv : Value} (hrule : RuleIs w rv (ruleT c.fns.length c.kinds.length c.ops.length o.d)) :
    Calls Try.prog 50 #[.agg #[.slice a1 c.ops.length c1, .slice a2 c.fns.length c2, .slice a3 c.kinds.length c3], rv, .int .i64 (k : Int)] w (FitPost c k w) := by
  obtain ⟨fa, fb, rfl, _, _⟩ := hrule
  obtain ⟨b, q, rfl, hb, v0, v1, v2⟩ := ops_at hI.ops ho
  have hk : k < c.ops.length := (List.getElem?_eq_some_iff.1 ho).1
  have hno : c.ops.length ≤ 8000 := hS.1
  have hok := hR.ops o (List.mem_of_getElem? ho)
  obtain ⟨d, a, b'⟩ := o
  have hd : 1 ≤ d ∧ d ≤ 30 := by
    have := hok
    simp only [OpOk, rangesB, Bool.and_eq_true] at this
    simpa [inB] using this.1
  have hnx : 0 ≤ ((k : Int) + 1) ∧ ((k : Int) + 1) ≤ c.ops.length := by omega
  by_cases h29 : d = 29
  · subst h29
    have hm : (ruleT c.fns.length c.kinds.length c.ops.length 29).more = false := by simp [ruleT]
    have ht : (ruleT c.fns.length c.kinds.length c.ops.length 29).takes = 0 := by simp [ruleT]
    have hp : (ruleT c.fns.length c.kinds.length c.ops.length 29).puts = 0 := by simp [ruleT, putsN]
    rw [hm, ht, hp]
    refine (stop_29 a b' hb hB v0 v1 v2 hk hno (by omega) (by omega) (by omega) (by omega)).mono fun e w' h => ⟨_, ?_, h⟩
    exact fits_shut ho (by simp) rfl (by simp <;> omega) (by simp) (by simp)
  by_cases h30 : d = 30
  · subst h30
    have hm : (ruleT c.fns.length c.kinds.length c.ops.length 30).more = false := by simp [ruleT]
    have ht : (ruleT c.fns.length c.kinds.length c.ops.length 30).takes = 0 := by simp [ruleT]
    have hp : (ruleT c.fns.length c.kinds.length c.ops.length 30).puts = 0 := by simp [ruleT, putsN]
    rw [hm, ht, hp]
    refine (stop_30 a b' hb hB v0 v1 v2 hk hno (by omega) (by omega) (by omega) (by omega)).mono fun e w' h => ⟨_, ?_, h⟩
    exact fits_shut ho (by simp) rfl (by simp <;> omega) (by simp) (by simp)
  by_cases h20 : d = 20
  · subst h20
    have hm : (ruleT c.fns.length c.kinds.length c.ops.length 20).more = false := by simp [ruleT]
    have ht : (ruleT c.fns.length c.kinds.length c.ops.length 20).takes = 1 := by simp [ruleT]
    have hp : (ruleT c.fns.length c.kinds.length c.ops.length 20).puts = 0 := by simp [ruleT, putsN]
    rw [hm, ht, hp]
    refine (stop_20 a b' hb hB v0 v1 v2 hk hno (by omega) (by omega) (by omega) (by omega)).mono fun e w' h => ⟨_, ?_, h⟩
    refine fits_plain ho (by simp) (by simp) (by simp) rfl (by simp [takesN]) (slots_none (o := ⟨20, a, b'⟩) (by simp) (by simp) (by simp) (by simp)) (fun deep p => ?_) (by simp <;> omega) (by simp) (by simp)
    simp [outs, takesN, putsN]
  by_cases h22 : d = 22
  · subst h22
    have hm : (ruleT c.fns.length c.kinds.length c.ops.length 22).more = false := by simp [ruleT]
    have ht : (ruleT c.fns.length c.kinds.length c.ops.length 22).takes = 1 := by simp [ruleT]
    have hp : (ruleT c.fns.length c.kinds.length c.ops.length 22).puts = 0 := by simp [ruleT, putsN]
    rw [hm, ht, hp]
    refine (stop_22 a b' hb hB v0 v1 v2 hk hno (by omega) (by omega) (by omega) (by omega)).mono fun e w' h => ⟨_, ?_, h⟩
    refine fits_plain ho (by simp) (by simp) (by simp) rfl (by simp [takesN]) (slots_none (o := ⟨22, a, b'⟩) (by simp) (by simp) (by simp) (by simp)) (fun deep p => ?_) (by simp <;> omega) (by simp) (by simp)
    simp [outs, takesN, putsN]
  by_cases h16 : d = 16
  · subst h16
    have hm : (ruleT c.fns.length c.kinds.length c.ops.length 16).more = false := by simp [ruleT]
    have ht : (ruleT c.fns.length c.kinds.length c.ops.length 16).takes = 0 := by simp [ruleT]
    have hp : (ruleT c.fns.length c.kinds.length c.ops.length 16).puts = 0 := by simp [ruleT, putsN]
    rw [hm, ht, hp]
    have ha : 0 ≤ a ∧ a ≤ (c.ops.length : Int) - 1 := by
      simp only [OpOk, rangesB, aOk, bOk, inB] at hok
      simp at hok
      omega
    refine (stop_16 a b' hb hB v0 v1 v2 hk hno (by omega) (by omega) (by omega) (by omega)).mono fun e w' h => ⟨_, ?_, h⟩
    refine fits_plain ho (by simp) (by simp) (by simp) rfl (by simp [takesN]) (slots_none (o := ⟨16, a, b'⟩) (by simp) (by simp) (by simp) (by simp)) (fun deep p => ?_) (by simp <;> omega) (by simp) (by simp)
    simp [outs, takesN, putsN]
  by_cases h17 : d = 17
  · subst h17
    have hm : (ruleT c.fns.length c.kinds.length c.ops.length 17).more = false := by simp [ruleT]
    have ht : (ruleT c.fns.length c.kinds.length c.ops.length 17).takes = 1 := by simp [ruleT]
    have hp : (ruleT c.fns.length c.kinds.length c.ops.length 17).puts = 0 := by simp [ruleT, putsN]
    rw [hm, ht, hp]
    have ha : 0 ≤ a ∧ a ≤ (c.ops.length : Int) - 1 := by
      simp only [OpOk, rangesB, aOk, bOk, inB] at hok
      simp at hok
      omega
    refine (stop_17 a b' hb hB v0 v1 v2 hk hno (by omega) (by omega) (by omega) (by omega)).mono fun e w' h => ⟨_, ?_, h⟩
    refine fits_plain ho (by simp) (by simp) (by simp) rfl (by simp [takesN]) (slots_none (o := ⟨17, a, b'⟩) (by simp) (by simp) (by simp) (by simp)) (fun deep p => ?_) (by simp <;> omega) (by simp) (by simp)
    simp [outs, takesN, putsN]
    rw [show deep - 1 = deep + -1 by omega]
  by_cases h18 : d = 18
  · subst h18
    have hm : (ruleT c.fns.length c.kinds.length c.ops.length 18).more = false := by simp [ruleT]
    have ht : (ruleT c.fns.length c.kinds.length c.ops.length 18).takes = 1 := by simp [ruleT]
    have hp : (ruleT c.fns.length c.kinds.length c.ops.length 18).puts = 0 := by simp [ruleT, putsN]
    rw [hm, ht, hp]
    have ha : 0 ≤ a ∧ a ≤ (c.ops.length : Int) - 1 := by
      simp only [OpOk, rangesB, aOk, bOk, inB] at hok
      simp at hok
      omega
    refine (stop_18 a b' hb hB v0 v1 v2 hk hno (by omega) (by omega) (by omega) (by omega)).mono fun e w' h => ⟨_, ?_, h⟩
    refine fits_plain ho (by simp) (by simp) (by simp) rfl (by simp [takesN]) (slots_none (o := ⟨18, a, b'⟩) (by simp) (by simp) (by simp) (by simp)) (fun deep p => ?_) (by simp <;> omega) (by simp) (by simp)
    simp [outs, takesN, putsN]
    rw [show deep - 1 = deep + -1 by omega]
  by_cases h2 : d = 2
  · subst h2
    have hm : (ruleT c.fns.length c.kinds.length c.ops.length 2).more = false := by simp [ruleT]
    have ht : (ruleT c.fns.length c.kinds.length c.ops.length 2).takes = 0 := by simp [ruleT]
    have hp : (ruleT c.fns.length c.kinds.length c.ops.length 2).puts = 1 := by simp [ruleT, putsN]
    rw [hm, ht, hp]
    have ha : 0 ≤ a ∧ a ≤ 1200 := by
      simp only [OpOk, rangesB, aOk, bOk, inB] at hok
      simp at hok
      omega
    refine (stop_2 a b' hb hB v0 v1 v2 hk hno (by omega) (by omega) (by omega) (by omega) ha.1 ha.2).mono fun e w' h => ⟨_, ?_, h⟩
    refine fits_plain ho (by simp) (by simp) (by simp) rfl (by simp [takesN]) (slots_one (o := ⟨2, a, b'⟩) (by simp) (by simp)) (fun deep p => ?_) (by simp <;> omega) (by simp) (by simp)
    simp [outs, takesN, putsN]
  by_cases h3 : d = 3
  · subst h3
    have hm : (ruleT c.fns.length c.kinds.length c.ops.length 3).more = false := by simp [ruleT]
    have ht : (ruleT c.fns.length c.kinds.length c.ops.length 3).takes = 1 := by simp [ruleT]
    have hp : (ruleT c.fns.length c.kinds.length c.ops.length 3).puts = 0 := by simp [ruleT, putsN]
    rw [hm, ht, hp]
    have ha : 0 ≤ a ∧ a ≤ 1200 := by
      simp only [OpOk, rangesB, aOk, bOk, inB] at hok
      simp at hok
      omega
    refine (stop_3 a b' hb hB v0 v1 v2 hk hno (by omega) (by omega) (by omega) (by omega) ha.1 ha.2).mono fun e w' h => ⟨_, ?_, h⟩
    refine fits_plain ho (by simp) (by simp) (by simp) rfl (by simp [takesN]) (slots_one (o := ⟨3, a, b'⟩) (by simp) (by simp)) (fun deep p => ?_) (by simp <;> omega) (by simp) (by simp)
    simp [outs, takesN, putsN]
    rw [show deep - 1 = deep + -1 by omega]
  by_cases h4 : d = 4
  · subst h4
    have hm : (ruleT c.fns.length c.kinds.length c.ops.length 4).more = false := by simp [ruleT]
    have ht : (ruleT c.fns.length c.kinds.length c.ops.length 4).takes = 1 := by simp [ruleT]
    have hp : (ruleT c.fns.length c.kinds.length c.ops.length 4).puts = 0 := by simp [ruleT, putsN]
    rw [hm, ht, hp]
    have ha : 0 ≤ a ∧ a ≤ 1200 := by
      simp only [OpOk, rangesB, aOk, bOk, inB] at hok
      simp at hok
      omega
    refine (stop_4 a b' hb hB v0 v1 v2 hk hno (by omega) (by omega) (by omega) (by omega) ha.1 ha.2).mono fun e w' h => ⟨_, ?_, h⟩
    refine fits_plain ho (by simp) (by simp) (by simp) rfl (by simp [takesN]) (slots_one (o := ⟨4, a, b'⟩) (by simp) (by simp)) (fun deep p => ?_) (by simp <;> omega) (by simp) (by simp)
    simp [outs, takesN, putsN]
    rw [show deep - 1 = deep + -1 by omega]
  by_cases h19 : d = 19
  · subst h19
    have hm : (ruleT c.fns.length c.kinds.length c.ops.length 19).more = true := by simp [ruleT]
    have ht : (ruleT c.fns.length c.kinds.length c.ops.length 19).takes = 1 := by simp [ruleT]
    have hp : (ruleT c.fns.length c.kinds.length c.ops.length 19).puts = 1 := by simp [ruleT, putsN]
    rw [hm, ht, hp]
    have ha : 0 ≤ a ∧ a ≤ 1200 := by
      simp only [OpOk, rangesB, aOk, bOk, inB] at hok
      simp at hok
      omega
    refine (stop_19 a b' hb hB v0 v1 v2 hk hno (by omega) (by omega) (by omega) (by omega) ha.1 ha.2).mono fun e w' h => ⟨_, ?_, h⟩
    refine fits_plain ho (by simp) (by simp) (by simp) rfl (by simp [takesN] <;> omega) (slots_none (o := ⟨19, a, b'⟩) (by simp) (by simp) (by simp) (by simp)) (fun deep p => ?_) (by simp <;> omega) (by simp <;> omega) (by simp)
    simp [outs, takesN, putsN]
    rw [show deep - (a + 1) + 1 = deep + (1 - (1 + a)) by omega]
  by_cases h27 : d = 27
  · subst h27
    have hm : (ruleT c.fns.length c.kinds.length c.ops.length 27).more = true := by simp [ruleT]
    have ht : (ruleT c.fns.length c.kinds.length c.ops.length 27).takes = 1 := by simp [ruleT]
    have hp : (ruleT c.fns.length c.kinds.length c.ops.length 27).puts = 0 := by simp [ruleT, putsN]
    rw [hm, ht, hp]
    have ha : 0 ≤ a ∧ a ≤ 1200 := by
      simp only [OpOk, rangesB, aOk, bOk, inB] at hok
      simp at hok
      omega
    refine (stop_27 a b' hb hB v0 v1 v2 hk hno (by omega) (by omega) (by omega) (by omega) ha.1 ha.2).mono fun e w' h => ⟨_, ?_, h⟩
    refine fits_plain ho (by simp) (by simp) (by simp) rfl (by simp [takesN] <;> omega) (slots_none (o := ⟨27, a, b'⟩) (by simp) (by simp) (by simp) (by simp)) (fun deep p => ?_) (by simp <;> omega) (by simp <;> omega) (by simp)
    simp [outs, takesN, putsN]
    rw [show deep - (a + 1) = deep + -(1 + a) by omega]
  by_cases h5 : d = 5
  · subst h5
    have hm : (ruleT c.fns.length c.kinds.length c.ops.length 5).more = false := by simp [ruleT]
    have ht : (ruleT c.fns.length c.kinds.length c.ops.length 5).takes = 0 := by simp [ruleT]
    have hp : (ruleT c.fns.length c.kinds.length c.ops.length 5).puts = 1 := by simp [ruleT, putsN]
    rw [hm, ht, hp]
    have ha : 0 ≤ a ∧ a ≤ (c.fns.length : Int) - 1 := by
      simp only [OpOk, rangesB, aOk, bOk, inB] at hok
      simp at hok
      omega
    obtain ⟨j, rfl⟩ : ∃ j : Nat, a = (j : Int) := ⟨a.toNat, by omega⟩
    obtain ⟨f, hf⟩ : ∃ f, c.fns[j]? = some f := ⟨_, List.getElem?_eq_getElem (by omega)⟩
    obtain ⟨fb1, fq, ta, tc, hfe, hfb, f0, f1, f2, f3, f4⟩ := fns_at hI.fns hf
    subst hfe
    have hfn := hR.fns f (List.mem_of_getElem? hf)
    have htl : f.takes.length ≤ 1200 := by have h1 := hfn.takes; have h2 := hfn.slots; have h3 := hfn.params; omega
    refine (stop_5 j b' hb hB v0 v1 v2 hk hno (by omega) (by omega) (by omega) (by omega) (by omega) hS.2.1 hfb hB f3 f4 (by omega) hfn.each).mono fun e w' h => ?_
    obtain ⟨n, hn, h⟩ := h
    refine ⟨_, ?_, h⟩
    refine fits_plain ho (by simp) (by simp) (by simp) rfl (by simp [takesN]) (slots_make (o := ⟨5, j, b'⟩) rfl (f := f) (by simpa using hf) hn) (fun deep p => ?_) (by simp <;> omega) (by simp) (by simp)
    simp [outs, takesN, putsN]
  by_cases h28 : d = 28
  · subst h28
    have hm : (ruleT c.fns.length c.kinds.length c.ops.length 28).more = false := by simp [ruleT]
    have ht : (ruleT c.fns.length c.kinds.length c.ops.length 28).takes = 0 := by simp [ruleT]
    have hp : (ruleT c.fns.length c.kinds.length c.ops.length 28).puts = 0 := by simp [ruleT, putsN]
    rw [hm, ht, hp]
    have ha : 0 ≤ a ∧ a ≤ 1200 := by
      simp only [OpOk, rangesB, aOk, bOk, inB] at hok
      simp at hok
      omega
    have hfit := fits_select ho rfl hR.ops ha hno
    obtain ⟨n, rfl⟩ : ∃ n : Nat, a = (n : Int) := ⟨a.toNat, by omega⟩
    refine (stop_28 (l := c.ops) b' hb hB v0 v1 v2 hk hno (by omega) (by omega) (by omega) (by omega) (by omega) hI.ops hcap (fun o ho' h29 => ?_)).mono fun e w' h => ⟨_, hfit, by simpa using h⟩
    have := hR.ops o ho'
    simp only [OpOk, rangesB, aOk, Bool.and_eq_true] at this
    rw [h29] at this
    have := this.2.1
    simp [inB] at this
    omega
  have hm : (ruleT c.fns.length c.kinds.length c.ops.length d).more = false := by simp [ruleT, h19, h27]
  have ht0 : 0 ≤ (ruleT c.fns.length c.kinds.length c.ops.length d).takes ∧ (ruleT c.fns.length c.kinds.length c.ops.length d).takes ≤ 2 := by
    simp only [ruleT]
    split
    · omega
    · split <;> omega
  have hp0 : 0 ≤ (ruleT c.fns.length c.kinds.length c.ops.length d).puts ∧ (ruleT c.fns.length c.kinds.length c.ops.length d).puts ≤ 1 := by
    simp only [ruleT, putsN]
    split <;> omega
  have htk : (ruleT c.fns.length c.kinds.length c.ops.length d).takes = takesN ⟨d, a, b'⟩ := by
    simp only [ruleT, takesN]
    repeat' split
    all_goals omega
  have hpk : (ruleT c.fns.length c.kinds.length c.ops.length d).puts = putsN ⟨d, a, b'⟩ := rfl
  rw [hm]
  refine (stop_other d a b' hb hB v0 v1 v2 hk hno ht0.1 ht0.2 hp0.1 hp0.2 (ne_b h29) (ne_b h30) (ne_b h28) (ne_b h20) (ne_b h22) (ne_b h16) (ne_b h17) (ne_b h18) (ne_b h2) (ne_b h3) (ne_b h4) (ne_b h5)).mono fun e w' h => ⟨_, ?_, h⟩
  refine fits_plain ho h29 h30 h28 rfl htk (slots_none (o := ⟨d, a, b'⟩) h2 h3 h4 h5) (fun deep p => ?_) (by simp <;> omega) (by simp <;> omega) (by simp)
  rw [hpk, htk]
  have hou : outs ⟨d, a, b'⟩ k deep = [(k + 1, deep - takesN ⟨d, a, b'⟩ + putsN ⟨d, a, b'⟩)] := by
    have e1 : ¬ (d = 20 ∨ d = 22) := by omega
    simp only [outs, if_neg e1, if_neg h16, if_neg h17, if_neg h18]
  rw [hou]
  simp
  rw [show deep - takesN ⟨d, a, b'⟩ + putsN ⟨d, a, b'⟩ = deep + (putsN ⟨d, a, b'⟩ - takesN ⟨d, a, b'⟩) by omega]
end
end Go.Proofs.Ytdemnolanlfblaa
