import Derived.Test.YtdemnolanlfblaaZKSelC
set_option linter.all false
namespace Go.Proofs.Ytdemnolanlfblaa
section
open Go.RowKit
structure StopFits (c : CodeD) (k : Nat) (s : StopD) : Prop where
  ok : ∀ slots deep, 0 ≤ slots → ((s.shut = false ∧ s.needs ≤ deep ∧ s.slots ≤ slots) ↔ nexts c slots k deep ≠ none)
  ways : ∀ slots deep l, nexts c slots k deep = some l → ∀ p, p ∈ l ↔ ∃ q ∈ s.ways, p = (q.1.toNat, deep + q.2)
  to : ∀ q ∈ s.ways, 0 ≤ q.1 ∧ q.1 ≤ c.ops.length
  more : ∀ q ∈ s.ways, -3000 ≤ q.2 ∧ q.2 ≤ 3000
  len : s.ways.length ≤ 1200
theorem fits_shut {c : CodeD} {k : Nat} {o : OpD} {s : StopD} (ho : c.ops[k]? = some o) (hd : o.d = 29 ∨ o.d = 30) (hs : s.shut = true) (hto : ∀ q ∈ s.ways, 0 ≤ q.1 ∧ q.1 ≤ c.ops.length) (hm : ∀ q ∈ s.ways, -3000 ≤ q.2 ∧ q.2 ≤ 3000) (hl : s.ways.length ≤ 1200) : StopFits c k s := by
  have hn : ∀ slots deep, nexts c slots k deep = none := by
    intro slots deep
    simp [nexts, ho, hd]
  exact ⟨fun slots deep _ => ⟨fun h => (by rw [hs] at h; cases h.1), fun h => absurd (hn slots deep) h⟩, (fun slots deep l h => by rw [hn] at h; cases h), hto, hm, hl⟩
theorem fits_plain {c : CodeD} {k : Nat} {o : OpD} {s : StopD} (ho : c.ops[k]? = some o) (h29 : o.d ≠ 29) (h30 : o.d ≠ 30) (h28 : o.d ≠ 28) (hs : s.shut = false) (hn : s.needs = takesN o) (hsl : ∀ slots, 0 ≤ slots → (s.slots ≤ slots ↔ slotBad c slots o = false)) (hw : ∀ deep p, p ∈ outs o k deep ↔ ∃ q ∈ s.ways, p = (q.1.toNat, deep + q.2)) (hto : ∀ q ∈ s.ways, 0 ≤ q.1 ∧ q.1 ≤ c.ops.length) (hm : ∀ q ∈ s.ways, -3000 ≤ q.2 ∧ q.2 ≤ 3000) (hl : s.ways.length ≤ 1200) : StopFits c k s := by
  have he : ∀ slots deep, nexts c slots k deep = if deep < takesN o ∨ slotBad c slots o = true then none else some (outs o k deep) := by
    intro slots deep
    simp [nexts, ho, h29, h30, h28]
  refine ⟨fun slots deep h0 => ?_, fun slots deep l h p => ?_, hto, hm, hl⟩
  · rw [he, hs, hn]
    have := hsl slots h0
    by_cases h1 : deep < takesN o ∨ slotBad c slots o = true
    · rw [if_pos h1]
      refine ⟨fun ⟨_, h2, h3⟩ => ?_, fun h => absurd rfl h⟩
      rcases h1 with h1 | h1
      · omega
      · rw [this.1 h3] at h1
        cases h1
    · rw [if_neg h1]
      refine ⟨fun _ => by simp, fun _ => ⟨rfl, ?_, ?_⟩⟩
      · have : ¬ deep < takesN o := fun h => h1 (Or.inl h)
        omega
      · refine this.2 ?_
        cases hx : slotBad c slots o with
        | false => rfl
        | true => exact absurd (Or.inr hx) h1
  · rw [he] at h
    split at h
    · cases h
    · cases h
      exact hw deep p
theorem slots_none {c : CodeD} {o : OpD} (h2 : o.d ≠ 2) (h3 : o.d ≠ 3) (h4 : o.d ≠ 4) (h5 : o.d ≠ 5) : ∀ slots : Int, 0 ≤ slots → ((0 : Int) ≤ slots ↔ slotBad c slots o = false) := by
  intro slots h0
  simp [slotBad, h2, h3, h4, h5, h0]
theorem slots_one {c : CodeD} {o : OpD} (h : o.d = 2 ∨ o.d = 3 ∨ o.d = 4) (h5 : o.d ≠ 5) : ∀ slots : Int, 0 ≤ slots → (o.a + 1 ≤ slots ↔ slotBad c slots o = false) := by
  intro slots h0
  simp [slotBad, h, h5]
  omega
theorem slots_make {c : CodeD} {o : OpD} (h : o.d = 5) {f : FnD} (hf : c.fns[o.a.toNat]? = some f) {n : Int} (hn : SlotsOf f.takes n) : ∀ slots : Int, 0 ≤ slots → (n ≤ slots ↔ slotBad c slots o = false) := by
  intro slots h0
  rw [hn.1 slots h0]
  simp [slotBad, h, hf]
theorem fits_select {c : CodeD} {k : Nat} {o : OpD} (ho : c.ops[k]? = some o) (h28 : o.d = 28) (hok : ∀ o ∈ c.ops, OpOk c o) (ha : 0 ≤ o.a ∧ o.a ≤ 1200) (hno : c.ops.length ≤ 8000) : StopFits c k (selD (c.ops.drop (k + 1)) o.a.toNat) := by
  have he : ∀ slots deep, nexts c slots k deep = if selBad c k o.a.toNat deep = true then none else some ((cases c k o.a.toNat).map (caseOut (deep - casesTake (cases c k o.a.toNat)))) := by
    intro slots deep
    simp [nexts, ho, h28]
  have hmem : ∀ p ∈ cases c k o.a.toNat, p ∈ c.ops := fun p hp => List.mem_of_mem_drop (List.mem_of_mem_take hp)
  have hbd := casesTake_bd hok (cases c k o.a.toNat) hmem
  have hcl : (cases c k o.a.toNat).length ≤ o.a.toNat := by simp [cases]; omega
  have hbb : ∀ p ∈ cases c k o.a.toNat, p.d = 29 ∨ p.d = 30 → 0 ≤ p.b ∧ p.b ≤ c.ops.length := by
    intro p hp hd
    have := hok p (hmem p hp)
    simp only [OpOk, rangesB, bOk, Bool.and_eq_true] at this
    have h18 : p.d ≠ 18 := by omega
    rw [if_neg h18, if_pos hd] at this
    have := this.2.2
    simp [inB] at this
    omega
  have hrec : ∀ p : OpD, 0 ≤ recvN p ∧ recvN p ≤ 1 := by intro p; unfold recvN; split <;> omega
  by_cases h1 : (c.ops.drop (k + 1)).length < o.a.toNat
  · have hb : ∀ deep, selBad c k o.a.toNat deep = true := by
      intro deep
      have : (cases c k o.a.toNat).length ≠ o.a.toNat := by
        simp only [cases, List.length_take]
        omega
      simp [selBad, this]
    rw [show selD (c.ops.drop (k + 1)) o.a.toNat = ⟨true, 0, 0, []⟩ by simp only [selD, if_pos h1]]
    exact ⟨fun slots deep _ => ⟨fun h => (by cases h.1), fun h => absurd (by rw [he, if_pos (hb deep)]) h⟩, (fun slots deep l h => by rw [he, if_pos (hb deep)] at h; cases h), by simp, by simp, by simp⟩
  · have hlen : (cases c k o.a.toNat).length = o.a.toNat := by
      simp only [cases, List.length_take]
      omega
    by_cases h2 : (cases c k o.a.toNat).any (fun o => decide (o.d ≠ 29 ∧ o.d ≠ 30)) = true
    · have hb : ∀ deep, selBad c k o.a.toNat deep = true := by
        intro deep
        simp only [selBad, h2, Bool.or_true, Bool.true_or]
      rw [show selD (c.ops.drop (k + 1)) o.a.toNat = ⟨true, 0, 0, []⟩ by
        have h2' : ((c.ops.drop (k + 1)).take o.a.toNat).any (fun o => decide (o.d ≠ 29 ∧ o.d ≠ 30)) = true := h2
        simp only [selD, if_neg h1, h2', if_true]]
      exact ⟨fun slots deep _ => ⟨fun h => (by cases h.1), fun h => absurd (by rw [he, if_pos (hb deep)]) h⟩, (fun slots deep l h => by rw [he, if_pos (hb deep)] at h; cases h), by simp, by simp, by simp⟩
    · have h2f : (cases c k o.a.toNat).any (fun o => decide (o.d ≠ 29 ∧ o.d ≠ 30)) = false := by simpa using h2
      have hall : ∀ p ∈ cases c k o.a.toNat, p.d = 29 ∨ p.d = 30 := by
        intro p hp
        have := List.any_eq_false.1 h2f p hp
        simp at this
        by_cases h9 : p.d = 29
        · exact Or.inl h9
        · exact Or.inr (this h9)
      rw [show selD (c.ops.drop (k + 1)) o.a.toNat = ⟨decide (1 < elses (cases c k o.a.toNat)), casesTake (cases c k o.a.toNat), 0, (cases c k o.a.toNat).map fun o' => (o'.b, recvN o' - casesTake (cases c k o.a.toNat))⟩ by
        have h2' : ((c.ops.drop (k + 1)).take o.a.toNat).any (fun o => decide (o.d ≠ 29 ∧ o.d ≠ 30)) = false := h2f
        simp only [selD, if_neg h1, h2']
        rfl]
      have hsb : ∀ deep, selBad c k o.a.toNat deep = (decide (1 < elses (cases c k o.a.toNat)) || decide (deep - casesTake (cases c k o.a.toNat) < 0)) := by
        intro deep
        simp only [selBad, h2f, hlen]
        simp
      refine ⟨fun slots deep h0 => ?_, fun slots deep l h p => ?_, ?_, ?_, by simp; omega⟩
      · rw [he, hsb]
        by_cases h3 : 1 < elses (cases c k o.a.toNat)
        · simp [h3]
        · by_cases h4 : deep - casesTake (cases c k o.a.toNat) < 0
          · simp [h3, h4]
            omega
          · simp [h3, h4]
            omega
      · rw [he] at h
        split at h
        · cases h
        · cases h
          simp only [List.mem_map]
          constructor
          · rintro ⟨x, hx, rfl⟩
            refine ⟨(x.b, recvN x - casesTake (cases c k o.a.toNat)), ⟨x, hx, rfl⟩, ?_⟩
            simp only [caseOut, recvN]
            split <;> simp <;> omega
          · rintro ⟨q, ⟨x, hx, rfl⟩, rfl⟩
            refine ⟨x, hx, ?_⟩
            simp only [caseOut, recvN]
            split <;> simp <;> omega
      · intro q hq
        obtain ⟨x, hx, rfl⟩ := List.mem_map.1 hq
        exact hbb x hx (hall x hx)
      · intro q hq
        obtain ⟨x, hx, rfl⟩ := List.mem_map.1 hq
        have := hrec x
        show -3000 ≤ recvN x - _ ∧ recvN x - _ ≤ 3000
        omega
end
end Go.Proofs.Ytdemnolanlfblaa
