import Derived.Test.YtdemnolanlfblaaZKLook
set_option linter.all false
namespace Go.Proofs.Ytdemnolanlfblaa
section
open Go.RowKit
def seen (vals : List Int) (q : Nat × Int) : Prop := vals[q.1]? = some q.2
def asked (todo : List (Int × Int)) (q : Nat × Int) : Prop := ∃ p ∈ todo, (p.1.toNat, p.2) = q
def gain : List (StopD × Value) → List Int → Nat
  | s :: ss, v :: vs => (if v < 0 then 1 + s.1.ways.length else 0) + gain ss vs
  | _, _ => 0
theorem gain_set : ∀ (ss : List (StopD × Value)) (vals : List Int) (k : Nat) (s : StopD × Value) (v d : Int), ss[k]? = some s → vals[k]? = some v → v < 0 → 0 ≤ d → gain ss (vals.set k d) + (1 + s.1.ways.length) = gain ss vals
  | [], _, k, s, _, _, h, _, _, _ => by simp at h
  | _ :: _, [], k, s, _, _, _, h, _, _ => by simp at h
  | s0 :: ss, v0 :: vs, 0, s, v, d, hs, hv, h0, hd => by
    simp at hs hv
    subst hs
    subst hv
    have : ¬ d < 0 := by omega
    simp [gain, h0, this]
    omega
  | s0 :: ss, v0 :: vs, k + 1, s, v, d, hs, hv, h0, hd => by
    have := gain_set ss vs k s v d (by simpa using hs) (by simpa using hv) h0 hd
    simp only [List.set_cons_succ, gain]
    omega
theorem gain_le : ∀ (ss : List (StopD × Value)) (vals : List Int), (∀ p ∈ ss, p.1.ways.length ≤ 1200) → gain ss vals ≤ ss.length * 1201
  | [], _, _ => by simp [gain]
  | s :: ss, [], _ => by simp [gain]
  | s :: ss, v :: vs, h => by
    have h1 := gain_le ss vs (fun p hp => h p (List.mem_cons_of_mem _ hp))
    have h2 := h s (List.mem_cons_self ..)
    simp only [gain, List.length_cons]
    split <;> omega
structure GoInv (c : CodeD) (f : FnD) (vals : List Int) (todo : List (Int × Int)) : Prop where
  len : vals.length = c.ops.length
  neg : ∀ (k : Nat) (v : Int), vals[k]? = some v → v = -1 ∨ 0 ≤ v
  todos : ∀ p ∈ todo, 0 ≤ p.1 ∧ p.1 ≤ c.ops.length ∧ 0 ≤ p.2 ∧ p.2 ≤ 4200 ∧ Reach c f (p.1.toNat, p.2)
  vis : ∀ (k : Nat) (d : Int), vals[k]? = some d → 0 ≤ d → Reach c f (k, d) ∧ d ≤ 1200 ∧ ∃ l, nexts c f.slots k d = some l ∧ ∀ q ∈ l, seen vals q ∨ asked todo q
  start : seen vals (f.frm.toNat, 0) ∨ asked todo (f.frm.toNat, 0)
theorem GoInv.first {c : CodeD} {f : FnD} (hf : 0 ≤ f.frm ∧ f.frm ≤ (c.ops.length : Int) - 1) : GoInv c f (List.replicate c.ops.length (-1)) [(f.frm, 0)] := by
  refine ⟨by simp, fun k v h => ?_, fun p hp => ?_, fun k d h h0 => ?_, Or.inr ⟨(f.frm, 0), by simp, rfl⟩⟩
  · rw [List.getElem?_replicate] at h
    split at h
    · cases h; exact Or.inl rfl
    · cases h
  · simp at hp
    subst hp
    exact ⟨hf.1, by show f.frm ≤ _; omega, by simp, by simp, Reach.start c f⟩
  · rw [List.getElem?_replicate] at h
    split at h
    · cases h; omega
    · cases h
theorem GoInv.done {c : CodeD} {f : FnD} {vals : List Int} (h : GoInv c f vals []) : FormOk c f := by
  have hno : ∀ q, ¬ asked [] q := fun q ⟨p, hp, _⟩ => by cases hp
  have hall : ∀ p, Reach c f p → seen vals p ∧ 0 ≤ p.2 := by
    intro p hp
    refine hp (fun q => seen vals q ∧ 0 ≤ q.2) ?_ ?_
    · exact ⟨h.start.resolve_right (hno _), by simp⟩
    · rintro q l r ⟨hq, hq0⟩ hl hr
      obtain ⟨_, _, l', hl', hall⟩ := h.vis q.1 q.2 hq hq0
      rw [hl] at hl'
      cases hl'
      exact ⟨(hall r hr).resolve_right (hno _), nexts_nonneg hq0 hl r hr⟩
  refine ⟨fun p hp => ?_, fun k d e hd he => ?_⟩
  · obtain ⟨h1, h0⟩ := hall p hp
    obtain ⟨_, h3, l, hl, _⟩ := h.vis p.1 p.2 h1 h0
    refine ⟨by rw [← h.len]; exact (List.getElem?_eq_some_iff.1 h1).1, h3, by rw [hl]; simp⟩
  · have h1 := (hall _ hd).1
    have h2 := (hall _ he).1
    unfold seen at h1 h2
    rw [h1] at h2
    simpa using h2
section
variable {c : CodeD} {f : FnD} {vals : List Int} {t : List (Int × Int)} {p : Int × Int}
theorem asked_pop {q : Nat × Int} (h : asked (t ++ [p]) q) : asked t q ∨ (p.1.toNat, p.2) = q := by
  obtain ⟨x, hx, he⟩ := h
  simp only [List.mem_append, List.mem_singleton] at hx
  rcases hx with hx | rfl
  · exact Or.inl ⟨x, hx, he⟩
  · exact Or.inr he
theorem GoInv.end_ (h : GoInv c f vals (t ++ [p])) (hp : p.1 = c.ops.length) : ¬ FormOk c f := fun hf => by
  have h1 := (h.todos p (by simp)).2.2.2.2
  have := (hf.fits _ h1).1
  simp only [hp, Int.toNat_natCast] at this
  omega
theorem GoInv.again (h : GoInv c f vals (t ++ [p])) (hp : seen vals (p.1.toNat, p.2)) : GoInv c f vals t := by
  have hk : ∀ q, asked (t ++ [p]) q → seen vals q ∨ asked t q := fun q hq => by
    rcases asked_pop hq with h1 | rfl
    · exact Or.inr h1
    · exact Or.inl hp
  refine ⟨h.len, h.neg, fun x hx => h.todos x (by simp [hx]), fun k d hd h0 => ?_, h.start.elim Or.inl (hk _)⟩
  obtain ⟨h1, h2, l, hl, h3⟩ := h.vis k d hd h0
  exact ⟨h1, h2, l, hl, fun q hq => (h3 q hq).elim Or.inl (hk q)⟩
theorem GoInv.other (h : GoInv c f vals (t ++ [p])) {v : Int} (hv : vals[p.1.toNat]? = some v) (h0 : 0 ≤ v) (hne : v ≠ p.2) : ¬ FormOk c f := fun hf => by
  have h1 := (h.todos p (by simp)).2.2.2.2
  have h2 := (h.vis _ v hv h0).1
  exact hne (hf.one _ _ _ h2 h1)
theorem GoInv.bad (h : GoInv c f vals (t ++ [p])) {s : StopD} (hs : StopFits c p.1.toNat s) (hsl : 0 ≤ f.slots) (hb : (!s.shut && (decide (s.needs ≤ p.2) && (decide (p.2 ≤ 1200) && decide (s.slots ≤ f.slots)))) = false) : ¬ FormOk c f := fun hf => by
  have h1 := (h.todos p (by simp)).2.2.2.2
  obtain ⟨_, h3, h4⟩ := hf.fits _ h1
  have h5 := (hs.ok f.slots p.2 hsl).2 h4
  have h3' : p.2 ≤ 1200 := h3
  simp [h5.1, h5.2.1, h5.2.2, h3'] at hb
theorem GoInv.go (h : GoInv c f vals (t ++ [p])) {s : StopD} (hs : StopFits c p.1.toNat s) (hsl : 0 ≤ f.slots) {v : Int} (hv : vals[p.1.toNat]? = some v) (h0 : v < 0) (hb : (!s.shut && (decide (s.needs ≤ p.2) && (decide (p.2 ≤ 1200) && decide (s.slots ≤ f.slots)))) = true) :
    GoInv c f (vals.set p.1.toNat p.2) (t ++ s.ways.map fun q => (q.1, p.2 + q.2)) := by
  obtain ⟨p1, p2, p3, p4, p5⟩ := h.todos p (by simp)
  simp only [Bool.and_eq_true, Bool.not_eq_true', decide_eq_true_eq] at hb
  obtain ⟨b1, b2, b3, b4⟩ := hb
  have hkl : p.1.toNat < vals.length := (List.getElem?_eq_some_iff.1 hv).1
  have hset : ∀ q, seen vals q → 0 ≤ q.2 → seen (vals.set p.1.toNat p.2) q := by
    intro q hq hq0
    unfold seen at *
    rw [List.getElem?_set]
    split
    · rename_i e
      rw [← e, hv] at hq
      cases hq
      omega
    · exact hq
  have hself : seen (vals.set p.1.toNat p.2) (p.1.toNat, p.2) := by
    unfold seen
    simp [hkl]
  obtain ⟨l, hl⟩ : ∃ l, nexts c f.slots p.1.toNat p.2 = some l := by
    have := (hs.ok f.slots p.2 hsl).1 ⟨b1, b2, b4⟩
    cases hx : nexts c f.slots p.1.toNat p.2 with
    | none => exact absurd hx this
    | some l => exact ⟨l, rfl⟩
  have hw := hs.ways f.slots p.2 l hl
  have hk : ∀ q, asked (t ++ [p]) q → seen (vals.set p.1.toNat p.2) q ∨ asked (t ++ s.ways.map fun q => (q.1, p.2 + q.2)) q := fun q hq => by
    rcases asked_pop hq with ⟨x, hx, he⟩ | rfl
    · exact Or.inr ⟨x, by simp [hx], he⟩
    · exact Or.inl hself
  refine ⟨by simpa using h.len, fun k u hu => ?_, fun x hx => ?_, fun k d hd hd0 => ?_, ?_⟩
  · rw [List.getElem?_set] at hu
    split at hu
    · cases hu; exact Or.inr p3
    · exact h.neg k u hu
  · simp only [List.mem_append, List.mem_map] at hx
    rcases hx with hx | ⟨q, hq, rfl⟩
    · exact h.todos x (by simp [hx])
    · have h1 := hs.to q hq
      have h2 := hs.more q hq
      have hm : (q.1.toNat, p.2 + q.2) ∈ l := (hw _).2 ⟨q, hq, rfl⟩
      exact ⟨h1.1, h1.2, nexts_nonneg p3 hl _ hm, by show p.2 + q.2 ≤ 4200; omega, p5.next hl hm⟩
  · rw [List.getElem?_set] at hd
    split at hd
    · rename_i e
      cases hd
      subst e
      refine ⟨p5, b3, l, hl, fun q hq => ?_⟩
      obtain ⟨x, hx, rfl⟩ := (hw q).1 hq
      exact Or.inr ⟨(x.1, p.2 + x.2), by simp; exact Or.inr hx, rfl⟩
    · obtain ⟨h1, h2, l', hl', h3⟩ := h.vis k d hd hd0
      refine ⟨h1, h2, l', hl', fun q hq => ?_⟩
      rcases h3 q hq with h4 | h4
      · exact Or.inl (hset q h4 (nexts_nonneg hd0 hl' q hq))
      · exact hk q h4
  · rcases h.start with h4 | h4
    · exact Or.inl (hset _ h4 (by simp))
    · exact hk _ h4
end
end
end Go.Proofs.Ytdemnolanlfblaa
