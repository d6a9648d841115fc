import Derived.Test.YtdemnolanlfblaaZCSpec
set_option linter.all false
namespace Go.Proofs.Ytdemnolanlfblaa
section
open Go.RowKit
structure WS where
  deep : List Int
  row : List Nat
  bad : Bool
def leadS (s : WS) (k : Nat) (d : Int) : WS :=
  if s.deep.length ≤ k ∨ 1200 < d then { s with bad := true }
  else if s.deep.getD k 0 < 0 then { deep := s.deep.set k d, row := s.row ++ [k], bad := s.bad }
  else if s.deep.getD k 0 = d then s else { s with bad := true }
def leadsS (s : WS) (l : List (Nat × Int)) : WS := l.foldl (fun s p => leadS s p.1 p.2) s
def WS.ill (s : WS) : WS := { s with bad := true }
def orderS (c : CodeD) (slots : Int) (s : WS) (k : Nat) : WS :=
  match c.ops[k]? with
  | none => s.ill
  | some o =>
    if o.d = 29 ∨ o.d = 30 then s.ill
    else if o.d = 28 then
      if selBad c k o.a.toNat (s.deep.getD k 0) then s.ill
      else leadsS s ((cases c k o.a.toNat).map (caseOut (s.deep.getD k 0 - casesTake (cases c k o.a.toNat))))
    else if s.deep.getD k 0 < takesN o then s.ill
    else leadsS (if slotBad c slots o then s.ill else s) (outs o k (s.deep.getD k 0))
def loopS (c : CodeD) (slots : Int) : Nat → Nat → WS → WS
  | 0, _, s => s
  | n + 1, i, s => if i < s.row.length ∧ s.bad = false then loopS c slots n (i + 1) (orderS c slots s (s.row.getD i 0)) else s
def startS (c : CodeD) (f : FnD) : WS := leadS ⟨List.replicate c.ops.length (-1), [], false⟩ f.frm.toNat 0
def formS (c : CodeD) (f : FnD) : WS := loopS c f.slots (c.ops.length + 1) 0 (startS c f)
def negs : List Int → Nat
  | [] => 0
  | x :: r => (if x < 0 then 1 else 0) + negs r
theorem negs_set (l : List Int) (k : Nat) (d : Int) (hk : k < l.length) (h : l.getD k 0 < 0) (hd : 0 ≤ d) : negs (l.set k d) + 1 = negs l := by
  induction l generalizing k with
  | nil => simp at hk
  | cons x r ih =>
    cases k with
    | zero =>
      have hx : x < 0 := by simpa using h
      have hn : ¬ d < 0 := by omega
      simp [negs, hx, hn]; omega
    | succ k =>
      have := ih k (by simpa using hk) (by simpa using h)
      simp only [List.set_cons_succ, negs]
      omega
theorem negs_replicate (n : Nat) : negs (List.replicate n (-1)) = n := by
  induction n with
  | zero => rfl
  | succ n ih => simp [List.replicate_succ, negs, ih]; omega
structure WOk (n : Nat) (s : WS) : Prop where
  len : s.deep.length = n
  sum : s.row.length + negs s.deep = n
  row : ∀ k ∈ s.row, k < n ∧ 0 ≤ s.deep.getD k 0
  met : ∀ k, k < n → 0 ≤ s.deep.getD k 0 → k ∈ s.row
theorem getD_set_self (l : List Int) (k : Nat) (d : Int) (h : k < l.length) : (l.set k d).getD k 0 = d := by simp [List.getD, h]
theorem getD_set_other (l : List Int) (k j : Nat) (d : Int) (h : j ≠ k) : (l.set k d).getD j 0 = l.getD j 0 := by
  simp [List.getD, List.getElem?_set, Ne.symm h]
theorem WOk.ill {n : Nat} {s : WS} (h : WOk n s) : WOk n s.ill := ⟨h.len, h.sum, h.row, h.met⟩
theorem WOk.lead {n : Nat} {s : WS} (h : WOk n s) (k : Nat) (d : Int) (hd : 0 ≤ d) : WOk n (leadS s k d) := by
  unfold leadS
  split
  · exact h.ill
  · rename_i hk
    have hk' : k < s.deep.length := by omega
    split
    · rename_i hneg
      refine ⟨by simpa using h.len, ?_, ?_, ?_⟩
      · have := negs_set s.deep k d hk' hneg hd
        have := h.sum
        simp; omega
      · intro j hj
        simp only [List.mem_append, List.mem_singleton] at hj
        rcases hj with hj | rfl
        · have hne : j ≠ k := by
            rintro rfl
            have := (h.row j hj).2
            omega
          refine ⟨(h.row j hj).1, ?_⟩
          show 0 ≤ (s.deep.set k d).getD j 0
          rw [getD_set_other _ _ _ _ hne]; exact (h.row j hj).2
        · exact ⟨by have := h.len; omega, by show 0 ≤ (s.deep.set j d).getD j 0; rw [getD_set_self _ _ _ hk']; exact hd⟩
      · intro j hj h0
        by_cases hjk : j = k
        · subst hjk; simp
        · have h0' : 0 ≤ (s.deep.set k d).getD j 0 := h0
          rw [getD_set_other _ _ _ _ hjk] at h0'
          simp [h.met j hj h0']
    · split
      · exact h
      · exact h.ill
theorem lead_keeps (s : WS) (k : Nat) (d : Int) (j : Nat) (h : 0 ≤ s.deep.getD j 0) : (leadS s k d).deep.getD j 0 = s.deep.getD j 0 := by
  unfold leadS
  split
  · rfl
  · split
    · rename_i hneg
      have hne : j ≠ k := by rintro rfl; omega
      exact getD_set_other _ _ _ _ hne
    · split <;> rfl
theorem lead_row (s : WS) (k : Nat) (d : Int) : ∃ t, (leadS s k d).row = s.row ++ t := by
  unfold leadS
  split
  · exact ⟨[], by simp⟩
  · split
    · exact ⟨[k], rfl⟩
    · split <;> exact ⟨[], by simp⟩
theorem lead_bad (s : WS) (k : Nat) (d : Int) (h : s.bad = true) : (leadS s k d).bad = true := by
  unfold leadS
  split
  · rfl
  · split
    · exact h
    · split
      · exact h
      · rfl
theorem lead_ok (s : WS) (k : Nat) (d : Int) (h : (leadS s k d).bad = false) : s.bad = false ∧ k < s.deep.length ∧ d ≤ 1200 ∧ (leadS s k d).deep.getD k 0 = d := by
  unfold leadS at h ⊢
  split at h
  · simp at h
  · rename_i hk
    rw [if_neg hk]
    split at h
    · rename_i hneg
      rw [if_pos hneg]
      exact ⟨h, by omega, by omega, getD_set_self _ _ _ (by omega)⟩
    · rename_i hneg
      rw [if_neg hneg]
      split at h
      · rename_i he
        rw [if_pos he]
        exact ⟨h, by omega, by omega, he⟩
      · simp at h
def Sound (c : CodeD) (f : FnD) (s : WS) : Prop := (s.bad = false → ∀ k ∈ s.row, Reach c f (k, s.deep.getD k 0)) ∧ (s.bad = true → ¬ FormOk c f)
theorem lead_sound {c : CodeD} {f : FnD} {s : WS} (hw : WOk c.ops.length s) (h : Sound c f s) (k : Nat) (d : Int) (hr : s.bad = false → Reach c f (k, d)) : Sound c f (leadS s k d) := by
  by_cases hs : s.bad = true
  · exact ⟨fun h0 => by rw [lead_bad s k d hs] at h0; simp at h0, fun _ => h.2 hs⟩
  replace hs : s.bad = false := by simpa using hs
  have hR := h.1 hs
  replace hr := hr hs
  unfold leadS
  split
  · rename_i hk
    refine ⟨fun h0 => by simp at h0, fun _ hF => ?_⟩
    have h1 := hF.fits _ hr
    have h2 := hw.len
    omega
  · rename_i hk
    split
    · rename_i hneg
      refine ⟨fun _ => ?_, h.2⟩
      intro j hj
      simp only [List.mem_append, List.mem_singleton] at hj
      show Reach c f (j, (s.deep.set k d).getD j 0)
      by_cases hjk : j = k
      · subst hjk
        rw [getD_set_self _ _ _ (by omega)]; exact hr
      · rw [getD_set_other _ _ _ _ hjk]
        rcases hj with hj | hj
        · exact hR j hj
        · exact absurd hj hjk
    · rename_i hneg
      split
      · exact h
      · rename_i hne
        refine ⟨fun h0 => by simp at h0, fun _ hF => ?_⟩
        have hm := hw.met k (by have := hw.len; omega) (by omega)
        exact hne (hF.one k _ _ (hR k hm) hr)
structure LeadsTo (c : CodeD) (f : FnD) (s t : WS) (l : List (Nat × Int)) : Prop where
  wok : WOk c.ops.length t
  sound : Sound c f t
  keeps : ∀ j, 0 ≤ s.deep.getD j 0 → t.deep.getD j 0 = s.deep.getD j 0
  row : ∃ r, t.row = s.row ++ r
  bad : s.bad = true → t.bad = true
  ok : t.bad = false → ∀ p ∈ l, p.1 < c.ops.length ∧ p.2 ≤ 1200 ∧ t.deep.getD p.1 0 = p.2
theorem leads_to {c : CodeD} {f : FnD} (l : List (Nat × Int)) (s : WS) (hw : WOk c.ops.length s) (h : Sound c f s) (hl : ∀ p ∈ l, 0 ≤ p.2 ∧ (s.bad = false → Reach c f p)) :
    LeadsTo c f s (leadsS s l) l := by
  induction l generalizing s with
  | nil => exact ⟨hw, h, fun _ _ => rfl, ⟨[], by simp [leadsS]⟩, fun h => h, fun _ p hp => by simp at hp⟩
  | cons p r ih =>
    have hp := hl p (by simp)
    have hw1 := hw.lead p.1 p.2 hp.1
    have h1 := lead_sound hw h p.1 p.2 hp.2
    have hbad : s.bad = true → (leadS s p.1 p.2).bad = true := lead_bad s p.1 p.2
    have hI := ih (leadS s p.1 p.2) hw1 h1 (fun q hq => ⟨(hl q (by simp [hq])).1, fun h0 => (hl q (by simp [hq])).2 (by cases hs : s.bad with | false => rfl | true => rw [hbad hs] at h0; simp at h0)⟩)
    have hrow := lead_row s p.1 p.2
    refine ⟨hI.wok, hI.sound, ?_, ?_, fun h0 => hI.bad (hbad h0), ?_⟩
    · intro j hj
      have e := lead_keeps s p.1 p.2 j hj
      rw [← e]
      exact hI.keeps j (by rw [e]; exact hj)
    · obtain ⟨a, ha⟩ := hrow
      obtain ⟨b, hb⟩ := hI.row
      exact ⟨a ++ b, by show (leadsS (leadS s p.1 p.2) r).row = _; rw [hb, ha, List.append_assoc]⟩
    · intro h0 q hq
      have h0' : (leadsS (leadS s p.1 p.2) r).bad = false := h0
      simp only [List.mem_cons] at hq
      rcases hq with rfl | hq
      · have h2 : (leadS s q.1 q.2).bad = false := by
          cases hs : (leadS s q.1 q.2).bad with
          | false => rfl
          | true => rw [hI.bad hs] at h0'; simp at h0'
        obtain ⟨_, a2, a3, a4⟩ := lead_ok s q.1 q.2 h2
        refine ⟨by have := hw.len; omega, a3, ?_⟩
        show (leadsS (leadS s q.1 q.2) r).deep.getD q.1 0 = q.2
        rw [hI.keeps q.1 (by rw [a4]; exact hp.1), a4]
      · exact hI.ok h0' q hq
theorem takesN_nonneg {c : CodeD} {o : OpD} (h : OpOk c o) : 0 ≤ takesN o := by
  unfold takesN
  split
  · omega
  · split
    · omega
    · split
      · rename_i h1
        have h2 : aOk c.fns.length c.kinds.length c.ops.length o = true := by
          unfold OpOk rangesB at h
          simp at h; exact h.2.1
        rcases h1 with h1 | h1 <;> simp [aOk, h1, inB] at h2 <;> omega
      · omega
theorem outs_nonneg {o : OpD} {k : Nat} {d : Int} (h0 : 0 ≤ d) (ht : ¬ d < takesN o) : ∀ p ∈ outs o k d, 0 ≤ p.2 := by
  have hp : 0 ≤ putsN o := by unfold putsN; split <;> omega
  intro p hp'
  unfold outs at hp'
  split at hp'
  · simp at hp'
  · split at hp'
    · simp at hp'; rw [hp']; exact h0
    · split at hp'
      · rename_i h17
        simp [takesN, h17] at ht
        simp at hp'; rcases hp' with rfl | rfl <;> simp <;> omega
      · split at hp'
        · rename_i h18
          simp [takesN, h18] at ht
          simp at hp'; rcases hp' with rfl | rfl <;> simp <;> omega
        · simp at hp'; rw [hp']; simp; omega
theorem nexts_nonneg {c : CodeD} {slots : Int} {k : Nat} {d : Int} {l : List (Nat × Int)} (h0 : 0 ≤ d) (h : nexts c slots k d = some l) : ∀ p ∈ l, 0 ≤ p.2 := by
  unfold nexts at h
  split at h
  · simp at h
  · rename_i o ho
    split at h
    · simp at h
    · split at h
      · split at h
        · simp at h
        · rename_i hb
          simp only [Option.some.injEq] at h
          subst h
          intro p hp
          obtain ⟨x, _, rfl⟩ := List.mem_map.1 hp
          simp [selBad] at hb
          unfold caseOut
          simp only
          split <;> omega
      · split at h
        · simp at h
        · rename_i ht
          simp only [Option.some.injEq] at h
          subst h
          exact outs_nonneg h0 (fun h1 => ht (Or.inl h1))
structure Looked (c : CodeD) (f : FnD) (i : Nat) (s : WS) : Prop where
  wok : WOk c.ops.length s
  sound : Sound c f s
  start : s.bad = false → f.frm.toNat ∈ s.row ∧ s.deep.getD f.frm.toNat 0 = 0
  done : s.bad = false → ∀ j, j < i → ∃ l, nexts c f.slots (s.row.getD j 0) (s.deep.getD (s.row.getD j 0) 0) = some l ∧ ∀ p ∈ l, p.1 < c.ops.length ∧ p.2 ≤ 1200 ∧ s.deep.getD p.1 0 = p.2
theorem order_to {c : CodeD} {f : FnD} {s : WS} (hw : WOk c.ops.length s) (h : Sound c f s) (hs : s.bad = false) (k : Nat) (hk : k ∈ s.row) :
    ∃ l, LeadsTo c f s (orderS c f.slots s k) l ∧ ((orderS c f.slots s k).bad = false → nexts c f.slots k (s.deep.getD k 0) = some l) := by
  have hR := h.1 hs k hk
  obtain ⟨hlt, h0⟩ := hw.row k hk
  have hill : nexts c f.slots k (s.deep.getD k 0) = none → LeadsTo c f s s.ill [] := fun hn =>
    ⟨hw.ill, ⟨fun h1 => by simp [WS.ill] at h1, fun _ hF => (hF.fits _ hR).2.2 hn⟩, fun _ _ => rfl, ⟨[], by simp [WS.ill]⟩, fun _ => rfl, fun _ p hp => by simp at hp⟩
  unfold orderS nexts at *
  cases ho : c.ops[k]? with
  | none =>
    simp only [ho] at hill ⊢
    exact ⟨[], hill trivial, fun h1 => by simp [WS.ill] at h1⟩
  | some o =>
    simp only [ho] at hill ⊢
    split
    · rename_i hd
      rw [if_pos hd] at hill
      exact ⟨[], hill rfl, fun h1 => by simp [WS.ill] at h1⟩
    · rename_i hd
      rw [if_neg hd] at hill
      split
      · rename_i h28
        rw [if_pos h28] at hill
        split
        · rename_i hb
          rw [if_pos hb] at hill
          exact ⟨[], hill rfl, fun h1 => by simp [WS.ill] at h1⟩
        · rename_i hb
          refine ⟨_, leads_to _ s hw h ?_, fun _ => rfl⟩
          intro p hp
          have hnn : 0 ≤ s.deep.getD k 0 - casesTake (cases c k o.a.toNat) := by
            simp [selBad] at hb; have := hb.2; simp [List.getD] at this ⊢; omega
          refine ⟨?_, fun _ => hR.next (l := (cases c k o.a.toNat).map (caseOut (s.deep.getD k 0 - casesTake (cases c k o.a.toNat)))) (by simp only [nexts, ho]; rw [if_neg hd, if_pos h28, if_neg hb]) hp⟩
          obtain ⟨x, _, rfl⟩ := List.mem_map.1 hp
          unfold caseOut
          simp only
          split <;> omega
      · rename_i h28
        rw [if_neg h28] at hill
        split
        · rename_i ht
          rw [if_pos (Or.inl ht)] at hill
          exact ⟨[], hill rfl, fun h1 => by simp [WS.ill] at h1⟩
        · rename_i ht
          by_cases hb : slotBad c f.slots o = true
          · rw [if_pos (Or.inr hb)] at hill
            rw [if_pos hb]
            have hL := hill rfl
            have hT := leads_to (c := c) (f := f) (outs o k (s.deep.getD k 0)) s.ill hL.wok hL.sound (fun p hp => ⟨outs_nonneg h0 ht p hp, fun h1 => by simp [WS.ill] at h1⟩)
            refine ⟨[], ⟨hT.wok, hT.sound, hT.keeps, hT.row, fun _ => hT.bad rfl, fun h1 => ?_⟩, fun h1 => ?_⟩
            · rw [hT.bad rfl] at h1; simp at h1
            · rw [hT.bad rfl] at h1; simp at h1
          · rw [if_neg hb]
            refine ⟨_, leads_to _ s hw h ?_, fun _ => ?_⟩
            · intro p hp
              exact ⟨outs_nonneg h0 ht p hp, fun _ => hR.next (l := outs o k (s.deep.getD k 0)) (by simp only [nexts, ho]; rw [if_neg hd, if_neg h28, if_neg (by simp only [not_or]; exact ⟨ht, hb⟩)]) hp⟩
            · rw [if_neg (by simp only [not_or]; exact ⟨ht, hb⟩)]
theorem looked_step {c : CodeD} {f : FnD} {i : Nat} {s : WS} (h : Looked c f i s) (hi : i < s.row.length) (hs : s.bad = false) : Looked c f (i + 1) (orderS c f.slots s (s.row.getD i 0)) := by
  have hm : s.row.getD i 0 ∈ s.row := by simp [List.getD, hi]
  obtain ⟨l, hL, hn⟩ := order_to h.wok h.sound hs _ hm
  obtain ⟨r, hr⟩ := hL.row
  refine ⟨hL.wok, hL.sound, ?_, ?_⟩
  · intro _
    obtain ⟨h1, h2⟩ := h.start hs
    refine ⟨by rw [hr]; simp [h1], ?_⟩
    rw [hL.keeps _ (by rw [h2]; omega), h2]
  · intro h0 j hj
    have hrow : (orderS c f.slots s (s.row.getD i 0)).row.getD j 0 = s.row.getD j 0 := by
      rw [hr]; simp only [List.getD]; rw [List.getElem?_append_left (by omega)]
    have hmj : s.row.getD j 0 ∈ s.row := by
      have hlt : j < s.row.length := by omega
      simp [List.getD, hlt]
    rw [hrow, hL.keeps _ (h.wok.row _ hmj).2]
    by_cases hji : j = i
    · subst hji
      exact ⟨l, hn h0, hL.ok h0⟩
    · obtain ⟨l', h1, h2⟩ := h.done hs j (by omega)
      refine ⟨l', h1, fun p hp => ?_⟩
      obtain ⟨a1, a2, a3⟩ := h2 p hp
      refine ⟨a1, a2, ?_⟩
      by_cases hneg : 0 ≤ s.deep.getD p.1 0
      · rw [hL.keeps _ hneg, a3]
      · exfalso
        rw [a3] at hneg
        exact hneg (nexts_nonneg (h.wok.row _ hmj).2 h1 p hp)
theorem loop_looked {c : CodeD} {f : FnD} (n i : Nat) (s : WS) (h : Looked c f i s) (hn : c.ops.length < n + i) :
    ∃ j, Looked c f j (loopS c f.slots n i s) ∧ ((loopS c f.slots n i s).bad = false → (loopS c f.slots n i s).row.length ≤ j) := by
  induction n generalizing i s with
  | zero =>
    have := h.wok.sum
    exact ⟨i, h, fun _ => by show s.row.length ≤ i; omega⟩
  | succ n ih =>
    unfold loopS
    split
    · rename_i hc
      exact ih (i + 1) _ (looked_step h hc.1 hc.2) (by omega)
    · rename_i hc
      refine ⟨i, h, fun h0 => ?_⟩
      simp only [not_and] at hc
      by_cases hlt : i < s.row.length
      · exact absurd h0 (hc hlt)
      · omega
theorem start_looked {c : CodeD} {f : FnD} (hf : 0 ≤ f.frm) (hl : f.frm ≤ (c.ops.length : Int) - 1) : Looked c f 0 (startS c f) := by
  have hw : WOk c.ops.length ⟨List.replicate c.ops.length (-1), [], false⟩ := by
    refine ⟨by simp, by simp [negs_replicate], by simp, ?_⟩
    intro k hk h0
    simp [List.getD, hk] at h0
  have hs : Sound c f ⟨List.replicate c.ops.length (-1), [], false⟩ := ⟨fun _ k hk => by simp at hk, fun h => by simp at h⟩
  refine ⟨hw.lead _ _ (by omega), lead_sound hw hs _ _ (fun _ => Reach.start c f), ?_, fun _ j hj => by omega⟩
  intro h0
  have h1 := (lead_ok _ _ _ h0).2.2.2
  refine ⟨(hw.lead _ _ (by omega)).met _ (by omega) (by rw [h1]; omega), h1⟩
theorem form_iff {c : CodeD} {f : FnD} (hf : 0 ≤ f.frm) (hl : f.frm ≤ (c.ops.length : Int) - 1) : (formS c f).bad = false ↔ FormOk c f := by
  obtain ⟨j, hL, hj⟩ := loop_looked (c.ops.length + 1) 0 (startS c f) (start_looked hf hl) (by omega)
  change Looked c f j (formS c f) at hL
  change (formS c f).bad = false → (formS c f).row.length ≤ j at hj
  constructor
  · intro h0
    have hj' := hj h0
    have hall : ∀ p, Reach c f p → p.1 ∈ (formS c f).row ∧ (formS c f).deep.getD p.1 0 = p.2 ∧ p.2 ≤ 1200 := by
      intro p hp
      refine hp (fun p => p.1 ∈ (formS c f).row ∧ (formS c f).deep.getD p.1 0 = p.2 ∧ p.2 ≤ 1200) ⟨(hL.start h0).1, (hL.start h0).2, by simp⟩ ?_
      intro q l r ⟨hq1, hq2, _⟩ hl hr
      obtain ⟨i, hi, he⟩ := List.getElem_of_mem hq1
      have hg : (formS c f).row.getD i 0 = q.1 := by simp [List.getD, hi, he]
      obtain ⟨l', h1, h2⟩ := hL.done h0 i (by omega)
      rw [hg, hq2, hl] at h1
      simp only [Option.some.injEq] at h1
      subst h1
      obtain ⟨a1, a2, a3⟩ := h2 r hr
      refine ⟨hL.wok.met _ a1 ?_, a3, a2⟩
      rw [a3]
      exact nexts_nonneg (by rw [← hq2]; exact (hL.wok.row _ hq1).2) hl r hr
    refine ⟨?_, ?_⟩
    · intro p hp
      obtain ⟨hm, hd, hle⟩ := hall p hp
      obtain ⟨i, hi, he⟩ := List.getElem_of_mem hm
      have hg : (formS c f).row.getD i 0 = p.1 := by simp [List.getD, hi, he]
      obtain ⟨l', h1, h2⟩ := hL.done h0 i (by omega)
      rw [hg, hd] at h1
      exact ⟨(hL.wok.row _ hm).1, hle, by rw [h1]; simp⟩
    · intro k d e h1 h2
      exact (hall _ h1).2.1.symm.trans (hall _ h2).2.1
  · intro hF
    cases hb : (formS c f).bad with
    | false => rfl
    | true => exact absurd hF (hL.sound.2 hb)
end
end Go.Proofs.Ytdemnolanlfblaa
