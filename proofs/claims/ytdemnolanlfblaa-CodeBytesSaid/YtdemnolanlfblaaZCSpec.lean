import Derived.WalkKit
set_option linter.all false
namespace Go.Proofs.Ytdemnolanlfblaa
section
open Go.RowKit
structure OpD where
  d : Int
  a : Int
  b : Int
structure FnD where
  params : Int
  slots : Int
  frm : Int
  takes : List Int
structure CodeD where
  ops : List OpD
  fns : List FnD
  kinds : List (List Int)
def inB (x l h : Int) : Bool := decide (l ≤ x ∧ x ≤ h)
def aOk (nf nk no : Int) (o : OpD) : Bool :=
  if o.d = 1 then true
  else if o.d = 2 ∨ o.d = 3 ∨ o.d = 4 ∨ o.d = 8 ∨ o.d = 9 ∨ o.d = 11 ∨ o.d = 19 ∨ o.d = 27 ∨ o.d = 28 then inB o.a 0 1200
  else if o.d = 5 ∨ o.d = 10 then inB o.a 0 (nf - 1)
  else if o.d = 6 ∨ o.d = 12 then inB o.a 0 (nk - 1)
  else if o.d = 7 then inB o.a 0 8
  else if o.d = 15 then inB o.a 0 10
  else if o.d = 16 ∨ o.d = 17 ∨ o.d = 18 then inB o.a 0 (no - 1)
  else if o.d = 29 then inB o.a 0 1
  else decide (o.a = 0)
def bOk (no : Int) (o : OpD) : Bool :=
  if o.d = 18 then inB o.b 0 1
  else if o.d = 29 ∨ o.d = 30 then inB o.b 0 (no - 1)
  else decide (o.b = 0)
def rangesB (nf nk no : Int) (o : OpD) : Bool := inB o.d 1 30 && (aOk nf nk no o && bOk no o)
def takesN (o : OpD) : Int :=
  if o.d = 1 ∨ o.d = 2 ∨ o.d = 5 ∨ o.d = 6 ∨ o.d = 7 ∨ o.d = 16 then 0
  else if o.d = 9 ∨ o.d = 23 ∨ o.d = 15 then 2
  else if o.d = 19 ∨ o.d = 27 then o.a + 1
  else 1
def putsN (o : OpD) : Int :=
  if o.d = 1 ∨ o.d = 2 ∨ o.d = 5 ∨ o.d = 6 ∨ o.d = 7 ∨ o.d = 8 ∨ o.d = 10 ∨ o.d = 11 ∨ o.d = 12 ∨ o.d = 13 ∨ o.d = 14 ∨ o.d = 24 ∨ o.d = 15 ∨ o.d = 19 then 1
  else 0
def slotBad (c : CodeD) (slots : Int) (o : OpD) : Bool :=
  decide ((o.d = 2 ∨ o.d = 3 ∨ o.d = 4) ∧ slots ≤ o.a) ||
  (decide (o.d = 5) && ((c.fns[o.a.toNat]?.map FnD.takes).getD []).any (fun t => decide (slots ≤ t)))
def outs (o : OpD) (k : Nat) (deep : Int) : List (Nat × Int) :=
  if o.d = 20 ∨ o.d = 22 then []
  else if o.d = 16 then [(o.a.toNat, deep)]
  else if o.d = 17 then [(o.a.toNat, deep - 1), (k + 1, deep - 1)]
  else if o.d = 18 then [(o.a.toNat, deep), (k + 1, deep - 1)]
  else [(k + 1, deep - takesN o + putsN o)]
def cases (c : CodeD) (k n : Nat) : List OpD := (c.ops.drop (k + 1)).take n
def caseTakes (o : OpD) : Int := if o.d = 29 then 1 + o.a else 0
def casesTake : List OpD → Int
  | [] => 0
  | o :: r => caseTakes o + casesTake r
def elses : List OpD → Nat
  | [] => 0
  | o :: r => (if o.d = 30 then 1 else 0) + elses r
def caseOut (deep : Int) (o : OpD) : Nat × Int := (o.b.toNat, if o.d = 29 ∧ o.a = 0 then deep + 1 else deep)
def selBad (c : CodeD) (k n : Nat) (deep : Int) : Bool :=
  decide ((cases c k n).length ≠ n) || (cases c k n).any (fun o => decide (o.d ≠ 29 ∧ o.d ≠ 30)) || decide (1 < elses (cases c k n)) || decide (deep - casesTake (cases c k n) < 0)
def nexts (c : CodeD) (slots : Int) (k : Nat) (deep : Int) : Option (List (Nat × Int)) :=
  match c.ops[k]? with
  | none => none
  | some o =>
    if o.d = 29 ∨ o.d = 30 then none
    else if o.d = 28 then
      if selBad c k o.a.toNat deep then none
      else some ((cases c k o.a.toNat).map (caseOut (deep - casesTake (cases c k o.a.toNat))))
    else if deep < takesN o ∨ slotBad c slots o = true then none
    else some (outs o k deep)
def Reach (c : CodeD) (f : FnD) (p : Nat × Int) : Prop :=
  ∀ S : Nat × Int → Prop, S (f.frm.toNat, 0) → (∀ q l r, S q → nexts c f.slots q.1 q.2 = some l → r ∈ l → S r) → S p
theorem Reach.start (c : CodeD) (f : FnD) : Reach c f (f.frm.toNat, 0) := fun _ h _ => h
theorem Reach.next {c : CodeD} {f : FnD} {q : Nat × Int} {l : List (Nat × Int)} {r : Nat × Int} (h : Reach c f q) (hl : nexts c f.slots q.1 q.2 = some l) (hr : r ∈ l) : Reach c f r :=
  fun S h0 hS => hS q l r (h S h0 hS) hl hr
structure FormOk (c : CodeD) (f : FnD) : Prop where
  fits : ∀ p, Reach c f p → p.1 < c.ops.length ∧ p.2 ≤ 1200 ∧ nexts c f.slots p.1 p.2 ≠ none
  one : ∀ k d e, Reach c f (k, d) → Reach c f (k, e) → d = e
structure FnOk (c : CodeD) (f : FnD) : Prop where
  slots : 0 ≤ f.slots ∧ f.slots ≤ 1200
  params : 0 ≤ f.params ∧ f.params ≤ f.slots
  frm : 0 ≤ f.frm ∧ f.frm ≤ (c.ops.length : Int) - 1
  takes : (f.takes.length : Int) ≤ f.slots - f.params
  each : ∀ t ∈ f.takes, 0 ≤ t ∧ t ≤ 1200
structure KindOk (c : CodeD) (l : List Int) : Prop where
  size : 1 ≤ l.length ∧ l.length ≤ 1200
  head : 0 ≤ l.getD 0 0 ∧ l.getD 0 0 ≤ 1200
  each : ∀ k x, l[k + 1]? = some x → -1 ≤ x ∧ x ≤ (c.fns.length : Int) - 1
def SizeOk (c : CodeD) : Prop := c.ops.length ≤ 8000 ∧ c.fns.length ≤ 1200 ∧ c.kinds.length ≤ 1200 ∧ c.fns.length ≠ 0
def OpOk (c : CodeD) (o : OpD) : Prop := rangesB c.fns.length c.kinds.length c.ops.length o = true
structure RangeOk (c : CodeD) : Prop where
  fns : ∀ f ∈ c.fns, FnOk c f
  kinds : ∀ l ∈ c.kinds, KindOk c l
  ops : ∀ o ∈ c.ops, OpOk c o
def CheckIs (c : CodeD) (e : Int) : Prop :=
  (e = 1 ∧ ¬ SizeOk c) ∨ (e = 11 ∧ SizeOk c ∧ ¬ RangeOk c) ∨ (e = 12 ∧ SizeOk c ∧ RangeOk c ∧ ¬ ∀ f ∈ c.fns, FormOk c f) ∨ (e = 0 ∧ SizeOk c ∧ RangeOk c ∧ ∀ f ∈ c.fns, FormOk c f)
theorem checkIs_one {c : CodeD} {e f : Int} (h : CheckIs c e) (g : CheckIs c f) : e = f := by
  rcases h with ⟨rfl, h1⟩ | ⟨rfl, h1, h2⟩ | ⟨rfl, h1, h2, h3⟩ | ⟨rfl, h1, h2, h3⟩ <;> rcases g with ⟨rfl, g1⟩ | ⟨rfl, g1, g2⟩ | ⟨rfl, g1, g2, g3⟩ | ⟨rfl, g1, g2, g3⟩ <;> first | rfl | contradiction
end
end Go.Proofs.Ytdemnolanlfblaa
