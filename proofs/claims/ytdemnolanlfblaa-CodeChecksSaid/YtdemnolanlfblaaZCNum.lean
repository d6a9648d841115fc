import Derived.Test.YtdemnolanlfblaaZCSpec
set_option linter.all false
namespace Go.Proofs.Ytdemnolanlfblaa
section
open Go.RowKit
def I64 (n : Int) : Prop := -9223372036854775808 ≤ n ∧ n ≤ 9223372036854775807
def zig (n : Int) : Nat := if n < 0 then (2 * (-(n + 1)) + 1).toNat else (2 * n).toNat
def unzig (u : Nat) : Int := if u % 2 = 1 then -((u / 2 : Nat) : Int) - 1 else ((u / 2 : Nat) : Int)
theorem unzig_zig (n : Int) : unzig (zig n) = n := by
  unfold zig unzig
  split
  · rw [if_pos (by omega)]; omega
  · rw [if_neg (by omega)]; omega
theorem zig_lt {n : Int} (h : I64 n) : zig n < 18446744073709551616 := by
  unfold I64 at h
  unfold zig
  split <;> omega
theorem unzig_in {u : Nat} (h : u < 18446744073709551616) : I64 (unzig u) := by
  unfold I64 unzig
  split <;> omega
def enc : Nat → Nat → List Nat
  | 0, _ => []
  | k + 1, u => if u < 128 then [u] else (u % 128 + 128) :: enc k (u / 128)
def putL (n : Int) : List Nat := enc 10 (zig n)
theorem enc_len : ∀ k u, (enc k u).length ≤ k
  | 0, _ => by simp [enc]
  | k + 1, u => by
    unfold enc
    split
    · simp
    · have := enc_len k (u / 128)
      simp
      omega
theorem put_len (n : Int) : (putL n).length ≤ 10 := enc_len _ _
theorem enc_small {k u : Nat} (h : u < 128) : enc (k + 1) u = [u] := by
  show (if u < 128 then _ else _) = _
  rw [if_pos h]
theorem enc_great {k u : Nat} (h : ¬ u < 128) : enc (k + 1) u = (u % 128 + 128) :: enc k (u / 128) := by
  show (if u < 128 then _ else _) = _
  rw [if_neg h]
theorem enc_bytes : ∀ k u x, x ∈ enc k u → x < 256
  | 0, _, _, h => by simp [enc] at h
  | k + 1, u, x, h => by
    by_cases hu : u < 128
    · rw [enc_small hu] at h; simp at h; omega
    · rw [enc_great hu] at h
      simp at h
      rcases h with h | h
      · omega
      · exact enc_bytes k _ _ h
def dec : List Nat → Nat → Nat → Option (Nat × List Nat)
  | [], _, _ => none
  | x :: r, k, u =>
    if (k = 9 ∧ 1 < x) ∨ (0 < k ∧ x = 0) then none
    else if x < 128 then some (u + x % 128 * 2 ^ (7 * k), r)
    else if k = 9 then none
    else dec r (k + 1) (u + x % 128 * 2 ^ (7 * k))
theorem pow_step (k : Nat) : 2 ^ (7 * (k + 1)) = 128 * 2 ^ (7 * k) := by rw [show 7 * (k + 1) = 7 * k + 7 from by omega, Nat.pow_add]; omega
theorem pow_pos7 (k : Nat) : 0 < 2 ^ (7 * k) := Nat.pow_pos (by decide)
theorem pow_nine : 2 ^ (7 * 9) = 9223372036854775808 := by decide
theorem dec_enc : ∀ (j v k u : Nat) (r : List Nat), v < 128 ^ (j + 1) → (0 < k → v ≠ 0) → v * 2 ^ (7 * k) < 18446744073709551616 → k + j + 1 ≤ 10 → dec (enc (j + 1) v ++ r) k u = some (u + v * 2 ^ (7 * k), r)
  | j, v, k, u, r, hv, h0, hs, hk => by
    by_cases hu : v < 128
    · rw [enc_small hu]
      show (if (k = 9 ∧ 1 < v) ∨ (0 < k ∧ v = 0) then none else if v < 128 then some (u + v % 128 * 2 ^ (7 * k), r) else _) = _
      rw [if_neg, if_pos hu, Nat.mod_eq_of_lt hu]
      rintro (⟨rfl, h⟩ | ⟨h, h'⟩)
      · rw [pow_nine] at hs; omega
      · exact h0 h h'
    · cases j with
      | zero => simp at hv; omega
      | succ j =>
        rw [enc_great hu]
        have hp := pow_pos7 k
        have hkk : k ≠ 9 := by omega
        show (if (k = 9 ∧ 1 < v % 128 + 128) ∨ (0 < k ∧ v % 128 + 128 = 0) then none else if v % 128 + 128 < 128 then _ else if k = 9 then none else dec (enc (j + 1) (v / 128) ++ r) (k + 1) (u + (v % 128 + 128) % 128 * 2 ^ (7 * k))) = _
        rw [if_neg (by omega), if_neg (by omega), if_neg hkk]
        have e1 : v / 128 * 2 ^ (7 * (k + 1)) + v % 128 * 2 ^ (7 * k) = v * 2 ^ (7 * k) := by
          rw [pow_step, ← Nat.mul_assoc, ← Nat.add_mul]
          congr 1
          omega
        rw [dec_enc j (v / 128) (k + 1) _ r (by rw [Nat.pow_succ] at hv; exact Nat.div_lt_of_lt_mul (by rw [Nat.mul_comm]; exact hv)) (by omega) (by omega) (by omega)]
        rw [show (v % 128 + 128) % 128 = v % 128 from by omega]
        rw [show u + v % 128 * 2 ^ (7 * k) + v / 128 * 2 ^ (7 * (k + 1)) = u + v * 2 ^ (7 * k) from by omega]
def num (bs : List Nat) : Option (Int × List Nat) := (dec bs 0 0).map fun p => (unzig p.1, p.2)
theorem num_put {n : Int} (h : I64 n) (r : List Nat) : num (putL n ++ r) = some (n, r) := by
  have h1 := zig_lt h
  unfold num putL
  rw [dec_enc 9 (zig n) 0 0 r (by have : 128 ^ 10 = 1180591620717411303424 := by decide
                                  rw [show 9 + 1 = 10 from rfl, this]; omega) (by omega) (by simpa using h1) (by omega)]
  simp [unzig_zig]
theorem dec_rest : ∀ (bs : List Nat) (k u : Nat) (v : Nat) (r : List Nat), dec bs k u = some (v, r) → ∃ p, bs = p ++ r ∧ 0 < p.length
  | [], _, _, _, _, h => by simp [dec] at h
  | x :: t, k, u, v, r, h => by
    unfold dec at h
    split at h
    · simp at h
    · split at h
      · simp at h; exact ⟨[x], by simp [h.2], by simp⟩
      · split at h
        · simp at h
        · obtain ⟨p, hp, _⟩ := dec_rest t _ _ _ _ h
          exact ⟨x :: p, by simp [hp], by simp⟩
abbrev Rd (α : Type) : Type := Except Int (α × List Nat)
def Rd.bind {α β : Type} (m : Rd α) (f : α → List Nat → Rd β) : Rd β :=
  match m with
  | .error e => .error e
  | .ok (a, r) => f a r
def rNum (bs : List Nat) : Rd Int := match num bs with
  | none => .error 3
  | some p => .ok p
def rCount (bs : List Nat) : Rd Nat := match num bs with
  | none => .error 3
  | some (n, r) => if n < 0 ∨ 10000 < n then .error 1 else .ok (n.toNat, r)
def rMany {α : Type} (f : List Nat → Rd α) : Nat → List Nat → Rd (List α)
  | 0, bs => .ok ([], bs)
  | n + 1, bs => (f bs).bind fun a r => (rMany f n r).bind fun l r' => .ok (a :: l, r')
def rOp (bs : List Nat) : Rd OpD := (rNum bs).bind fun d r => (rNum r).bind fun a r => (rNum r).bind fun b r => .ok (⟨d, a, b⟩, r)
def rInts (bs : List Nat) : Rd (List Int) := (rCount bs).bind fun n r => rMany rNum n r
def rFn (bs : List Nat) : Rd FnD := (rNum bs).bind fun p r => (rNum r).bind fun s r => (rNum r).bind fun f r => (rInts r).bind fun t r => .ok (⟨p, s, f, t⟩, r)
def rCode (bs : List Nat) : Rd CodeD := (rCount bs).bind fun no r => (rCount r).bind fun nf r => (rCount r).bind fun nk r =>
  (rMany rOp no r).bind fun os r => (rMany rFn nf r).bind fun fs r => (rMany rInts nk r).bind fun ks r => .ok (⟨os, fs, ks⟩, r)
def ReadIs (bs : List Nat) (c : CodeD) (e : Int) : Prop :=
  match rCode bs with
  | .error f => e = f ∧ c = ⟨[], [], []⟩
  | .ok (d, _ :: _) => e = 3 ∧ c = ⟨[], [], []⟩
  | .ok (d, []) => CheckIs d e ∧ c = (if e = 0 then d else ⟨[], [], []⟩)
theorem readIs_one {bs : List Nat} {c d : CodeD} {e f : Int} (h : ReadIs bs c e) (g : ReadIs bs d f) : c = d ∧ e = f := by
  unfold ReadIs at h g
  split at h
  · rename_i e1
    rw [e1] at g
    exact ⟨h.2.trans g.2.symm, h.1.trans g.1.symm⟩
  · rename_i e1
    rw [e1] at g
    exact ⟨h.2.trans g.2.symm, h.1.trans g.1.symm⟩
  · rename_i e1
    rw [e1] at g
    have := checkIs_one h.1 g.1
    subst this
    exact ⟨h.2.trans g.2.symm, rfl⟩
def bOp (o : OpD) : List Nat := putL o.d ++ putL o.a ++ putL o.b
def bMany {α : Type} (f : α → List Nat) : List α → List Nat
  | [] => []
  | a :: l => f a ++ bMany f l
def bInts (l : List Int) : List Nat := putL l.length ++ bMany putL l
def bFn (f : FnD) : List Nat := putL f.params ++ putL f.slots ++ putL f.frm ++ bInts f.takes
def bCode (c : CodeD) : List Nat := putL c.ops.length ++ putL c.fns.length ++ putL c.kinds.length ++ bMany bOp c.ops ++ bMany bFn c.fns ++ bMany bInts c.kinds
theorem bMany_snoc {α : Type} (f : α → List Nat) (l : List α) (a : α) : bMany f (l ++ [a]) = bMany f l ++ f a := by
  induction l with
  | nil => simp [bMany]
  | cons x r ih => simp [bMany, ih]
theorem bMany_len {α : Type} (f : α → List Nat) (k : Nat) : ∀ l : List α, (∀ a ∈ l, (f a).length ≤ k) → (bMany f l).length ≤ k * l.length
  | [], _ => by simp [bMany]
  | a :: l, h => by
    have h1 := h a (by simp)
    have h2 := bMany_len f k l (fun b hb => h b (by simp [hb]))
    simp only [bMany, List.length_append, List.length_cons, Nat.mul_succ]
    omega
structure CodeFits (c : CodeD) : Prop where
  ops : ∀ o ∈ c.ops, I64 o.d ∧ I64 o.a ∧ I64 o.b
  fns : ∀ f ∈ c.fns, I64 f.params ∧ I64 f.slots ∧ I64 f.frm ∧ ∀ t ∈ f.takes, I64 t
  kinds : ∀ l ∈ c.kinds, ∀ x ∈ l, I64 x
theorem rNum_put {n : Int} (h : I64 n) (r : List Nat) : rNum (putL n ++ r) = .ok (n, r) := by unfold rNum; rw [num_put h]
theorem rCount_put {n : Nat} (h : n ≤ 10000) (r : List Nat) : rCount (putL (n : Int) ++ r) = .ok (n, r) := by
  unfold rCount
  rw [num_put (by unfold I64; omega)]
  show (if _ then _ else _) = _
  rw [if_neg (by omega)]
  simp
theorem rMany_put {α : Type} {f : List Nat → Rd α} {g : α → List Nat} : ∀ (l : List α) (r : List Nat), (∀ a ∈ l, ∀ r, f (g a ++ r) = .ok (a, r)) → rMany f l.length (bMany g l ++ r) = .ok (l, r)
  | [], r, _ => rfl
  | a :: l, r, h => by
    show (f (g a ++ bMany g l ++ r)).bind _ = _
    rw [List.append_assoc, h a (by simp)]
    show (rMany f l.length (bMany g l ++ r)).bind _ = _
    rw [rMany_put l r (fun b hb => h b (by simp [hb]))]
    rfl
theorem rInts_put {l : List Int} (h : l.length ≤ 10000) (h' : ∀ x ∈ l, I64 x) (r : List Nat) : rInts (bInts l ++ r) = .ok (l, r) := by
  unfold rInts bInts
  rw [List.append_assoc, rCount_put h]
  exact rMany_put l r (fun a ha r => rNum_put (h' a ha) r)
theorem rOp_put {o : OpD} (h : I64 o.d ∧ I64 o.a ∧ I64 o.b) (r : List Nat) : rOp (bOp o ++ r) = .ok (o, r) := by
  unfold rOp bOp
  rw [List.append_assoc, List.append_assoc, rNum_put h.1]
  show (rNum _).bind _ = _
  rw [rNum_put h.2.1]
  show (rNum _).bind _ = _
  rw [rNum_put h.2.2]
  rfl
theorem rFn_put {f : FnD} (h : I64 f.params ∧ I64 f.slots ∧ I64 f.frm ∧ ∀ t ∈ f.takes, I64 t) (hl : f.takes.length ≤ 10000) (r : List Nat) : rFn (bFn f ++ r) = .ok (f, r) := by
  unfold rFn bFn
  rw [List.append_assoc, List.append_assoc, List.append_assoc, rNum_put h.1]
  show (rNum _).bind _ = _
  rw [rNum_put h.2.1]
  show (rNum _).bind _ = _
  rw [rNum_put h.2.2.1]
  show (rInts _).bind _ = _
  rw [rInts_put hl h.2.2.2]
  rfl
theorem rCode_put {c : CodeD} (hs : SizeOk c) (hr : RangeOk c) (hf : CodeFits c) : rCode (bCode c) = .ok (c, []) := by
  obtain ⟨h1, h2, h3, _⟩ := hs
  unfold rCode bCode
  rw [← List.append_nil (putL _ ++ _ ++ _ ++ _ ++ _ ++ _)]
  simp only [List.append_assoc]
  rw [rCount_put (by omega)]
  show (rCount _).bind _ = _
  rw [rCount_put (by omega)]
  show (rCount _).bind _ = _
  rw [rCount_put (by omega)]
  show (rMany rOp _ _).bind _ = _
  rw [rMany_put c.ops _ (fun a ha r => rOp_put (hf.ops a ha) r)]
  show (rMany rFn _ _).bind _ = _
  rw [rMany_put c.fns _ (fun a ha r => rFn_put (hf.fns a ha) (by have := hr.fns a ha; have h5 := this.takes; have h6 := this.slots; have h7 := this.params; omega) r)]
  show (rMany rInts _ _).bind _ = _
  rw [rMany_put c.kinds _ (fun a ha r => rInts_put (by have := (hr.kinds a ha).size; omega) (hf.kinds a ha) r)]
  rfl
theorem readIs_put {c : CodeD} (h : CheckIs c 0) (hf : CodeFits c) : ReadIs (bCode c) c 0 := by
  rcases h with ⟨h, _⟩ | ⟨h, _⟩ | ⟨h, _⟩ | ⟨_, h1, h2, h3⟩
  · simp at h
  · simp at h
  · simp at h
  · unfold ReadIs
    rw [rCode_put h1 h2 hf]
    exact ⟨Or.inr (Or.inr (Or.inr ⟨rfl, h1, h2, h3⟩)), rfl⟩
end
end Go.Proofs.Ytdemnolanlfblaa
