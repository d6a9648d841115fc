import Derived.Test.YtdemnolanlfblaaZCNum
import Derived.Test.YtdemnolanlfblaaZCCap
import Derived.Test.YtdemnolanlfblaaZCRead
import Derived.Test.YtdemnolanlfblaaZBCode
set_option linter.all false
namespace Go.Proofs.Ytdemnolanlfblaa
section
open Go.RowKit
def numR (l : List Nat) (e : Int) : Int × List Nat × Int :=
  match num l with
  | none => (0, [], if e = 0 then 3 else e)
  | some (n, r) => (n, r, e)
def cntR (l : List Nat) (e : Int) : Int × List Nat × Int :=
  if (numR l e).1 < 0 ∨ 10000 < (numR l e).1 then (0, [], if (numR l e).2.2 = 0 then 1 else (numR l e).2.2) else numR l e
def cntN (l : List Nat) (e : Int) : Nat × List Nat × Int := ((cntR l e).1.toNat, (cntR l e).2.1, (cntR l e).2.2)
def manyR {α : Type} (g : List Nat → Int → α × List Nat × Int) : Nat → List Nat → Int → List α × List Nat × Int
  | 0, l, e => ([], l, e)
  | k + 1, l, e => if e = 0 then ((g l e).1 :: (manyR g k (g l e).2.1 (g l e).2.2).1, (manyR g k (g l e).2.1 (g l e).2.2).2.1, (manyR g k (g l e).2.1 (g l e).2.2).2.2) else ([], l, e)
def bindR {α β : Type} (g : List Nat → Int → α × List Nat × Int) (G : α → List Nat → Int → β × List Nat × Int) (l : List Nat) (e : Int) : β × List Nat × Int := G (g l e).1 (g l e).2.1 (g l e).2.2
def opR : List Nat → Int → OpD × List Nat × Int := bindR numR fun d => bindR numR fun a => bindR numR fun b l e => (⟨d, a, b⟩, l, e)
def lstR : List Nat → Int → List Int × List Nat × Int := bindR cntN fun n => manyR numR n
def fnR : List Nat → Int → FnD × List Nat × Int := bindR numR fun p => bindR numR fun s => bindR numR fun f => bindR lstR fun t l e => (⟨p, s, f, t⟩, l, e)
def codeR : List Nat → Int → CodeD × List Nat × Int := bindR cntN fun no => bindR cntN fun nf => bindR cntN fun nk => bindR (manyR opR no) fun os => bindR (manyR fnR nf) fun fs => bindR (manyR lstR nk) fun ks l e => (⟨os, fs, ks⟩, l, e)
structure Ag {α : Type} (f : List Nat → Rd α) (g : List Nat → Int → α × List Nat × Int) : Prop where
  bad : ∀ l e, e ≠ 0 → (g l e).2.2 = e
  ok : ∀ l a r, f l = .ok (a, r) → g l 0 = (a, r, 0)
  err : ∀ l x, f l = .error x → x ≠ 0 ∧ (g l 0).2.2 = x
theorem Ag.pure {α : Type} (a : α) : Ag (fun l => .ok (a, l)) (fun l e => (a, l, e)) := ⟨fun _ _ _ => rfl, fun l b r h => by cases h; rfl, fun l x h => by cases h⟩
theorem Ag.bind {α β : Type} {f : List Nat → Rd α} {g : List Nat → Int → α × List Nat × Int} {F : α → List Nat → Rd β} {G : α → List Nat → Int → β × List Nat × Int} (h : Ag f g) (H : ∀ a, Ag (F a) (G a)) : Ag (fun l => (f l).bind F) (bindR g G) := by
  refine ⟨fun l e he => ?_, fun l b r hx => ?_, fun l x hx => ?_⟩
  · have h1 := h.bad l e he
    have h2 := (H (g l e).1).bad (g l e).2.1 (g l e).2.2 (by rw [h1]; exact he)
    exact h2.trans h1
  · cases hf : f l with
    | error y => simp only [hf, Rd.bind] at hx; cases hx
    | ok p =>
      obtain ⟨a, r'⟩ := p
      simp only [hf, Rd.bind] at hx
      have h1 := h.ok l a r' hf
      unfold bindR
      rw [h1]
      exact (H a).ok r' b r hx
  · cases hf : f l with
    | error y =>
      simp only [hf, Rd.bind] at hx
      cases hx
      obtain ⟨h1, h2⟩ := h.err l x hf
      refine ⟨h1, ?_⟩
      exact ((H (g l 0).1).bad (g l 0).2.1 (g l 0).2.2 (by rw [h2]; exact h1)).trans h2
    | ok p =>
      obtain ⟨a, r'⟩ := p
      simp only [hf, Rd.bind] at hx
      have h1 := h.ok l a r' hf
      unfold bindR
      rw [h1]
      exact (H a).err r' x hx
theorem Ag.many {α : Type} {f : List Nat → Rd α} {g : List Nat → Int → α × List Nat × Int} (h : Ag f g) : ∀ n, Ag (rMany f n) (manyR g n)
  | 0 => Ag.pure []
  | n + 1 => by
    have h1 := Ag.bind h (fun a => Ag.bind (Ag.many h n) (fun l => Ag.pure (a :: l)))
    refine ⟨fun l e he => ?_, fun l b r hx => ?_, fun l x hx => ?_⟩
    · unfold manyR
      rw [if_neg he]
    · have := h1.ok l b r hx
      unfold manyR
      rw [if_pos rfl]
      exact this
    · have := h1.err l x hx
      unfold manyR
      rw [if_pos rfl]
      exact this
theorem ag_num : Ag rNum numR := by
  refine ⟨fun l e he => ?_, fun l a r hx => ?_, fun l x hx => ?_⟩
  · unfold numR
    split
    · simp [he]
    · rfl
  · unfold rNum at hx
    unfold numR
    split at hx
    · cases hx
    · rename_i hn
      cases hx
      rw [hn]
  · unfold rNum at hx
    unfold numR
    split at hx
    · rename_i hn
      cases hx
      rw [hn]
      simp
    · cases hx
theorem ag_cnt : Ag rCount cntN := by
  refine ⟨fun l e he => ?_, fun l a r hx => ?_, fun l x hx => ?_⟩
  · have := ag_num.bad l e he
    show (cntR l e).2.2 = e
    unfold cntR
    split
    · rw [this]; simp [he]
    · exact this
  · unfold rCount at hx
    cases hn : num l with
    | none => rw [hn] at hx; cases hx
    | some p =>
      obtain ⟨n, r'⟩ := p
      rw [hn] at hx
      simp only at hx
      have h1 : numR l 0 = (n, r', 0) := by unfold numR; rw [hn]
      split at hx
      · cases hx
      · rename_i hc
        cases hx
        unfold cntN cntR
        rw [h1]
        simp only [if_neg hc]
  · unfold rCount at hx
    cases hn : num l with
    | none =>
      rw [hn] at hx
      cases hx
      have h1 : numR l 0 = (0, [], 3) := by unfold numR; rw [hn]; simp
      unfold cntN cntR
      rw [h1]
      simp
    | some p =>
      obtain ⟨n, r'⟩ := p
      rw [hn] at hx
      simp only at hx
      have h1 : numR l 0 = (n, r', 0) := by unfold numR; rw [hn]
      split at hx
      · rename_i hc
        cases hx
        unfold cntN cntR
        rw [h1]
        simp [hc]
      · cases hx
theorem ag_op : Ag rOp opR := ag_num.bind fun d => ag_num.bind fun a => ag_num.bind fun b => Ag.pure (⟨d, a, b⟩ : OpD)
theorem ag_lst : Ag rInts lstR := ag_cnt.bind fun n => ag_num.many n
theorem ag_fn : Ag rFn fnR := ag_num.bind fun p => ag_num.bind fun s => ag_num.bind fun f => ag_lst.bind fun t => Ag.pure (⟨p, s, f, t⟩ : FnD)
theorem ag_code : Ag rCode codeR := ag_cnt.bind fun no => ag_cnt.bind fun nf => ag_cnt.bind fun nk => (ag_op.many no).bind fun os => (ag_fn.many nf).bind fun fs => (ag_lst.many nk).bind fun ks => Ag.pure (⟨os, fs, ks⟩ : CodeD)
theorem readIs_bad {bs : List Nat} (h : (codeR bs 0).2.2 ≠ 0) : ReadIs bs ⟨[], [], []⟩ (codeR bs 0).2.2 := by
  unfold ReadIs
  cases hr : rCode bs with
  | error x => exact ⟨(ag_code.err bs x hr).2, rfl⟩
  | ok p =>
    obtain ⟨d, r⟩ := p
    have := ag_code.ok bs d r hr
    rw [this] at h
    exact absurd rfl h
theorem code_ok {bs : List Nat} (h : (codeR bs 0).2.2 = 0) : rCode bs = .ok ((codeR bs 0).1, (codeR bs 0).2.1) := by
  cases hr : rCode bs with
  | error x =>
    obtain ⟨h1, h2⟩ := ag_code.err bs x hr
    rw [h] at h2
    exact absurd h2.symm h1
  | ok p =>
    obtain ⟨d, r⟩ := p
    have := ag_code.ok bs d r hr
    rw [this]
theorem readIs_more {bs : List Nat} (h : (codeR bs 0).2.2 = 0) (hl : (codeR bs 0).2.1 ≠ []) : ReadIs bs ⟨[], [], []⟩ 3 := by
  unfold ReadIs
  rw [code_ok h]
  cases hc : (codeR bs 0).2.1 with
  | nil => exact absurd hc hl
  | cons _ _ => exact ⟨rfl, rfl⟩
theorem readIs_end {bs : List Nat} (h : (codeR bs 0).2.2 = 0) (hl : (codeR bs 0).2.1 = []) {n : Int} (hn : CheckIs (codeR bs 0).1 n) : ReadIs bs (if n = 0 then (codeR bs 0).1 else ⟨[], [], []⟩) n := by
  unfold ReadIs
  rw [code_ok h, hl]
  exact ⟨hn, rfl⟩
theorem dec_lt : ∀ (bs : List Nat) (k u v : Nat) (r : List Nat), k ≤ 9 → u < 2 ^ (7 * k) → dec bs k u = some (v, r) → v < 18446744073709551616
  | [], _, _, _, _, _, _, h => by simp [dec] at h
  | x :: t, k, u, v, r, hk, hu, h => by
    unfold dec at h
    split at h
    · simp at h
    · rename_i hbad
      have h7 : u + x % 128 * 2 ^ (7 * k) < 2 ^ (7 * (k + 1)) := by
        rw [pow_step]
        have : x % 128 * 2 ^ (7 * k) ≤ 127 * 2 ^ (7 * k) := Nat.mul_le_mul (by omega) (Nat.le_refl _)
        omega
      split at h
      · rename_i hx
        simp at h
        obtain ⟨rfl, _⟩ := h
        by_cases hk9 : k = 9
        · subst hk9
          rw [pow_nine] at hu ⊢
          omega
        · have h8 : 2 ^ (7 * (k + 1)) ≤ 2 ^ (7 * 9) := Nat.pow_le_pow_right (by decide) (by omega)
          rw [pow_nine] at h8
          omega
      · split at h
        · simp at h
        · exact dec_lt t (k + 1) _ v r (by omega) h7 h
theorem numR_in (l : List Nat) (e : Int) : I64 (numR l e).1 := by
  unfold numR
  split
  · unfold I64; simp
  · rename_i n r hn
    unfold num at hn
    cases hd : dec l 0 0 with
    | none => rw [hd] at hn; cases hn
    | some p =>
      obtain ⟨v, r'⟩ := p
      rw [hd] at hn
      simp at hn
      obtain ⟨rfl, _⟩ := hn
      exact unzig_in (dec_lt l 0 0 v r' (by omega) (by simp) hd)
theorem many_in {α : Type} {g : List Nat → Int → α × List Nat × Int} {Q : α → Prop} (h : ∀ l e, Q (g l e).1) : ∀ n l e, ∀ x ∈ (manyR g n l e).1, Q x
  | 0, l, e, x, hx => by simp [manyR] at hx
  | n + 1, l, e, x, hx => by
    unfold manyR at hx
    split at hx
    · simp only [List.mem_cons] at hx
      rcases hx with rfl | hx
      · exact h _ _
      · exact many_in h n _ _ x hx
    · simp at hx
theorem lstR_in (l : List Nat) (e : Int) : ∀ x ∈ (lstR l e).1, I64 x := many_in (Q := I64) numR_in _ _ _
theorem opR_in (l : List Nat) (e : Int) : I64 (opR l e).1.d ∧ I64 (opR l e).1.a ∧ I64 (opR l e).1.b := ⟨numR_in _ _, numR_in _ _, numR_in _ _⟩
theorem fnR_in (l : List Nat) (e : Int) : I64 (fnR l e).1.params ∧ I64 (fnR l e).1.slots ∧ I64 (fnR l e).1.frm ∧ ∀ t ∈ (fnR l e).1.takes, I64 t := ⟨numR_in _ _, numR_in _ _, numR_in _ _, lstR_in _ _⟩
theorem codeR_in (l : List Nat) (e : Int) : CodeFits (codeR l e).1 := ⟨many_in (Q := fun o : OpD => I64 o.d ∧ I64 o.a ∧ I64 o.b) opR_in _ _ _, many_in (Q := fun f : FnD => I64 f.params ∧ I64 f.slots ∧ I64 f.frm ∧ ∀ t ∈ f.takes, I64 t) fnR_in _ _ _, many_in (Q := fun l : List Int => ∀ x ∈ l, I64 x) lstR_in _ _ _⟩
theorem many_len {α : Type} (g : List Nat → Int → α × List Nat × Int) : ∀ n l e, (manyR g n l e).1.length ≤ n
  | 0, l, e => by simp [manyR]
  | n + 1, l, e => by
    unfold manyR
    split
    · have := many_len g n (g l e).2.1 (g l e).2.2
      simp only [List.length_cons]
      omega
    · simp
theorem cntR_le (l : List Nat) (e : Int) : 0 ≤ (cntR l e).1 ∧ (cntR l e).1 ≤ 10000 := by
  unfold cntR
  split
  · simp
  · omega
theorem many_end {α : Type} (g : List Nat → Int → α × List Nat × Int) {k : Nat} {e : Int} (h : k = 0 ∨ e ≠ 0) (l : List Nat) : manyR g k l e = ([], l, e) := by
  cases k with
  | zero => rfl
  | succ k =>
    unfold manyR
    rw [if_neg (by rcases h with h | h; · cases h
                   · exact h)]
theorem many_go {α : Type} (g : List Nat → Int → α × List Nat × Int) (k : Nat) (l : List Nat) : manyR g (k + 1) l 0 = ((g l 0).1 :: (manyR g k (g l 0).2.1 (g l 0).2.2).1, (manyR g k (g l 0).2.1 (g l 0).2.2).2) := by
  show (if (0 : Int) = 0 then _ else _) = _
  rw [if_pos rfl]
end
section
open Go.RowKit
structure RdAt (p : Nat) (lv : Value) (e : Int) (w : World) : Prop where
  box : w.heap[p]? = some (.cells #[lv, .int .i64 e] 51 (0, 0))
theorem RdAt.cells {p : Nat} {lv : Value} {e : Int} {w : World} (h : RdAt p lv e w) : w.cell? ⟨p, 0, none⟩ = some lv ∧ w.cell? ⟨p, 1, none⟩ = some (.int .i64 e) ∧ w.frozen? ⟨p, 0, none⟩ = false ∧ w.frozen? ⟨p, 1, none⟩ = false := by
  refine ⟨?_, ?_, ?_, ?_⟩ <;> simp [World.cell?, World.frozen?, h.box]
theorem RdAt.left {p : Nat} {lv lv' : Value} {e : Int} {w : World} (h : RdAt p lv e w) : RdAt p lv' e (w.setCell ⟨p, 0, none⟩ lv') := ⟨by rw [block_set h.box]; simp⟩
theorem RdAt.wrong {p : Nat} {lv : Value} {e e' : Int} {w : World} (h : RdAt p lv e w) : RdAt p lv e' (w.setCell ⟨p, 1, none⟩ (.int .i64 e')) := ⟨by rw [block_set h.box]; simp⟩
def RfPost (p : Nat) (e : Int) (w : World) (r : Ending) (w' : World) : Prop := r = .returned (.tuple #[]) ∧ RdAt p (.slice none 0 0) e w' ∧ Only p w w'
theorem rfail_any (p : Nat) (a : Option Addr) (n cap : Nat) (e x : Int) (w : World) (h : RdAt p (.slice a n cap) e w) : Calls Try.prog 44 #[.pointer (some ⟨p, 0, none⟩), .int .i64 x] w (RfPost p (if e = 0 then x else e) w) := by
  obtain ⟨h0, h1, f0, f1⟩ := h.cells
  have HA := hide h
  by_cases he : e = 0
  · subst he
    go_enter Try.func44, Try.ntmps44
    go_wp2
    go_end0
    exact ⟨rfl, (unhide HA).wrong.left, ((Only.refl p w).set _ _).set _ _⟩
  · rw [if_neg he]
    go_enter Try.func44, Try.ntmps44
    go_wp2
    go_end0
    exact ⟨rfl, (unhide HA).left, (Only.refl p w).set _ _⟩
structure RdSt (p C : Nat) (l : List Nat) (e : Int) (w : World) : Prop where
  box : ∃ a cap, RdAt p (.slice a l.length cap) e w ∧ BytesIn C w (.slice a l.length cap) l ∧ l.length ≤ cap
  low : C ≤ p
  here : p < w.heap.size
  small : ∀ x ∈ l, x < 256
  len : l.length ≤ maxLen
theorem RdSt.nil {p C : Nat} {l : List Nat} {e e' : Int} {w w' : World} (h : RdSt p C l e w) (h' : RdAt p (.slice none 0 0) e' w') (ho : Only p w w') : RdSt p C [] e' w' :=
  ⟨⟨none, 0, h', ⟨none, 0, rfl, by simp⟩, by simp⟩, h.low, by rw [ho.size]; exact h.here, by simp, by simp [maxLen]⟩
set_option maxRecDepth 100000 in
theorem and_all : ∀ k : Fin 256, k.val &&& 127 = k.val % 128 := by decide
theorem and_127 {x : Nat} (h : x < 256) : bits BinOp.and IntKind.u8 (x : Int) 127 = ((x % 128 : Nat) : Int) := by
  rw [show (127 : Int) = ((127 : Nat) : Int) from rfl, u8_and_nat _ _ (by omega) (by omega)]
  have := and_all ⟨x, h⟩
  simp only at this
  rw [this]
def NuPost (p C : Nat) (x : Int × List Nat × Int) (w : World) (r : Ending) (w' : World) : Prop := r = .returned (.int .i64 x.1) ∧ RdSt p C x.2.1 x.2.2 w' ∧ Only p w w'
theorem num_fails {p C : Nat} {l : List Nat} {e : Int} {w w1 : World} (h : RdSt p C l e w) (hn : num l = none) (hr : RdAt p (.slice none 0 0) (if e = 0 then 3 else e) w1) (ho : Only p w w1) : NuPost p C (numR l e) w (.returned (.int .i64 0)) w1 := by
  unfold numR
  rw [hn]
  exact ⟨rfl, h.nil hr ho, ho⟩
theorem num_odd {U : Nat} (h : U < 18446744073709551616) : wrap64 (bits BinOp.xor IntKind.u64 IntKind.u64.max ((U : Int) / 2)) = -((U / 2 : Nat) : Int) - 1 := by
  have hm : IntKind.u64.max = ((18446744073709551615 : Nat) : Int) := by rfl
  rw [show (U : Int) / 2 = ((U / 2 : Nat) : Int) by omega, hm, u64_xor_nat _ _ (by omega) (by omega), xor_max _ (by omega)]
  unfold wrap64
  omega
theorem num_takes {p C : Nat} {l : List Nat} {e : Int} {w : World} {bb bq cap i : Nat} {n v : Int} {A : Value} (h : RdSt p C l e w) (hat : RdAt p (.slice (some ⟨bb, bq, none⟩) l.length cap) e w) (hb : BytesIn C w (.slice (some ⟨bb, bq, none⟩) l.length cap) l) (hcap : l.length ≤ cap) (hi : i < l.length) (hn : num l = some (n, l.drop (i + 1))) (hv : v = n) (hA : (cap = i + 1 ∧ A = .slice (some ⟨bb, bq, none⟩) (l.length - (i + 1)) 0) ∨ (¬ cap = i + 1 ∧ A = .slice (some ⟨bb, bq + (i + 1), none⟩) (l.length - (i + 1)) (cap - (i + 1)))) : NuPost p C (numR l e) w (.returned (.int .i64 v)) (w.setCell ⟨p, 0, none⟩ A) := by
  have hlow := h.low
  have ho : Only p w (w.setCell ⟨p, 0, none⟩ A) := (Only.refl p w).set 0 A
  unfold numR
  rw [hn]
  refine ⟨by rw [hv], ⟨?_, h.low, by rw [ho.size]; exact h.here, fun x hx => h.small x (List.mem_of_mem_drop hx), by have := h.len; simp; omega⟩, ho⟩
  have hs := ho.same (B := C) (Nat.le_of_lt h.here) hlow
  have hb' := hb.same hs
  rcases hA with ⟨hc, rfl⟩ | ⟨hc, rfl⟩
  · have hd : l.drop (i + 1) = [] := List.drop_eq_nil_of_le (by omega)
    refine ⟨some ⟨bb, bq, none⟩, 0, ?_, ?_, ?_⟩
    · rw [hd]
      rw [show l.length - (i + 1) = 0 by omega]
      exact hat.left
    · rw [hd]
      exact ⟨_, _, rfl, fun hne => absurd rfl hne⟩
    · rw [hd]
      simp
  · refine ⟨some ⟨bb, bq + (i + 1), none⟩, cap - (i + 1), ?_, ?_, ?_⟩
    · simp only [List.length_drop]
      exact hat.left
    · refine ⟨_, _, rfl, fun _ => ⟨bb, bq + (i + 1), rfl, ?_, fun j x hx => ?_⟩⟩
      · obtain ⟨x, hx⟩ : ∃ x, l[i]? = some x := ⟨_, List.getElem?_eq_getElem hi⟩
        obtain ⟨b2, q2, hq, hlt, _⟩ := bytes_at hb hx
        cases hq
        exact hlt
      · rw [List.getElem?_drop] at hx
        obtain ⟨b2, q2, hq, hlt, hc2⟩ := bytes_at hb' hx
        cases hq
        rw [show bq + (i + 1) + j = bq + (i + 1 + j) by omega]
        exact hc2
    · simp only [List.length_drop]
      omega
set_option maxRecDepth 100000 in
set_option maxHeartbeats 4000000 in
theorem pnumber_any (p C : Nat) (l : List Nat) (e : Int) (w : World) (h : RdSt p C l e w) : Calls Try.prog 40 #[.pointer (some ⟨p, 0, none⟩)] w (NuPost p C (numR l e) w) := by
  obtain ⟨a, cap, hat, hby, hcap⟩ := h.box
  obtain ⟨h0, h1, f0, f1⟩ := hat.cells
  have hlen := h.len
  unfold maxLen at hlen
  have HS := hide h
  have HAT := hide hat
  have HB := hide hby
  have HF := hide (rfail_any p a l.length cap e 3 w hat)
  clear h hat hby
  go_enter Try.func40, Try.ntmps40
  go_wp2
  go_loopg [11, 3] l.length (fun r e11 e3 wr => ∃ (i u : Nat), r = l.length - i ∧ i ≤ l.length ∧ i ≤ 9 ∧ e11 = .int .i64 (i : Int) ∧ e3 = .int .u64 (u : Int) ∧ u < 2 ^ (7 * i) ∧ Hid (dec (l.drop i) i u = dec l 0 0) ∧ wr = w)
  case atStart => exact ⟨0, 0, rfl, by omega, by omega, rfl, rfl, by simp, rfl, rfl⟩
  case round =>
    obtain ⟨i, u, rfl, hi, hi9, rfl, rfl, hu, HD, rfl⟩ := hrel
    by_cases hje : i = l.length
    · have hjz : ¬ (i : Int) < (l.length : Int) := by omega
      have HN : Hid (num l = none) := num_none (by rw [← unhide HD, List.drop_eq_nil_of_le (by omega)]; rfl)
      clear HD
      go_wp2_with (go_at_call 44; refine (unhide HF).mono ?_; rintro r w1 ⟨rfl, hr1, ho1⟩; have HR1 := hide hr1; have HO1 := hide ho1; clear hr1 ho1)
      go_ret
      exact num_fails (unhide HS) (unhide HN) (unhide HR1) (unhide HO1)
    · have hjz : (i : Int) < (l.length : Int) := by omega
      obtain ⟨x, hx⟩ : ∃ x, l[i]? = some x := ⟨_, List.getElem?_eq_getElem (by omega)⟩
      obtain ⟨bb, bq, rfl, hbb, hc0⟩ := bytes_at (unhide HB) hx
      have hx8 := (unhide HS).small x (List.mem_of_getElem? hx)
      have hrest : l.drop i = x :: l.drop (i + 1) := by
        obtain ⟨g1, g2⟩ := List.getElem?_eq_some_iff.1 hx
        rw [List.drop_eq_getElem_cons g1, g2]
      rw [hrest] at HD
      clear hrest hx
      by_cases hbad : (i = 9 ∧ 1 < x) ∨ (0 < i ∧ x = 0)
      · have HN : Hid (num l = none) := num_none (by rw [← unhide HD]; unfold dec; rw [if_pos hbad])
        clear HD
        have hall : (((i : Int) == 9) = true ∧ 1 < (x : Int)) ∨ (((i : Int) == 9) = false ∧ 0 < i ∧ ((x : Int) == 0) = true) ∨ (((i : Int) == 9) = true ∧ ¬ 1 < (x : Int) ∧ 0 < i ∧ ((x : Int) == 0) = true) := by
          simp only [beq_iff_eq, beq_eq_false_iff_ne, ne_eq]
          omega
        clear hbad
        rcases hall with ⟨g1, g2⟩ | ⟨g1, g2, g3⟩ | ⟨g1, g2, g3, g4⟩
        · go_wp2_with (go_at_call 44; refine (unhide HF).mono ?_; rintro r w1 ⟨rfl, hr1, ho1⟩; have HR1 := hide hr1; have HO1 := hide ho1; clear hr1 ho1)
          go_ret
          exact num_fails (unhide HS) (unhide HN) (unhide HR1) (unhide HO1)
        all_goals
          have hlo : ¬ (128 : Int) ≤ (x : Int) := by first | (simp at g4; omega) | (simp at g3; omega)
          go_wp2_with (go_at_call 44; refine (unhide HF).mono ?_; rintro r w1 ⟨rfl, hr1, ho1⟩; have HR1 := hide hr1; have HO1 := hide ho1; clear hr1 ho1)
          go_ret
          exact num_fails (unhide HS) (unhide HN) (unhide HR1) (unhide HO1)
      · have hy : x % 128 * 2 ^ (7 * i) < 18446744073709551616 := by
          by_cases hk9 : i = 9
          · subst hk9
            rw [pow_nine]
            omega
          · have h8 : 2 ^ (7 * i) ≤ 2 ^ (7 * 8) := Nat.pow_le_pow_right (by decide) (by omega)
            have h9 : x % 128 * 2 ^ (7 * i) ≤ 127 * 2 ^ (7 * 8) := Nat.mul_le_mul (by omega) h8
            have h10 : 127 * 2 ^ (7 * 8) = 9151314442816847872 := by decide
            omega
        have hor := or64 hi9 hu hy
        have hU : u + x % 128 * 2 ^ (7 * i) < 18446744073709551616 := by
          by_cases hk9 : i = 9
          · subst hk9
            rw [pow_nine] at hu ⊢
            omega
          · have h8 : 2 ^ (7 * i) ≤ 2 ^ (7 * 8) := Nat.pow_le_pow_right (by decide) (by omega)
            have h9 : x % 128 * 2 ^ (7 * i) ≤ 127 * 2 ^ (7 * 8) := Nat.mul_le_mul (by omega) h8
            have h10 : 127 * 2 ^ (7 * 8) = 9151314442816847872 := by decide
            have h11 : 2 ^ (7 * 8) = 72057594037927936 := by decide
            omega
        have hU2 : u + x % 128 * 2 ^ (7 * i) < 2 ^ (7 * (i + 1)) := by
          rw [pow_step]
          have : x % 128 * 2 ^ (7 * i) ≤ 127 * 2 ^ (7 * i) := Nat.mul_le_mul (by omega) (Nat.le_refl _)
          omega
        have hw : IntKind.u64.wrap (IntKind.u64.wrap (bits BinOp.and IntKind.u8 (x : Int) 127) * 2 ^ (7 * i)) = ((x % 128 * 2 ^ (7 * i) : Nat) : Int) := by
          rw [and_127 hx8, wrap_small (by omega)]
          have hcast : (((x % 128 : Nat) : Int) * 2 ^ (7 * i)) = ((x % 128 * 2 ^ (7 * i) : Nat) : Int) := by
            rw [Int.natCast_mul, Int.natCast_pow]; rfl
          rw [hcast]
          exact wrap_small hy
        have HD2 : Hid (dec (x :: l.drop (i + 1)) i u = if x < 128 then some (u + x % 128 * 2 ^ (7 * i), l.drop (i + 1)) else if i = 9 then none else dec (l.drop (i + 1)) (i + 1) (u + x % 128 * 2 ^ (7 * i))) := by
          show dec _ _ _ = _
          rw [dec, if_neg hbad]
        generalize hUU : u + x % 128 * 2 ^ (7 * i) = U at *
        rw [← hw] at hor
        clear hUU hy hw
        have HU2 := hide hU2
        have hx0 : Hid (0 < i → ¬ x = 0) := fun h h' => hbad (Or.inr ⟨h, h'⟩)
        have hx9 : Hid (i = 9 → ¬ 1 < x) := fun h h' => hbad (Or.inl ⟨h, h'⟩)
        clear hU2 hu hbad
        by_cases hx1 : x < 128
        · have hx1z : ¬ (128 : Int) ≤ (x : Int) := by omega
          have HN : Hid (num l = some (unzig U, l.drop (i + 1))) := num_some (by rw [← unhide HD, unhide HD2, if_pos hx1])
          clear HD HD2
          have hk0 : Hid ((((i : Int) == 9) = true ∧ ¬ 1 < (x : Int) ∧ 0 < i ∧ ((x : Int) == 0) = false) ∨ (((i : Int) == 9) = false ∧ 0 < i ∧ ((x : Int) == 0) = false) ∨ (((i : Int) == 9) = false ∧ ¬ 0 < i)) := by
            show _ ∨ _
            have h1 := unhide hx9
            have h2 := unhide hx0
            simp only [beq_iff_eq, beq_eq_false_iff_ne, ne_eq]
            omega
          have hpar : (bits BinOp.and IntKind.u64 (U : Int) 1 = 1 ∧ Hid (unzig U = -((U / 2 : Nat) : Int) - 1)) ∨ (bits BinOp.and IntKind.u64 (U : Int) 1 = 0 ∧ Hid (unzig U = ((U / 2 : Nat) : Int))) := by
            have ha : bits BinOp.and IntKind.u64 (U : Int) 1 = ((U % 2 : Nat) : Int) := by
              rw [show (1 : Int) = ((1 : Nat) : Int) from rfl, u64_and_nat _ _ hU (by omega), Nat.and_one_is_mod]
            rw [ha]
            by_cases h : U % 2 = 1
            · refine Or.inl ⟨by omega, ?_⟩
              show _ = _
              unfold unzig
              rw [if_pos h]
            · refine Or.inr ⟨by omega, ?_⟩
              show _ = _
              unfold unzig
              rw [if_neg h]
          have HU := hide hU
          have hil : i < l.length := by omega
          rcases hpar with ⟨hpar, HV⟩ | ⟨hpar, HV⟩
          · rcases unhide hk0 with ⟨k1, k2, k3, k4⟩ | ⟨k1, k2, k3⟩ | ⟨k1, k2⟩
            all_goals
              go_wp2
              all_goals
                go_ret
                exact num_takes (unhide HS) (unhide HAT) (unhide HB) hcap hil (unhide HN) (by rw [unhide HV]; exact num_odd (unhide HU)) (by first | exact Or.inl ⟨‹cap = i + 1›, rfl⟩ | exact Or.inr ⟨‹¬ cap = i + 1›, rfl⟩)
          · rcases unhide hk0 with ⟨k1, k2, k3, k4⟩ | ⟨k1, k2, k3⟩ | ⟨k1, k2⟩
            all_goals
              go_wp2
              all_goals
                go_ret
                exact num_takes (unhide HS) (unhide HAT) (unhide HB) hcap hil (unhide HN) (by rw [unhide HV]; have := unhide HU; first | rfl | omega | (unfold wrap64; omega)) (by first | exact Or.inl ⟨‹cap = i + 1›, rfl⟩ | exact Or.inr ⟨‹¬ cap = i + 1›, rfl⟩)
        · have hx1z : (128 : Int) ≤ (x : Int) := by omega
          have hk8 : i < 9 := by
            have h1 := unhide hx9
            by_cases h : i = 9
            · have := h1 h; omega
            · omega
          have hk9 : ((i : Int) == 9) = false := ne_b (by omega)
          have HD3 : Hid (dec (l.drop (i + 1)) (i + 1) U = dec l 0 0) := by
            show _ = _
            rw [← unhide HD, unhide HD2, if_neg hx1, if_neg (by omega)]
          clear HD HD2
          go_wp2
          go_roundg (l.length - (i + 1))
          case measure => omega
          case rel => exact ⟨i + 1, U, rfl, by omega, by omega, by go_num, rfl, unhide HU2, HD3, rfl⟩
end
section
open Go.RowKit
set_option maxHeartbeats 1000000 in
theorem pcount_any (p C : Nat) (l : List Nat) (e : Int) (w : World) (h : RdSt p C l e w) : Calls Try.prog 37 #[.pointer (some ⟨p, 0, none⟩)] w (NuPost p C (cntR l e) w) := by
  have HC := hide (pnumber_any p C l e w h)
  clear h
  have HI := hide (numR_in l e)
  obtain ⟨x, hx⟩ : ∃ x, x = numR l e := ⟨_, rfl⟩
  have HX : Hid (cntR l e = if x.1 < 0 ∨ 10000 < x.1 then (0, [], if x.2.2 = 0 then 1 else x.2.2) else x) := by
    show _ = _
    unfold cntR
    rw [← hx]
  rw [← hx] at HC HI
  clear hx
  obtain ⟨n, l1, e1⟩ := x
  have hn1 := (unhide HI).1
  have hn2 := (unhide HI).2
  simp only at hn1 hn2
  clear HI
  by_cases hn : n < 0
  · replace HX : Hid (cntR l e = (0, [], if e1 = 0 then 1 else e1)) := (unhide HX).trans (if_pos (Or.inl hn))
    go_enter Try.func37, Try.ntmps37
    go_wp2_with (first | (go_at_call 44; refine (unhide HF).mono ?_; rintro r w2 ⟨rfl, hr2, ho2⟩; have HR2 := hide hr2; have HO2 := hide ho2; clear hr2 ho2) | (go_at_call 40; refine (unhide HC).mono ?_; rintro r w1 ⟨rfl, hr1, ho1⟩; obtain ⟨a1, cap1, hat1, _⟩ := hr1.box; have HF := hide (rfail_any p a1 l1.length cap1 e1 1 w1 hat1); have HR1 := hide hr1; have HO1 := hide ho1; clear hr1 ho1 hat1 HC))
    go_ret
    show NuPost p C _ w _ w2
    rw [unhide HX]
    exact ⟨rfl, (unhide HR1).nil (unhide HR2) (unhide HO2), (unhide HO1).trans (unhide HO2)⟩
  · by_cases hm : 10000 < n
    · replace HX : Hid (cntR l e = (0, [], if e1 = 0 then 1 else e1)) := (unhide HX).trans (if_pos (Or.inr hm))
      go_enter Try.func37, Try.ntmps37
      go_wp2_with (first | (go_at_call 44; refine (unhide HF).mono ?_; rintro r w2 ⟨rfl, hr2, ho2⟩; have HR2 := hide hr2; have HO2 := hide ho2; clear hr2 ho2) | (go_at_call 40; refine (unhide HC).mono ?_; rintro r w1 ⟨rfl, hr1, ho1⟩; obtain ⟨a1, cap1, hat1, _⟩ := hr1.box; have HF := hide (rfail_any p a1 l1.length cap1 e1 1 w1 hat1); have HR1 := hide hr1; have HO1 := hide ho1; clear hr1 ho1 hat1 HC))
      go_ret
      show NuPost p C _ w _ w2
      rw [unhide HX]
      exact ⟨rfl, (unhide HR1).nil (unhide HR2) (unhide HO2), (unhide HO1).trans (unhide HO2)⟩
    · replace HX : Hid (cntR l e = (n, l1, e1)) := (unhide HX).trans (if_neg (fun h => h.elim hn hm))
      go_enter Try.func37, Try.ntmps37
      go_wp2_with (go_at_call 40; refine (unhide HC).mono ?_; rintro r w1 ⟨rfl, hr1, ho1⟩; have HR1 := hide hr1; have HO1 := hide ho1; clear hr1 ho1 HC)
      go_ret
      show NuPost p C _ w _ w1
      rw [unhide HX]
      exact ⟨rfl, unhide HR1, unhide HO1⟩
def EaPost (I : Nat → Int → World → Prop) (r : Ending) (w' : World) : Prop := r = .returned (.tuple #[]) ∧ ∃ k e, I k e w' ∧ (k = 0 ∨ e ≠ 0)
def EaStep (I : Nat → Int → World → Prop) (k : Nat) (r : Ending) (w' : World) : Prop := r = .returned (.tuple #[]) ∧ ∃ e, I k e w'
set_option maxHeartbeats 1000000 in
theorem each_list (p q rb : Nat) (n : Nat) (e : Int) (w : World) (hn : n ≤ 10000) (I : Nat → Int → World → Prop) (hc : ∀ k e w, I k e w → w.cell? ⟨p, 1, none⟩ = some (.int .i64 e))
    (hs : ∀ k w, I (k + 1) 0 w → Calls Try.prog 56 #[.pointer (some ⟨q, 0, none⟩), .pointer (some ⟨rb, 0, none⟩)] w (EaStep I k)) (h0 : I n e w) :
    Calls Try.prog 38 #[.pointer (some ⟨p, 0, none⟩), .int .i64 (n : Int), .func (.func 56) #[] #[.pointer (some ⟨q, 0, none⟩), .pointer (some ⟨rb, 0, none⟩)]] w (EaPost I) := by
  have HC := hide hc
  have HS := hide hs
  have H0 := hide h0
  clear hc hs h0
  go_enter Try.func38, Try.ntmps38
  go_wp2
  go_loopg [1] n (fun r e1 wr => ∃ (k : Nat) (e : Int), r = k ∧ k ≤ n ∧ e1 = .int .i64 (k : Int) ∧ Hid (I k e wr))
  case atStart => exact ⟨n, e, rfl, Nat.le_refl _, rfl, H0⟩
  case round =>
    obtain ⟨k, e2, hgk, hle, rfl, HI⟩ := hrel
    subst hgk
    obtain ⟨k, hkk⟩ : ∃ k, k = gk := ⟨gk, rfl⟩
    subst hkk
    have hcell := unhide HC _ _ _ (unhide HI)
    by_cases hk : k = 0
    · have hkz : ¬ (0 : Int) < (k : Int) := by omega
      have hkb : decide ((0 : Int) < (k : Int)) = false := by simpa using hkz
      go_wp2
      go_end0
      exact ⟨rfl, k, e2, unhide HI, Or.inl hk⟩
    · have hkz : (0 : Int) < (k : Int) := by omega
      by_cases he : e2 = 0
      · subst he
        obtain ⟨j, rfl⟩ : ∃ j, k = j + 1 := ⟨k - 1, by omega⟩
        have HK := hide (unhide HS j wr (unhide HI))
        go_wp2_with (go_at_call 56; refine (unhide HK).mono ?_; rintro r w1 ⟨rfl, e1, hi1⟩; have HI1 := hide hi1; clear hi1)
        go_roundg j
        case measure => omega
        case rel => exact ⟨j, e1, rfl, by omega, by go_num, HI1⟩
      · have heb : (e2 == 0) = false := ne_b he
        go_wp2
        go_end0
        exact ⟨rfl, k, e2, unhide HI, Or.inr he⟩
set_option maxHeartbeats 1000000 in
theorem each_ops (p q rb : Nat) (n : Nat) (e : Int) (w : World) (hn : n ≤ 10000) (I : Nat → Int → World → Prop) (hc : ∀ k e w, I k e w → w.cell? ⟨p, 1, none⟩ = some (.int .i64 e))
    (hs : ∀ k w, I (k + 1) 0 w → Calls Try.prog 39 #[.pointer (some ⟨q, 0, none⟩), .pointer (some ⟨rb, 0, none⟩)] w (EaStep I k)) (h0 : I n e w) :
    Calls Try.prog 38 #[.pointer (some ⟨p, 0, none⟩), .int .i64 (n : Int), .func (.func 39) #[] #[.pointer (some ⟨q, 0, none⟩), .pointer (some ⟨rb, 0, none⟩)]] w (EaPost I) := by
  have HC := hide hc
  have HS := hide hs
  have H0 := hide h0
  clear hc hs h0
  go_enter Try.func38, Try.ntmps38
  go_wp2
  go_loopg [1] n (fun r e1 wr => ∃ (k : Nat) (e : Int), r = k ∧ k ≤ n ∧ e1 = .int .i64 (k : Int) ∧ Hid (I k e wr))
  case atStart => exact ⟨n, e, rfl, Nat.le_refl _, rfl, H0⟩
  case round =>
    obtain ⟨k, e2, hgk, hle, rfl, HI⟩ := hrel
    subst hgk
    obtain ⟨k, hkk⟩ : ∃ k, k = gk := ⟨gk, rfl⟩
    subst hkk
    have hcell := unhide HC _ _ _ (unhide HI)
    by_cases hk : k = 0
    · have hkz : ¬ (0 : Int) < (k : Int) := by omega
      have hkb : decide ((0 : Int) < (k : Int)) = false := by simpa using hkz
      go_wp2
      go_end0
      exact ⟨rfl, k, e2, unhide HI, Or.inl hk⟩
    · have hkz : (0 : Int) < (k : Int) := by omega
      by_cases he : e2 = 0
      · subst he
        obtain ⟨j, rfl⟩ : ∃ j, k = j + 1 := ⟨k - 1, by omega⟩
        have HK := hide (unhide HS j wr (unhide HI))
        go_wp2_with (go_at_call 39; refine (unhide HK).mono ?_; rintro r w1 ⟨rfl, e1, hi1⟩; have HI1 := hide hi1; clear hi1)
        go_roundg j
        case measure => omega
        case rel => exact ⟨j, e1, rfl, by omega, by go_num, HI1⟩
      · have heb : (e2 == 0) = false := ne_b he
        go_wp2
        go_end0
        exact ⟨rfl, k, e2, unhide HI, Or.inr he⟩
set_option maxHeartbeats 1000000 in
theorem each_fns (p q rb : Nat) (n : Nat) (e : Int) (w : World) (hn : n ≤ 10000) (I : Nat → Int → World → Prop) (hc : ∀ k e w, I k e w → w.cell? ⟨p, 1, none⟩ = some (.int .i64 e))
    (hs : ∀ k w, I (k + 1) 0 w → Calls Try.prog 41 #[.pointer (some ⟨q, 0, none⟩), .pointer (some ⟨rb, 0, none⟩)] w (EaStep I k)) (h0 : I n e w) :
    Calls Try.prog 38 #[.pointer (some ⟨p, 0, none⟩), .int .i64 (n : Int), .func (.func 41) #[] #[.pointer (some ⟨q, 0, none⟩), .pointer (some ⟨rb, 0, none⟩)]] w (EaPost I) := by
  have HC := hide hc
  have HS := hide hs
  have H0 := hide h0
  clear hc hs h0
  go_enter Try.func38, Try.ntmps38
  go_wp2
  go_loopg [1] n (fun r e1 wr => ∃ (k : Nat) (e : Int), r = k ∧ k ≤ n ∧ e1 = .int .i64 (k : Int) ∧ Hid (I k e wr))
  case atStart => exact ⟨n, e, rfl, Nat.le_refl _, rfl, H0⟩
  case round =>
    obtain ⟨k, e2, hgk, hle, rfl, HI⟩ := hrel
    subst hgk
    obtain ⟨k, hkk⟩ : ∃ k, k = gk := ⟨gk, rfl⟩
    subst hkk
    have hcell := unhide HC _ _ _ (unhide HI)
    by_cases hk : k = 0
    · have hkz : ¬ (0 : Int) < (k : Int) := by omega
      have hkb : decide ((0 : Int) < (k : Int)) = false := by simpa using hkz
      go_wp2
      go_end0
      exact ⟨rfl, k, e2, unhide HI, Or.inl hk⟩
    · have hkz : (0 : Int) < (k : Int) := by omega
      by_cases he : e2 = 0
      · subst he
        obtain ⟨j, rfl⟩ : ∃ j, k = j + 1 := ⟨k - 1, by omega⟩
        have HK := hide (unhide HS j wr (unhide HI))
        go_wp2_with (go_at_call 41; refine (unhide HK).mono ?_; rintro r w1 ⟨rfl, e1, hi1⟩; have HI1 := hide hi1; clear hi1)
        go_roundg j
        case measure => omega
        case rel => exact ⟨j, e1, rfl, by omega, by go_num, HI1⟩
      · have heb : (e2 == 0) = false := ne_b he
        go_wp2
        go_end0
        exact ⟨rfl, k, e2, unhide HI, Or.inr he⟩
set_option maxHeartbeats 1000000 in
theorem each_kinds (p q rb : Nat) (n : Nat) (e : Int) (w : World) (hn : n ≤ 10000) (I : Nat → Int → World → Prop) (hc : ∀ k e w, I k e w → w.cell? ⟨p, 1, none⟩ = some (.int .i64 e))
    (hs : ∀ k w, I (k + 1) 0 w → Calls Try.prog 43 #[.pointer (some ⟨q, 0, none⟩), .pointer (some ⟨rb, 0, none⟩)] w (EaStep I k)) (h0 : I n e w) :
    Calls Try.prog 38 #[.pointer (some ⟨p, 0, none⟩), .int .i64 (n : Int), .func (.func 43) #[] #[.pointer (some ⟨q, 0, none⟩), .pointer (some ⟨rb, 0, none⟩)]] w (EaPost I) := by
  have HC := hide hc
  have HS := hide hs
  have H0 := hide h0
  clear hc hs h0
  go_enter Try.func38, Try.ntmps38
  go_wp2
  go_loopg [1] n (fun r e1 wr => ∃ (k : Nat) (e : Int), r = k ∧ k ≤ n ∧ e1 = .int .i64 (k : Int) ∧ Hid (I k e wr))
  case atStart => exact ⟨n, e, rfl, Nat.le_refl _, rfl, H0⟩
  case round =>
    obtain ⟨k, e2, hgk, hle, rfl, HI⟩ := hrel
    subst hgk
    obtain ⟨k, hkk⟩ : ∃ k, k = gk := ⟨gk, rfl⟩
    subst hkk
    have hcell := unhide HC _ _ _ (unhide HI)
    by_cases hk : k = 0
    · have hkz : ¬ (0 : Int) < (k : Int) := by omega
      have hkb : decide ((0 : Int) < (k : Int)) = false := by simpa using hkz
      go_wp2
      go_end0
      exact ⟨rfl, k, e2, unhide HI, Or.inl hk⟩
    · have hkz : (0 : Int) < (k : Int) := by omega
      by_cases he : e2 = 0
      · subst he
        obtain ⟨j, rfl⟩ : ∃ j, k = j + 1 := ⟨k - 1, by omega⟩
        have HK := hide (unhide HS j wr (unhide HI))
        go_wp2_with (go_at_call 43; refine (unhide HK).mono ?_; rintro r w1 ⟨rfl, e1, hi1⟩; have HI1 := hide hi1; clear hi1)
        go_roundg j
        case measure => omega
        case rel => exact ⟨j, e1, rfl, by omega, by go_num, HI1⟩
      · have heb : (e2 == 0) = false := ne_b he
        go_wp2
        go_end0
        exact ⟨rfl, k, e2, unhide HI, Or.inr he⟩
end
end Go.Proofs.Ytdemnolanlfblaa
