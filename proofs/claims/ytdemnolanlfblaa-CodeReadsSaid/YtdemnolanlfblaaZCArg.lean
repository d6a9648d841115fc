import Derived.ProofKit
import Derived.OpenShut
import Derived.ShutString
import Derived.ChangeOld
import Derived.ChangeSlices
import Derived.Deep.Slices
import Derived.Lib.SmallJoins
import Derived.Test.YtdemnolanlfblaaZCCap
import Derived.Test.YtdemnolanlfblaaZCSame
set_option linter.all false
namespace Go.Proofs.Ytdemnolanlfblaa
section
open Go.ChangeShapes Go.WideShapes Go.ChangeAt Go.RowKit Go.Deep Go.Joins
theorem cell_ltA {w : World} {a : Addr} {v : Value} (h : w.cell? a = some v) : a.block < w.heap.size := by
  refine Decidable.byContradiction fun hn => ?_
  have : w.heap[a.block]? = none := Array.getElem?_eq_none (by omega)
  simp [World.cell?, this] at h
theorem list_choose {α : Type} {P : Nat → α → Prop} : ∀ n : Nat, (∀ i, i < n → ∃ x, P i x) → ∃ l : List α, l.length = n ∧ ∀ i x, l[i]? = some x → P i x
  | 0, _ => ⟨[], rfl, by simp⟩
  | n + 1, h => by
    obtain ⟨l, hl, hp⟩ := list_choose n (fun i hi => h i (by omega))
    obtain ⟨x, hx⟩ := h n (by omega)
    refine ⟨l ++ [x], by simp [hl], fun i y hy => ?_⟩
    by_cases hi : i < n
    · rw [List.getElem?_append_left (by omega)] at hy
      exact hp i y hy
    · have hi2 : i = n := by
        have := (List.getElem?_eq_some_iff.1 hy).1
        simp at this
        omega
      subst hi2
      rw [List.getElem?_append_right (by omega)] at hy
      simp [hl] at hy
      subst hy
      exact hx
theorem wf_i64 {n : Int} (h : (Lit.int .i64 n).wf = true) : I64 n := by
  unfold I64
  simp [Lit.wf, IntKind.min, IntKind.max, IntKind.bits, IntKind.signed] at h
  omega
theorem wf_u8 {n : Int} (h : (Lit.int .u8 n).wf = true) : 0 ≤ n ∧ n < 256 := by
  simp [Lit.wf, IntKind.min, IntKind.max, IntKind.bits, IntKind.signed] at h
  omega
theorem Giv.below {a : Option Addr} {cap : Nat} {bs : List Nat} {C : Nat} {w wr : World} (h : Giv a cap bs C w) (hb : Below w.heap.size w wr) : Giv a cap bs C wr := ⟨Nat.le_trans h.low hb.size, h.bytes.same (Same.of_below hb h.low), h.small, h.len, h.room⟩
section
variable {H : Type} {enc : TypeId × Value → H} {w : World} {base : Nat} {spare : Nat → Bool} {held : Bool}
theorem at_plain {a : Addr} {v : Value} (h : w.cell? (a.add 0) = some v) : a = ⟨a.block, a.off, none⟩ := by
  have h1 := World.cell?_spot h
  obtain ⟨b, o, s⟩ := a
  simp [Addr.add] at h1
  subst h1
  rfl
theorem ints_open {fuel : Nat} {v : Value} {x : DataW H × List MemPlace} (h : DataW.trod enc Try.prog w base spare held fuel 38 [v] = some x) : ∃ l, IntsIn w.heap.size w v l ∧ (∀ y ∈ l, I64 y) ∧ l.length ≤ maxLen := by
  rcases open_ints Try.underlying38 Try.underlying3 (by kernel_rfl) h with ⟨hcs, _⟩ | ⟨a, len, cap, zs, hcs, _, hl, hm, hz, _, hcell, hwz⟩
  · simp at hcs
    subst hcs
    exact ⟨[], ⟨none, 0, rfl, by simp⟩, by simp, by simp⟩
  · simp at hcs
    subst hcs
    have hlz : len ≤ zs.length := by rw [hz]; split <;> omega
    have ht : (zs.take len).length = len := by simp; omega
    refine ⟨zs.take len, ⟨some a, cap, by rw [ht], fun hne => ?_⟩, fun y hy => wf_i64 (hwz y (List.mem_of_mem_take hy)), by omega⟩
    have h0 : 0 < len := by
      rcases Nat.eq_zero_or_pos len with h | h
      · subst h; simp at hne
      · exact h
    have c0 := hcell 0 (by omega)
    have ha := at_plain c0
    refine ⟨a.block, a.off, by rw [← ha], by have := cell_ltA c0; rw [ha] at this; simpa [Addr.add] using this, fun i y hy => ?_⟩
    have hi := (List.getElem?_eq_some_iff.1 hy).1
    have c := hcell i (by omega)
    rw [ha, add_plain] at c
    rw [c]
    rw [List.getElem?_take_of_lt (by omega)] at hy
    simp [List.getD, hy]
set_option maxRecDepth 100000 in
theorem ops_open {fuel : Nat} {v : Value} {x : DataW H × List MemPlace} (h : DataW.trod enc Try.prog w base spare held fuel 22 [v] = some x) : ∃ l, OpsIn w.heap.size w v l ∧ (∀ o ∈ l, I64 o.d ∧ I64 o.a ∧ I64 o.b) ∧ l.length ≤ maxLen := by
  rcases open_slice Try.underlying22 h with ⟨hcs, _⟩ | ⟨a, len, cap, m, n, D, Pl, hcs, hb, hl, hm, hmm, _, hx⟩
  · simp at hcs
    subst hcs
    exact ⟨[], ⟨none, 0, rfl, by simp⟩, by simp, by simp⟩
  · simp at hcs
    subst hcs
    have hlm : len ≤ m := by rw [hmm]; split <;> omega
    have ce : Try.prog.cellsOf 44 = 3 := by kernel_rfl
    have ci : Try.prog.cellsOf 3 = 1 := by kernel_rfl
    obtain ⟨l, hll, hlp⟩ := list_choose (P := fun i (o : OpD) => (w.cell? (a.add (i * 3)) = some (.int .i64 o.d) ∧ w.cell? (a.add (i * 3 + 1)) = some (.int .i64 o.a) ∧ w.cell? (a.add (i * 3 + 2)) = some (.int .i64 o.b)) ∧ I64 o.d ∧ I64 o.a ∧ I64 o.b) len (fun i hi => by
      obtain ⟨cs', h1, h2⟩ := hx i (by omega)
      rw [ce] at h1
      obtain ⟨_, hlen, hcell⟩ := World.cells?_some h1
      obtain ⟨y0, y1, y2, k, _, _, g0, g1, g2⟩ := trod_struct3 Try.underlying44 h2
      match cs', hlen with
      | [u0, u1, u2], _ =>
        simp [ci] at g0 g1 g2
        obtain ⟨n0, e0, _, w0⟩ := DataW.trod_int Try.underlying3 g0
        obtain ⟨n1, e1, _, w1⟩ := DataW.trod_int Try.underlying3 g1
        obtain ⟨n2, e2, _, w2⟩ := DataW.trod_int Try.underlying3 g2
        simp at e0 e1 e2
        subst e0 e1 e2
        have d0 := hcell 0 (by omega)
        have d1 := hcell 1 (by omega)
        have d2 := hcell 2 (by omega)
        rw [add_add] at d0 d1 d2
        exact ⟨⟨n0, n1, n2⟩, ⟨by simpa using d0, by simpa using d1, by simpa using d2⟩, wf_i64 w0, wf_i64 w1, wf_i64 w2⟩)
    refine ⟨l, ⟨some a, cap, by rw [hll], fun hne => ?_⟩, fun o ho => ?_, by omega⟩
    · have h0 : 0 < len := by
        rcases Nat.eq_zero_or_pos len with h | h
        · rw [h] at hll; exact absurd (List.eq_nil_of_length_eq_zero hll) hne
        · exact h
      obtain ⟨o0, ho0⟩ : ∃ o, l[0]? = some o := ⟨_, List.getElem?_eq_getElem (by omega)⟩
      have c0 := (hlp 0 o0 ho0).1.1
      have ha := at_plain c0
      refine ⟨a.block, a.off, by rw [← ha], by have := cell_ltA c0; rw [ha] at this; simpa [Addr.add] using this, fun i y hy => ?_⟩
      obtain ⟨r0, r1, r2⟩ := (hlp i y hy).1
      rw [ha, add_plain] at r0 r1 r2
      exact ⟨r0, by rw [Nat.add_assoc]; exact r1, by rw [Nat.add_assoc]; exact r2⟩
    · obtain ⟨i, hi⟩ := List.getElem?_of_mem ho
      exact (hlp i o hi).2
set_option maxRecDepth 100000 in
theorem fns_open {fuel : Nat} {v : Value} {x : DataW H × List MemPlace} (h : DataW.trod enc Try.prog w base spare held fuel 23 [v] = some x) : ∃ l, FnsIn w.heap.size w v l ∧ (∀ f ∈ l, I64 f.params ∧ I64 f.slots ∧ I64 f.frm ∧ ∀ t ∈ f.takes, I64 t) ∧ l.length ≤ maxLen := by
  rcases open_slice Try.underlying23 h with ⟨hcs, _⟩ | ⟨a, len, cap, m, n, D, Pl, hcs, hb, hl, hm, hmm, _, hx⟩
  · simp at hcs
    subst hcs
    exact ⟨[], ⟨none, 0, rfl, by simp⟩, by simp, by simp⟩
  · simp at hcs
    subst hcs
    have hlm : len ≤ m := by rw [hmm]; split <;> omega
    have ce : Try.prog.cellsOf 40 = 4 := by kernel_rfl
    have ci : Try.prog.cellsOf 3 = 1 := by kernel_rfl
    have cs : Try.prog.cellsOf 38 = 1 := by kernel_rfl
    obtain ⟨l, hll, hlp⟩ := list_choose (P := fun i (o : FnD) => (w.cell? (a.add (i * 4)) = some (.int .i64 o.params) ∧ w.cell? (a.add (i * 4 + 1)) = some (.int .i64 o.slots) ∧ w.cell? (a.add (i * 4 + 2)) = some (.int .i64 o.frm) ∧ ∃ tv, w.cell? (a.add (i * 4 + 3)) = some tv ∧ IntsIn w.heap.size w tv o.takes) ∧ I64 o.params ∧ I64 o.slots ∧ I64 o.frm ∧ ∀ t ∈ o.takes, I64 t) len (fun i hi => by
      obtain ⟨cs', h1, h2⟩ := hx i (by omega)
      rw [ce] at h1
      obtain ⟨_, hlen, hcell⟩ := World.cells?_some h1
      obtain ⟨y0, y1, y2, y3, k, _, _, g0, g1, g2, g3⟩ := trod_struct4 Try.underlying40 h2
      match cs', hlen with
      | [u0, u1, u2, u3], _ =>
        simp [ci, cs] at g0 g1 g2 g3
        obtain ⟨n0, e0, _, w0⟩ := DataW.trod_int Try.underlying3 g0
        obtain ⟨n1, e1, _, w1⟩ := DataW.trod_int Try.underlying3 g1
        obtain ⟨n2, e2, _, w2⟩ := DataW.trod_int Try.underlying3 g2
        obtain ⟨t, ht, htw, _⟩ := ints_open g3
        simp at e0 e1 e2
        subst e0 e1 e2
        have d0 := hcell 0 (by omega)
        have d1 := hcell 1 (by omega)
        have d2 := hcell 2 (by omega)
        have d3 := hcell 3 (by omega)
        rw [add_add] at d0 d1 d2 d3
        exact ⟨⟨n0, n1, n2, t⟩, ⟨by simpa using d0, by simpa using d1, by simpa using d2, u3, by simpa using d3, ht⟩, wf_i64 w0, wf_i64 w1, wf_i64 w2, htw⟩)
    refine ⟨l, ⟨some a, cap, by rw [hll], fun hne => ?_⟩, fun o ho => ?_, by omega⟩
    · have h0 : 0 < len := by
        rcases Nat.eq_zero_or_pos len with h | h
        · rw [h] at hll; exact absurd (List.eq_nil_of_length_eq_zero hll) hne
        · exact h
      obtain ⟨o0, ho0⟩ : ∃ o, l[0]? = some o := ⟨_, List.getElem?_eq_getElem (by omega)⟩
      have c0 := (hlp 0 o0 ho0).1.1
      have ha := at_plain c0
      refine ⟨a.block, a.off, by rw [← ha], by have := cell_ltA c0; rw [ha] at this; simpa [Addr.add] using this, fun i y hy => ?_⟩
      obtain ⟨r0, r1, r2, tv, r3, r4⟩ := (hlp i y hy).1
      rw [ha, add_plain] at r0 r1 r2 r3
      exact ⟨r0, by rw [Nat.add_assoc]; exact r1, by rw [Nat.add_assoc]; exact r2, tv, by rw [Nat.add_assoc]; exact r3, r4⟩
    · obtain ⟨i, hi⟩ := List.getElem?_of_mem ho
      exact (hlp i o hi).2
set_option maxRecDepth 100000 in
theorem kinds_open {fuel : Nat} {v : Value} {x : DataW H × List MemPlace} (h : DataW.trod enc Try.prog w base spare held fuel 24 [v] = some x) : ∃ l, KindsIn w.heap.size w v l ∧ (∀ k ∈ l, ∀ t ∈ k, I64 t) ∧ l.length ≤ maxLen := by
  rcases open_slice1 Try.underlying24 (by kernel_rfl) h with ⟨hcs, _⟩ | ⟨a, len, cap, m, n, V, D, Pl, hcs, hb, hl, hm, hmm, _, hx⟩
  · simp at hcs
    subst hcs
    exact ⟨[], ⟨none, 0, rfl, by simp⟩, by simp, by simp⟩
  · simp at hcs
    subst hcs
    have hlm : len ≤ m := by rw [hmm]; split <;> omega
    obtain ⟨l, hll, hlp⟩ := list_choose (P := fun i (o : List Int) => (∃ tv, w.cell? (a.add i) = some tv ∧ IntsIn w.heap.size w tv o) ∧ ∀ t ∈ o, I64 t) len (fun i hi => by
      obtain ⟨h1, h2⟩ := hx i (by omega)
      obtain ⟨t, ht, htw, _⟩ := ints_open h2
      exact ⟨t, ⟨_, h1, ht⟩, htw⟩)
    refine ⟨l, ⟨some a, cap, by rw [hll], fun hne => ?_⟩, fun o ho => ?_, by omega⟩
    · have h0 : 0 < len := by
        rcases Nat.eq_zero_or_pos len with h | h
        · rw [h] at hll; exact absurd (List.eq_nil_of_length_eq_zero hll) hne
        · exact h
      obtain ⟨o0, ho0⟩ : ∃ o, l[0]? = some o := ⟨_, List.getElem?_eq_getElem (by omega)⟩
      obtain ⟨tv0, c0, _⟩ := (hlp 0 o0 ho0).1
      have ha := at_plain c0
      refine ⟨a.block, a.off, by rw [← ha], by have := cell_ltA c0; rw [ha] at this; simpa [Addr.add] using this, fun i y hy => ?_⟩
      obtain ⟨tv, r0, r1⟩ := (hlp i y hy).1
      rw [ha, add_plain] at r0
      exact ⟨tv, r0, r1⟩
    · obtain ⟨i, hi⟩ := List.getElem?_of_mem ho
      exact (hlp i o hi).2
structure Came (w : World) (v : Value) (c : CodeD) (a1 a2 a3 : Option Addr) (c1 c2 c3 : Nat) : Prop where
  form : v = .agg #[.slice a1 c.ops.length c1, .slice a2 c.fns.length c2, .slice a3 c.kinds.length c3]
  code : CodeIn w.heap.size w (.slice a1 c.ops.length c1) (.slice a2 c.fns.length c2) (.slice a3 c.kinds.length c3) c
  fits : CodeFits c
set_option maxRecDepth 100000 in
theorem code_open {r : _root_.Go.Reach} {b0 : Nat} {v : Value} {d : DataW H} {p : List MemPlace} (hv : Value.okWide Try.prog w r b0 26 v) (h : DataW.Trod enc Try.prog w base spare held 26 v d p) : ∃ c a1 a2 a3 c1 c2 c3, Came w v c a1 a2 a3 c1 c2 c3 := by
  obtain ⟨v0, v1, v2, y0, y1, y2, n, rfl, _, _, h0, h1, h2⟩ := open_agg3 Try.underlying26 (by kernel_rfl) (by kernel_rfl) hv h
  obtain ⟨os, o1, o2, _⟩ := ops_open h0
  obtain ⟨fs, f1, f2, _⟩ := fns_open h1
  obtain ⟨ks, k1, k2, _⟩ := kinds_open h2
  obtain ⟨a1, c1, rfl, _⟩ := id o1
  obtain ⟨a2, c2, rfl, _⟩ := id f1
  obtain ⟨a3, c3, rfl, _⟩ := id k1
  exact ⟨⟨os, fs, ks⟩, a1, a2, a3, c1, c2, c3, rfl, ⟨o1, f1, k1⟩, ⟨o2, f2, k2⟩⟩
set_option maxRecDepth 100000 in
theorem slice_cap {t e : TypeId} {fuel : Nat} {v : Value} {x : DataW H × List MemPlace} (ht : Try.prog.underlying t = some (.slice e)) (h : DataW.trod enc Try.prog w base spare held fuel t [v] = some x) : CapOk v := by
  rcases open_slice ht h with ⟨hcs, _⟩ | ⟨a, len, cap, m, n, D, Pl, hcs, hb, hl, hm, hmm, _, hx⟩
  · simp at hcs
    subst hcs
    intro a n c e
    simp only [Value.slice.injEq] at e
    omega
  · simp at hcs
    subst hcs
    intro a' n' c' e
    simp only [Value.slice.injEq] at e
    omega
set_option maxRecDepth 100000 in
theorem code_caps {r : _root_.Go.Reach} {b0 : Nat} {ov fv kv : Value} {d : DataW H} {p : List MemPlace} (hv : Value.okWide Try.prog w r b0 26 (.agg #[ov, fv, kv])) (h : DataW.Trod enc Try.prog w base spare held 26 (.agg #[ov, fv, kv]) d p) : CapsIn w ov kv := by
  obtain ⟨v0, v1, v2, y0, y1, y2, n, hvv, _, _, h0, h1, h2⟩ := open_agg3 Try.underlying26 (by kernel_rfl) (by kernel_rfl) hv h
  simp at hvv
  obtain ⟨rfl, rfl, rfl⟩ := hvv
  refine ⟨slice_cap Try.underlying22 h0, fun b q n' c e i tv hi hc => ?_⟩
  rcases open_slice1 Try.underlying24 (by kernel_rfl) h2 with ⟨hcs, _⟩ | ⟨a, len, cap, m, n2, V, D, Pl, hcs, hb, hl, hm, hmm, _, hx⟩
  · simp at hcs
    rw [hcs] at e
    simp at e
  · simp at hcs
    rw [hcs] at e
    simp only [Value.slice.injEq, Option.some.injEq] at e
    obtain ⟨rfl, rfl, rfl⟩ := e
    have hlm : len ≤ m := by rw [hmm]; split <;> omega
    obtain ⟨h3, h4⟩ := hx i (by omega)
    rw [add_plain] at h3
    rw [h3] at hc
    cases hc
    exact slice_cap Try.underlying38 h4
set_option maxRecDepth 100000 in
theorem bytes_open {r : _root_.Go.Reach} {b0 : Nat} {v : Value} {d : DataW H} {p : List MemPlace} (hv : Value.okWide Try.prog w r b0 30 v) (h : DataW.Trod enc Try.prog w base spare held 30 v d p) : ∃ (bs : List Nat) (a : Option Addr) (cap : Nat), v = .slice a bs.length cap ∧ Giv a cap bs w.heap.size w := by
  obtain ⟨a0, len0, cap0, rfl⟩ := okWide_slice Try.underlying30 hv
  obtain ⟨fuel, hf⟩ := h
  rcases open_ints Try.underlying30 Try.underlying5 (by kernel_rfl) hf with ⟨hcs, _⟩ | ⟨a, len, cap, zs, hcs, _, hl, hm, hz, _, hcell, hwz⟩
  · simp [Value.cells] at hcs
    obtain ⟨rfl, rfl, rfl⟩ := hcs
    exact ⟨[], none, 0, rfl, Nat.le_refl _, ⟨none, 0, rfl, by simp⟩, by simp, by simp, by simp⟩
  · simp [Value.cells] at hcs
    obtain ⟨rfl, rfl, rfl⟩ := hcs
    have hlz : len0 ≤ zs.length := by rw [hz]; split <;> omega
    have ht : ((zs.take len0).map Int.toNat).length = len0 := by simp; omega
    refine ⟨(zs.take len0).map Int.toNat, some a, cap0, by rw [ht], Nat.le_refl _, ⟨some a, cap0, rfl, fun hne => ?_⟩, ?_, by omega, by omega⟩
    · have h0 : 0 < len0 := by
        rcases Nat.eq_zero_or_pos len0 with h | h
        · subst h; simp at hne
        · exact h
      have c0 := hcell 0 (by omega)
      have ha := at_plain c0
      refine ⟨a.block, a.off, by rw [← ha], by have := cell_ltA c0; rw [ha] at this; simpa [Addr.add] using this, fun i y hy => ?_⟩
      rw [List.getElem?_map] at hy
      cases hq : (zs.take len0)[i]? with
      | none => rw [hq] at hy; simp at hy
      | some q =>
        rw [hq] at hy
        simp at hy
        subst hy
        have hi := (List.getElem?_eq_some_iff.1 hq).1
        have hlt : i < len0 := by simp at hi; omega
        have hw := wf_u8 (hwz q (List.mem_of_mem_take (List.mem_of_getElem? hq)))
        have c := hcell i (by omega)
        rw [ha, add_plain] at c
        rw [c]
        rw [List.getElem?_take_of_lt hlt] at hq
        simp [List.getD, hq]
        omega
    · intro x hx
      simp only [List.mem_map] at hx
      obtain ⟨y, hy, rfl⟩ := hx
      have hw := wf_u8 (hwz y (List.mem_of_mem_take hy))
      omega
end
end
end Go.Proofs.Ytdemnolanlfblaa
