import Derived.Test.YtdemnolanlfblaaZCOrder
set_option linter.all false
namespace Go.Proofs.Ytdemnolanlfblaa
section
open Go.RowKit
theorem fns_at {C : Nat} {w : World} {a1 : Option Addr} {N c1 : Nat} {l : List FnD} (h : FnsIn C w (.slice a1 N c1) l) {i : Nat} {f : FnD} (hf : l[i]? = some f) : ∃ b q ta tc, a1 = some ⟨b, q, none⟩ ∧ b < C ∧ w.cell? ⟨b, q + i * 4, none⟩ = some (.int .i64 f.params) ∧ w.cell? ⟨b, q + i * 4 + 1, none⟩ = some (.int .i64 f.slots) ∧ w.cell? ⟨b, q + i * 4 + 2, none⟩ = some (.int .i64 f.frm) ∧ w.cell? ⟨b, q + i * 4 + 3, none⟩ = some (.slice ta f.takes.length tc) ∧ IntsIn C w (.slice ta f.takes.length tc) f.takes := by
  obtain ⟨a, cap, hv, h⟩ := h
  simp only [Value.slice.injEq] at hv
  obtain ⟨rfl, rfl, rfl⟩ := hv
  obtain ⟨b, q, ha, hb, hc⟩ := h (by rintro rfl; simp at hf)
  obtain ⟨h1, h2, h3, tv, h4, h5⟩ := hc i f hf
  obtain ⟨ta, tc, rfl, h6⟩ := h5
  exact ⟨b, q, ta, tc, ha, hb, h1, h2, h3, h4, ta, tc, rfl, h6⟩
theorem ints_at {C : Nat} {w : World} {a1 : Option Addr} {N c1 : Nat} {l : List Int} (h : IntsIn C w (.slice a1 N c1) l) {i : Nat} {x : Int} (hx : l[i]? = some x) : ∃ b q, a1 = some ⟨b, q, none⟩ ∧ b < C ∧ w.cell? ⟨b, q + i, none⟩ = some (.int .i64 x) := by
  obtain ⟨a, cap, hv, h⟩ := h
  simp only [Value.slice.injEq] at hv
  obtain ⟨rfl, rfl, rfl⟩ := hv
  obtain ⟨b, q, ha, hb, hc⟩ := h (by rintro rfl; simp at hx)
  exact ⟨b, q, ha, hb, hc i x hx⟩
theorem two_new1 (w : World) (a b : Obj) : ((w.alloc a).alloc b).heap[w.heap.size]? = some a := by
  rw [Below.heap_alloc _ _ _ (by simp)]; exact heap_alloc_new w a
theorem two_new2 (w : World) (a b : Obj) : ((w.alloc a).alloc b).heap[w.heap.size + 1]? = some b := by
  have := heap_alloc_new (w.alloc a) b
  rwa [heap_size_alloc] at this
theorem cell_blk {w : World} {b j : Nat} {c : Array Value} {t : TypeId} {v : Value} (h : w.heap[b]? = some (.cells c t (0, 0))) (hj : c[j]? = some v) : w.cell? ⟨b, j, none⟩ = some v := by
  simp [World.cell?, h, hj]
theorem drewN_below (n : Nat) (w : World) : Below w.heap.size w (w.drewN n) := ⟨rfl, rfl, rfl, Nat.le_refl _, fun _ _ => rfl⟩
theorem ill_ill (s : WS) : s.ill.ill = s.ill := rfl
def illIf (b : Bool) (s : WS) : WS := if b then s.ill else s
theorem illIf_yes (a : Bool) (s : WS) : illIf (a || true) s = (illIf a s).ill := by cases a <;> rfl
theorem illIf_no (a : Bool) (s : WS) : illIf (a || false) s = illIf a s := by cases a <;> rfl
theorem cell_set_off {w : World} {p j b i : Nat} {u : Value} (h : b ≠ p) : (w.setCell ⟨p, j, none⟩ u).cell? ⟨b, i, none⟩ = w.cell? ⟨b, i, none⟩ :=
  World.cell?_of_block (heap_setCell_other w ⟨p, j, none⟩ b u h)
theorem any_snoc {l : List Int} {i : Nat} {x y : Int} (h : l[i]? = some x) : (l.take (i + 1)).any (fun t => decide (y ≤ t)) = ((l.take i).any (fun t => decide (y ≤ t)) || decide (y ≤ x)) := by
  rw [take_snoc' h, List.any_append]; simp
set_option maxRecDepth 100000 in
set_option maxHeartbeats 4000000 in
theorem order_make (p g B C : Nat) (a1 a2 : Option Addr) (c1 c2 cap : Nat) (kv rv : Value) (c : CodeD) (s : WS) (w : World) (x1 x2 x3 : Int) (ax : Option Addr) (nx cx : Nat) (k : Nat) (o : OpD) (d : Int) (hst : WSt p g B (.slice a1 c.ops.length c1) (.slice a2 c.fns.length c2) kv cap s rv w) (hC : C ≤ p) (hO : OpsIn C w (.slice a1 c.ops.length c1) c.ops) (hF : FnsIn C w (.slice a2 c.fns.length c2) c.fns) (hfn : c.fns.length ≤ 1200) (hok : ∀ o ∈ c.ops, OpOk c o) (hsz : c.ops.length ≤ 8000) (ho : c.ops[k]? = some o) (hw : WOk c.ops.length s) (hd : d = s.deep.getD k 0) (hdb : 0 ≤ d ∧ d ≤ 1200) (h5 : o.d = 5) (htk : ∀ f ∈ c.fns, f.takes.length ≤ 1200) :
    Calls Try.prog 34 #[.pointer (some ⟨p, 0, none⟩), .agg #[.int .i64 x1, .int .i64 x2, .int .i64 x3, .slice ax nx cx], .int .i64 k] w (WPost p g B (.slice a1 c.ops.length c1) (.slice a2 c.fns.length c2) kv cap (orderS c x2 s k) w) := by
  have ht0 : takesN o = 0 := by simp [takesN, h5]
  have hu1 : putsN o = 1 := by simp [putsN, h5]
  have hS := orderS_out (c := c) (x2 := x2) ho hd (by omega) (by omega) (by omega) (by omega)
  rw [slotBad_make h5, outs_rest (by omega) (by omega) (by omega) (by omega) (by omega), ht0, hu1] at hS
  obtain ⟨b, q, rfl, hbC, y0, y1, y2⟩ := ops_at hO ho
  obtain ⟨p0, p1, p2, p3, p4, p5⟩ := hst.cells
  have hk : k < c.ops.length := (List.getElem?_eq_some_iff.1 ho).1
  have hkz : (k : Int) < (c.ops.length : Int) := by omega
  have hD := hst.deepAt k (by rw [hw.len]; exact hk)
  rw [← hd] at hD
  have hkd : (k : Int) < (s.deep.length : Int) := by rw [hw.len]; omega
  have hlt := hst.lt
  have hlo := hst.lo
  have hbz : b < w.heap.size := by omega
  have hgz : g < w.heap.size := by omega
  have hko := hok o (List.mem_of_getElem? ho)
  have hA := opA hko
  have ha : 0 ≤ o.a ∧ o.a ≤ (c.fns.length : Int) - 1 := by simpa [aOk, h5, inB] using hA
  obtain ⟨A, hAA⟩ : ∃ A : Nat, o.a = A := ⟨o.a.toNat, by omega⟩
  have hAl : A < c.fns.length := by omega
  have hAz : (A : Int) < (c.fns.length : Int) := by omega
  obtain ⟨f, hf⟩ : ∃ f, c.fns[A]? = some f := ⟨_, List.getElem?_eq_getElem hAl⟩
  obtain ⟨fb, fq, ta, tc, rfl, hfb, v0, v1, v2, v3, v4⟩ := fns_at hF hf
  have hfz : fb < w.heap.size := by omega
  have hfl := htk f (List.mem_of_getElem? hf)
  rw [hAA, Int.toNat_natCast, hf] at hS
  simp only [Option.map_some, Option.getD_some] at hS
  have HR : Hid (orderS c x2 s k = leadS (illIf (f.takes.any (fun t => decide (x2 ≤ t))) s) (k + 1) (d + 1)) := by
    show orderS c x2 s k = _
    rw [hS, Int.sub_zero]; rfl
  clear hS
  generalize orderS c x2 s k = R at HR ⊢
  rw [hAA] at y1
  have HT : Hid (takesN ⟨o.d, (A : Int), o.b⟩ = 0) := by show takesN _ = 0; simp [takesN, h5]
  have HU : Hid (putsN ⟨o.d, (A : Int), o.b⟩ = 1) := by show putsN _ = 1; simp [putsN, h5]
  have hts : Hid (o.d = 19 ∨ o.d = 27 → 0 ≤ (A : Int) ∧ (A : Int) ≤ 1200) := by show _ → _; omega
  have n28 : (o.d == 28) = false := ne_b (by omega)
  have n29 : (o.d == 29) = false := ne_b (by omega)
  have n30 : (o.d == 30) = false := ne_b (by omega)
  have n2 : (o.d == 2) = false := ne_b (by omega)
  have n3 : (o.d == 3) = false := ne_b (by omega)
  have n4 : (o.d == 4) = false := ne_b (by omega)
  have n20 : (o.d == 20) = false := ne_b (by omega)
  have n22 : (o.d == 22) = false := ne_b (by omega)
  have n16 : (o.d == 16) = false := ne_b (by omega)
  have n17 : (o.d == 17) = false := ne_b (by omega)
  have n18 : (o.d == 18) = false := ne_b (by omega)
  have e5 : (o.d == 5) = true := by simp [h5]
  have hnd : ¬ d < 0 := by omega
  have HI := hide hst
  have HW := hide hw
  have HV := hide v4
  clear hst hO hF ho hw hd hok hko hA ha hAA h5 htk hf ht0 hu1 v0 v1 v2 v4
  go_enter Try.func34, Try.ntmps34
  go_wp2_with (go_at_call 55; refine (takes_any' o.d A o.b _ (unhide hts) 0 1 (unhide HT) (unhide HU)).mono ?_; rintro e w2 ⟨rfl, hb2⟩; obtain ⟨hc2, hf2⟩ := bcell hb2; have hz2 := hb2.size; simp only [heap_size_alloc] at hz2; have hst2 := (((unhide HI).alloc _).alloc _).below hb2; obtain ⟨r0, r1, r2, r3, r4, r5⟩ := hst2.cells; have HI2 := hide hst2; have HB2 := hide (show Below p w w2 from ((((Below.refl p w).alloc (by omega) _).alloc (by simp; omega) _).trans (hb2.mono (by simp; omega)))); have v3' : w2.cell? ⟨fb, fq + A * 4 + 3, none⟩ = some (.slice ta f.takes.length tc) := ((unhide HB2).cell (p := ⟨fb, fq + A * 4 + 3, none⟩) (by show fb < p; omega)).trans v3; have k1 : w2.cell? ⟨w.heap.size, 1, none⟩ = some (.int .i64 x2) := cell_blk ((hb2.block w.heap.size (by rw [heap_size_alloc, heap_size_alloc]; omega)).trans (two_new1 w _ _)) rfl; have k2 : w2.cell? ⟨w.heap.size + 1, 0, none⟩ = some (.int .i64 o.d) := cell_blk ((hb2.block (w.heap.size + 1) (by rw [heap_size_alloc, heap_size_alloc]; omega)).trans (two_new2 w _ _)) rfl; clear hst2 hb2 y0 y1 y2 p0 p1 p2 p3 p4 p5 hD hf2 v3)
  go_quiet (fail)
  go_wp2
  have HK1 := hide k1
  have HK2 := hide k2
  clear k1 k2 r0 r1 r2 r3 r4 r5 hc2 v3' hkd hts HT HU hAl hAz
  have HS3 : Hid (∀ n, WSt p g B (.slice (some ⟨b, q, none⟩) c.ops.length c1) (.slice (some ⟨fb, fq, none⟩) c.fns.length c2) kv cap s rv (w2.drewN n) ∧ Below p w (w2.drewN n) ∧ (w2.drewN n).cell? ⟨w.heap.size, 1, none⟩ = some (.int .i64 x2) ∧ (w2.drewN n).cell? ⟨w.heap.size + 1, 0, none⟩ = some (.int .i64 o.d)) := fun n =>
    ⟨(unhide HI2).below (drewN_below _ _), (unhide HB2).trans ((drewN_below n w2).mono (by omega)), ((drewN_below n w2).cell (p := ⟨w.heap.size, 1, none⟩) (by show w.heap.size < w2.heap.size; omega)).trans (unhide HK1), ((drewN_below n w2).cell (p := ⟨w.heap.size + 1, 0, none⟩) (by show w.heap.size + 1 < w2.heap.size; omega)).trans (unhide HK2)⟩
  clear HI2 HB2 HK1 HK2
  go_loopg [11] f.takes.length (fun r iv wr => ∃ i : Nat, ∃ rv, i ≤ f.takes.length ∧ r = f.takes.length - i ∧ iv = .int .i64 (i : Int) ∧ WSt p g B (.slice (some ⟨b, q, none⟩) c.ops.length c1) (.slice (some ⟨fb, fq, none⟩) c.fns.length c2) kv cap (illIf ((f.takes.take i).any (fun t => decide (x2 ≤ t))) s) rv wr ∧ Below p w wr ∧ wr.cell? ⟨w.heap.size, 1, none⟩ = some (.int .i64 x2) ∧ wr.cell? ⟨w.heap.size + 1, 0, none⟩ = some (.int .i64 o.d))
  case atStart =>
    obtain ⟨z1, z2, z3, z4⟩ := unhide HS3 _
    exact ⟨0, rv, Nat.zero_le _, rfl, rfl, by simpa [illIf] using z1, z2, z3, z4⟩
  case round =>
    obtain ⟨i, rv2, hi, rfl, rfl, hst, hb, k1, k2⟩ := hrel
    clear HS3
    by_cases hlt3 : i < f.takes.length
    · obtain ⟨x, hx⟩ : ∃ x, f.takes[i]? = some x := ⟨_, List.getElem?_eq_getElem hlt3⟩
      obtain ⟨tb, tq, rfl, htb, t0⟩ := ints_at ((unhide HV).same (Same.of_below hb hC)) hx
      have hiz : (i : Int) < (f.takes.length : Int) := by omega
      obtain ⟨r0, r1, r2, r3, r4, r5⟩ := hst.cells
      have hfz5 := hst.free 5
      have HS := hide hst
      have HB := hide hb
      have HA := hide (any_snoc (y := x2) hx)
      clear hst hb hx
      have hgo : Hid (∀ n, WSt p g B (.slice (some ⟨b, q, none⟩) c.ops.length c1) (.slice (some ⟨fb, fq, none⟩) c.fns.length c2) kv cap (illIf ((f.takes.take i).any (fun t => decide (x2 ≤ t))) s) rv2 (wr.drewN n) ∧ Below p w (wr.drewN n)) := fun n => ⟨(unhide HS).below (drewN_below _ _), (unhide HB).trans ((drewN_below n wr).mono (Nat.le_of_lt (unhide HS).lt))⟩
      have HK1 := hide k1
      have HK2 := hide k2
      by_cases hxx : x2 ≤ x
      · have hnext : Hid (illIf ((f.takes.take (i + 1)).any (fun t => decide (x2 ≤ t))) s = (illIf ((f.takes.take i).any (fun t => decide (x2 ≤ t))) s).ill) := by
          show illIf _ s = _
          rw [unhide HA, decide_eq_true hxx, illIf_yes]
        go_wp2
        go_quiet (fail)
        go_wp2
        go_roundg (f.takes.length - (i + 1))
        case measure => omega
        case rel =>
          obtain ⟨z1, z2⟩ := unhide hgo nq
          exact ⟨i + 1, rv2, by omega, rfl, by go_num, by rw [unhide hnext]; exact z1.ill, z2.setCell (Nat.le_refl _) _, (cell_set_off (by omega)).trans (unhide HK1), (cell_set_off (by omega)).trans (unhide HK2)⟩
      · have hnext : Hid (illIf ((f.takes.take (i + 1)).any (fun t => decide (x2 ≤ t))) s = illIf ((f.takes.take i).any (fun t => decide (x2 ≤ t))) s) := by
          show illIf _ s = _
          rw [unhide HA, decide_eq_false hxx, illIf_no]
        go_wp2
        go_quiet (fail)
        go_wp2
        go_roundg (f.takes.length - (i + 1))
        case measure => omega
        case rel =>
          obtain ⟨z1, z2⟩ := unhide hgo nq
          exact ⟨i + 1, rv2, by omega, rfl, by go_num, by rw [unhide hnext]; exact z1, z2, unhide HK1, unhide HK2⟩
    · have hie : i = f.takes.length := by omega
      have hiz : ¬ (i : Int) < (f.takes.length : Int) := by omega
      rw [hie, List.take_of_length_le (Nat.le_refl _)] at hst
      have HS := hide hst
      have HB := hide hb
      have HWI : Hid (WOk c.ops.length (illIf (f.takes.any (fun t => decide (x2 ≤ t))) s)) := (unhide HW).iff_ill _
      clear hst hb hie
      go_wp2_with (go_at_call 33; refine (lead_any' p g B c.ops.length _ c1 cap _ kv rv2 _ _ (unhide HS) (unhide HWI) hsz (k + 1) ((k : Int) + 1) (by omega) (d + 1)).mono ?_; rintro e w3 ⟨rfl, ⟨rv3, hst3⟩, hb3⟩; have HI3 := hide hst3; have HB3 := hide hb3; clear hst3 hb3)
      go_end0
      rw [unhide HR]
      exact ⟨rfl, ⟨_, unhide HI3⟩, (unhide HB).trans (unhide HB3)⟩
end
end Go.Proofs.Ytdemnolanlfblaa
