/- Proved: the law of this row holds for every argument that the row lets in; there is no condition but the row's own. -/
import Derived.Test.YtdemnolanlfblaaZBCode
import Derived.Test.YtdemnolanlfblaaZKForm
import Derived.Test.YtdemnolanlfblaaZCSaid
import Derived.Test.YtdemnolanlfblaaZBCodeS
set_option linter.all false
namespace Go.Proofs.Ytdemnolanlfblaa
section
open Go.RowKit
theorem own_cap {B n cap : Nat} {w : World} {t : TypeId} {a : Option Addr} {xs : List Value} {m : Nat} (h : w.ownsRow B t m (.slice a n cap) n xs) : n ≤ cap := by
  obtain ⟨_, h2⟩ := h
  rcases h2 with ⟨h0, h1⟩ | ⟨g', cap', cur, hv, _, _, hc, _⟩
  · cases h0; omega
  · cases hv
    exact hc
theorem check_zero {c : CodeD} (h : CheckIs c 0) : SizeOk c ∧ RangeOk c := by
  rcases h with ⟨h, _⟩ | ⟨h, _⟩ | ⟨h, _⟩ | ⟨_, h1, h2, _⟩
  · omega
  · omega
  · omega
  · exact ⟨h1, h2⟩
set_option maxRecDepth 100000 in
set_option maxHeartbeats 8000000 in
theorem pbytes_any (a1 a2 a3 : Option Addr) (c1 c2 c3 : Nat) (c : CodeD) (w : World) (C : Nat) (hC : C ≤ w.heap.size) (hI : CodeIn C w (.slice a1 c.ops.length c1) (.slice a2 c.fns.length c2) (.slice a3 c.kinds.length c3) c) (hcap : CapsIn w (.slice a1 c.ops.length c1) (.slice a3 c.kinds.length c3)) (hf : CodeFits c) :
    Calls Try.prog 8 #[.agg #[.slice a1 c.ops.length c1, .slice a2 c.fns.length c2, .slice a3 c.kinds.length c3]] w (BPost c w) := by
  have HC := hide (fun W (hb : Below w.heap.size w W) => pcheck_any a1 a2 a3 c1 c2 c3 c W C (Nat.le_trans hC hb.size) (hI.same (Same.of_below hb hC)) (hcap.same hI.kinds (Same.of_below hb hC)) hf (hcap.ops _ _ _ rfl))
  have HW := hide (fun W (hb : Below w.heap.size w W) hs hr => wcode_any W.heap.size (.slice none 0 0) a1 a2 a3 c1 c2 c3 c (W.alloc (.cells #[.slice none 0 0] 47)) C ⟨heap_alloc_new _ _, World.ownsRow_nil _ _ _ _⟩ (Nat.le_trans hC hb.size) (hI.same (Same.of_below (hb.trans ((balloc1 W _).mono hb.size)) hC)) hs hr hf)
  clear hI hcap hf
  go_enter Try.func8, Try.ntmps8
  go_wp2_with (first
    | (go_at_call 6; refine (unhide HC _ (balloc1 w _)).mono ?_; rintro e w1 ⟨n, rfl, hci, hb1⟩; have HCI := hide hci; have HX1 := hide ((hb1.block _ (by rw [heap_size_alloc]; omega)).trans (heap_alloc_new w _)); obtain ⟨x0, x1, x2⟩ := cells3 (unhide HX1); have hwz := heap_lt (unhide HX1); have HB1 := hide ((balloc1 w _).trans (hb1.mono (balloc1 w _).size)); clear hci hb1; obtain rfl | hn := Classical.em (n = 0))
    | (go_at_call 19; refine (unhide HW _ (unhide HB1) (check_zero (unhide HCI)).1 (check_zero (unhide HCI)).2).mono ?_; rintro e w2 ⟨v2, rfl, hw2, hr2⟩; obtain ⟨va2, vc2, hv2⟩ := own_form hw2.row; subst hv2; have hbx2 : w2.cell? ⟨w1.heap.size, 0, none⟩ = some (.slice va2 (bCode c).length vc2) := (by simp [World.cell?, hw2.box]); have HA2 := hide hw2; have HR2 := hide hr2; clear hw2 hr2))
  · refine bodyPost_ret (v := .tuple #[.slice va2 (bCode c).length vc2, .int .i64 0]) (by simp [results, Try.results8, go_sem]) rfl ?_
    refine ⟨0, bCode c, va2, vc2, rfl, unhide HCI, by simp, bytesAt_in (unhide HA2).row, own_cap (unhide HA2).row, ?_⟩
    have hb1 := unhide HB1
    have hr := unhide HR2
    refine hb1.trans ⟨hr.os, hr.tape, hr.output, by have := hr.size; rw [heap_size_alloc] at this; omega, fun b hb => ?_⟩
    have hz := hb1.size
    rw [hr.block b (by rw [heap_size_alloc]; omega) (by omega) (by simp [Value.ownBlock])]
    exact heap_alloc_old _ _ (by omega)
  · refine bodyPost_ret (v := .tuple #[.slice none 0 0, .int .i64 n]) (by simp [results, Try.results8, go_sem]) rfl ?_
    exact ⟨n, [], none, 0, rfl, unhide HCI, by rw [if_neg hn], ⟨none, 0, rfl, fun h => absurd rfl h⟩, Nat.le_refl _, unhide HB1⟩
theorem bytes_all : PBytes := fun a1 a2 a3 c1 c2 c3 c w C hC hI hcap hf => pbytes_any a1 a2 a3 c1 c2 c3 c w C hC hI hcap hf
theorem codeBytes_here (h : PReads) : Rows.CodeBytesSaid := codeBytes_said bytes_all h
end
section
open Go.RowKit
section
variable {B : Nat} {os : List OpD} {fs : List (FnD × Value)} {ks : List (List Int × Value)} {ov fv kv : Value} {w w' : World}
theorem CRows.over (h : CRows B os fs ks ov fv kv w) (hb : Below w.heap.size w w') : CRows B os fs ks ov fv kv w' := ⟨own_below h.ops hb, own_below h.fns hb, own_below h.kinds hb, fun x hx => own_below (h.takes x hx) hb, fun x hx => own_below (h.lists x hx) hb⟩
theorem CRows.set (h : CRows B os fs ks ov fv kv w) {k : Nat} (hk : k < B) (j : Nat) (v : Value) : CRows B os fs ks ov fv kv (w.setCell ⟨k, j, none⟩ v) := by
  have hr : ∀ {e z : Nat} {u : Value} {n : Nat} {xs : List Value}, w.ownsRow B e z u n xs → (w.setCell ⟨k, j, none⟩ v).ownsRow B e z u n xs := fun h2 => ownsRow_setCell_below h2 hk _
  exact ⟨hr h.ops, hr h.fns, hr h.kinds, fun x hx => hr (h.takes x hx), fun x hx => hr (h.lists x hx)⟩
theorem CRows.codeIn (h : CRows B os fs ks ov fv kv w) : CodeIn w.heap.size w ov fv kv ⟨os, fs.map Prod.fst, ks.map Prod.fst⟩ :=
  ⟨rows_ops h.ops (fun k hk => (h.ops.lt k hk).2), rows_fns h.fns (fun k hk => (h.fns.lt k hk).2) (fun x hx => ⟨h.takes x hx, fun k hk => ((h.takes x hx).lt k hk).2⟩), rows_kinds h.kinds (fun k hk => (h.kinds.lt k hk).2) (fun x hx => ⟨h.lists x hx, fun k hk => ((h.lists x hx).lt k hk).2⟩)⟩
theorem own_capOk {e z n : Nat} {v : Value} {xs : List Value} (h : w.ownsRow B e z v n xs) : CapOk v := by
  intro a m c hv
  obtain ⟨a', c', hv'⟩ := own_form h
  rw [hv'] at hv
  cases hv
  rw [hv'] at h
  exact own_cap h
theorem CRows.caps (h : CRows B os fs ks ov fv kv w) : CapsIn w ov kv := by
  refine ⟨own_capOk h.ops, fun b q n c hv i tv hi hc => ?_⟩
  obtain ⟨a', c', hv'⟩ := own_form h.kinds
  rw [hv'] at hv
  simp only [Value.slice.injEq] at hv
  obtain ⟨h1, h2, h3⟩ := hv
  obtain ⟨g, cap, hg, _, _, ho⟩ := own_at h.kinds (by omega)
  rw [hv'] at hg
  simp only [Value.slice.injEq] at hg
  obtain ⟨g1, _, _⟩ := hg
  rw [h1] at g1
  cases g1
  rw [Nat.zero_add, ho.cellAt i (by omega)] at hc
  have hm : tv ∈ kdVals ks := List.mem_of_getElem? hc
  simp only [kdVals, List.mem_map] at hm
  obtain ⟨y, hy, rfl⟩ := hm
  exact own_capOk (h.lists y hy)
end
theorem CRows.check {B : Nat} {os : List OpD} {fs : List (FnD × Value)} {ks : List (List Int × Value)} {oa fa ka : Option Addr} {oc fc kc : Nat} {w : World} (h : CRows B os fs ks (.slice oa os.length oc) (.slice fa fs.length fc) (.slice ka ks.length kc) w) (hf : CodeFits ⟨os, fs.map Prod.fst, ks.map Prod.fst⟩) :
    Calls Try.prog 6 #[.agg #[.slice oa os.length oc, .slice fa fs.length fc, .slice ka ks.length kc]] w (CPost ⟨os, fs.map Prod.fst, ks.map Prod.fst⟩ w) := by
  have hc := h.codeIn
  have hk := h.caps
  have h1 : fs.length = (fs.map Prod.fst).length := by simp
  have h2 : ks.length = (ks.map Prod.fst).length := by simp
  rw [h1, h2] at hc
  rw [h2] at hk
  have := pcheck_any oa fa ka oc fc kc ⟨os, fs.map Prod.fst, ks.map Prod.fst⟩ w w.heap.size (Nat.le_refl _) hc hk hf (own_cap h.ops)
  rw [← h1, ← h2] at this
  exact this
theorem read_split (bs : List Nat) : ∀ e : Int, e = (if (codeR bs 0).2.1 = [] then (codeR bs 0).2.2 else if (codeR bs 0).2.2 = 0 then 3 else (codeR bs 0).2.2) → (e = 0 ∧ ∀ n, CheckIs (codeR bs 0).1 n → ReadIs bs (if n = 0 then (codeR bs 0).1 else ⟨[], [], []⟩) n) ∨ (e ≠ 0 ∧ ReadIs bs ⟨[], [], []⟩ e) := by
  intro e he
  by_cases h1 : (codeR bs 0).2.1 = []
  · rw [if_pos h1] at he
    subst he
    by_cases h2 : (codeR bs 0).2.2 = 0
    · exact Or.inl ⟨h2, fun n hn => readIs_end h2 h1 hn⟩
    · exact Or.inr ⟨h2, readIs_bad h2⟩
  · rw [if_neg h1] at he
    by_cases h2 : (codeR bs 0).2.2 = 0
    · rw [if_pos h2] at he
      subst he
      exact Or.inr ⟨by decide, readIs_more h2 h1⟩
    · rw [if_neg h2] at he
      subst he
      exact Or.inr ⟨h2, readIs_bad h2⟩
theorem read_none {bs : List Nat} {w w' : World} {e : Int} (h : ReadIs bs ⟨[], [], []⟩ e) (hb : Below w.heap.size w w') : RdPost bs w (.returned (.tuple #[.agg #[.slice none 0 0, .slice none 0 0, .slice none 0 0], .int .i64 e])) w' := ⟨⟨[], [], []⟩, e, none, none, none, 0, 0, 0, rfl, h, codeIn_nil _ _ _ _ _ _ _ _, fits_nil, hb⟩
theorem read_some {bs : List Nat} {w w' : World} {B : Nat} {os : List OpD} {fs : List (FnD × Value)} {ks : List (List Int × Value)} {oa fa ka : Option Addr} {oc fc kc : Nat} (h : ReadIs bs ⟨os, fs.map Prod.fst, ks.map Prod.fst⟩ 0) (hr : CRows B os fs ks (.slice oa os.length oc) (.slice fa fs.length fc) (.slice ka ks.length kc) w') (hf : CodeFits ⟨os, fs.map Prod.fst, ks.map Prod.fst⟩) (hb : Below w.heap.size w w') : RdPost bs w (.returned (.tuple #[.agg #[.slice oa os.length oc, .slice fa fs.length fc, .slice ka ks.length kc], .int .i64 0])) w' := by
  have hc := hr.codeIn
  have h1 : fs.length = (fs.map Prod.fst).length := by simp
  have h2 : ks.length = (ks.map Prod.fst).length := by simp
  refine ⟨⟨os, fs.map Prod.fst, ks.map Prod.fst⟩, 0, oa, fa, ka, oc, fc, kc, by simp, h, ?_, hf, hb⟩
  rw [h1, h2] at hc
  exact hc
def RW (w : World) (a : Option Addr) (n cap : Nat) : World := (w.alloc (.cells #[.slice none 0 0, .slice none 0 0, .slice none 0 0] 26)).alloc (.cells #[.slice a n cap, .int .i64 0] 51)
theorem RW.size (w : World) (a : Option Addr) (n cap : Nat) : (RW w a n cap).heap.size = w.heap.size + 2 := by unfold RW; rw [heap_size_alloc, heap_size_alloc]
theorem RW.below (w : World) (a : Option Addr) (n cap : Nat) : Below w.heap.size w (RW w a n cap) := ((Below.refl _ w).alloc (Nat.le_refl _) _).alloc (by rw [heap_size_alloc]; omega) _
theorem RW.res (w : World) (a : Option Addr) (n cap : Nat) : (RW w a n cap).heap[w.heap.size]? = some (.cells #[.slice none 0 0, .slice none 0 0, .slice none 0 0] 26 (0, 0)) := by
  unfold RW
  rw [heap_alloc_old _ _ (by rw [heap_size_alloc]; omega)]
  exact heap_alloc_new _ _
theorem RW.st {w : World} {a : Option Addr} {cap : Nat} {bs : List Nat} {C : Nat} (hg : Giv a cap bs C w) : RdSt (w.heap.size + 1) C bs 0 (RW w a bs.length cap) := by
  have hg2 := hg.below (RW.below w a bs.length cap)
  refine ⟨⟨a, cap, ⟨?_⟩, hg2.bytes, hg.room⟩, by have := hg.low; omega, by rw [RW.size]; omega, hg.small, hg.len⟩
  unfold RW
  have := heap_alloc_new (w.alloc (.cells #[.slice none 0 0, .slice none 0 0, .slice none 0 0] 26)) (.cells #[.slice a bs.length cap, .int .i64 0] 51)
  rw [heap_size_alloc] at this
  exact this
set_option maxRecDepth 100000 in
set_option maxHeartbeats 4000000 in
theorem pread_any (a : Option Addr) (cap : Nat) (bs : List Nat) (C : Nat) (w : World) (hg : Giv a cap bs C w) : Calls Try.prog 10 #[.slice a bs.length cap] w (RdPost bs w) := by
  have HC := hide (pcode_any (w.heap.size + 1) C bs 0 (RW w a bs.length cap) (RW.st hg))
  have HSP := hide (read_split bs)
  have HFIT := hide (codeR_in bs 0)
  have HRS := hide (RW.res w a bs.length cap)
  have HRB := hide (RW.below w a bs.length cap)
  have HRZ := hide (RW.size w a bs.length cap)
  clear hg
  obtain ⟨x, hx⟩ : ∃ x, x = codeR bs 0 := ⟨_, rfl⟩
  rw [← hx] at HC HSP HFIT
  clear hx
  obtain ⟨c, l1, e1⟩ := x
  go_enter Try.func10, Try.ntmps10
  go_wp2_with (first
    | (go_at_call 6; refine (unhide HCK _).mono ?_; rintro r w4 ⟨n, rfl, hci, hb4⟩; have HB4 := hide ((one_belowB w3 (.cells #[.slice oa os.length oc, .slice fa fs.length fc, .slice ka ks.length kc] 26)).trans (hb4.mono (one_belowB w3 _).size)); have hq4 := (hb4.block w3.heap.size (by rw [heap_size_alloc]; omega)).trans (heap_alloc_new w3 (.cells #[.slice oa os.length oc, .slice fa fs.length fc, .slice ka ks.length kc] 26)); obtain ⟨q0, q1, q2⟩ := cells3 hq4; have hat4 : RdAt (w.heap.size + 1) (.slice ra _ rcap) e2 w4 := ⟨bx_below (unhide HAT).box (unhide HB4)⟩; obtain ⟨p0, p1, pf0, pf1⟩ := hat4.cells; have hres4 := bx_below (unhide HRES) (unhide HB4); obtain ⟨t0, t1, t2⟩ := cells3 hres4; have tf0 := wfree hres4 0; have tf1 := wfree hres4 1; have tf2 := wfree hres4 2; have HCI := hide hci; clear hci hb4 hq4 hat4 hres4; rcases Classical.em (n = 0) with hn | hn)
    | (go_at_call 21; refine (unhide HC).mono ?_; rintro r w3 ⟨os, fs, ks, ov, fv, kv, rfl, hc, hrow, hrd, hgr⟩; obtain ⟨oa, oc, rfl⟩ := own_form hrow.ops; obtain ⟨fa, fc, rfl⟩ := own_form hrow.fns; obtain ⟨ka, kc, rfl⟩ := own_form hrow.kinds; obtain ⟨e2, he2⟩ : ∃ e2, e2 = (if l1 = [] then e1 else if e1 = 0 then 3 else e1) := ⟨_, rfl⟩; have hsp := unhide HSP e2 he2; rw [← he2] at hrd; simp only at hc; subst hc; obtain ⟨ra, rcap, hat, _, _⟩ := hrd.box; obtain ⟨r0, r1, rf0, rf1⟩ := hat.cells; have hz3 : w.heap.size + 2 ≤ w3.heap.size := (by have := hgr.size; rw [unhide HRZ] at this; exact this); have hz31 : w.heap.size + 1 < w3.heap.size := (by omega); have hz30 : w.heap.size < w3.heap.size := (by omega); have hres := (hgr.block w.heap.size (by rw [unhide HRZ]; omega) (fun e => by injection e with e; omega)).trans (unhide HRS); obtain ⟨s0, s1, s2⟩ := cells3 hres; have HRES := hide hres; have sf0 := wfree hres 0; have sf1 := wfree hres 1; have sf2 := wfree hres 2; have HCK := hide (fun o => (hrow.over (one_belowB w3 o)).check (unhide HFIT)); have hbw := (unhide HRB).grown hgr (by rw [unhide HRZ]; omega) (fun k hk => by injection hk with hk; omega); have HBW := hide hbw; have HROW := hide hrow; have HAT := hide hat; clear hbw hrow hrd hgr hat he2 hres HSP HC HRS HRB; rcases hsp with ⟨he0, HE⟩ | ⟨he0, HE⟩))
  · subst hn
    refine bodyPost_ret (v := .tuple #[.agg #[.slice oa os.length oc, .slice fa fs.length fc, .slice ka ks.length kc], .int .i64 0]) (by simp [results, Try.results10, go_sem, *]) rfl ?_
    have hR := HE 0 (unhide HCI)
    rw [if_pos rfl] at hR
    have hr := unhide HROW
    rw [unhide HRZ] at hr
    have hr4 := hr.over (unhide HB4)
    refine read_some hR ((((hr4.set (k := w.heap.size + 1) (by omega) _ _).set (k := w.heap.size) (by omega) _ _).set (k := w.heap.size) (by omega) _ _).set (k := w.heap.size) (by omega) _ _) (unhide HFIT) ?_
    exact below_set (below_set (below_set (below_set ((unhide HBW).trans ((unhide HB4).mono (by omega))) (by omega)) (Nat.le_refl _)) (Nat.le_refl _)) (Nat.le_refl _)
  · have hR := HE n (unhide HCI)
    rw [if_neg hn] at hR
    have HR := hide hR
    clear HE hR
    go_region
    all_goals go_wp2
    all_goals
      refine bodyPost_ret (v := .tuple #[.agg #[.slice none 0 0, .slice none 0 0, .slice none 0 0], .int .i64 n]) (by simp [results, Try.results10, go_sem, *]) rfl ?_
      refine read_none (unhide HR) ?_
      exact (below_set (below_set (below_set (below_set ((unhide HBW).trans ((unhide HB4).mono (by omega))) (by omega)) (Nat.le_refl _)) (Nat.le_refl _)) (Nat.le_refl _)).drew
  · have HR := hide HE
    clear HE
    go_region
    all_goals go_wp2
    all_goals
      refine bodyPost_ret (v := .tuple #[.agg #[.slice none 0 0, .slice none 0 0, .slice none 0 0], .int .i64 e2]) (by simp [results, Try.results10, go_sem, *]) rfl ?_
      refine read_none (unhide HR) ?_
      exact ((below_set (below_set (below_set (unhide HBW) (Nat.le_refl _)) (Nat.le_refl _)) (Nat.le_refl _)).alloc (by simp; omega) _).drew
theorem reads_all : PReads := fun a cap bs C w hg => pread_any a cap bs C w hg
theorem codeReads_here : Rows.CodeReadsSaid := codeReads_said reads_all
theorem codeBytes_all : Rows.CodeBytesSaid := codeBytes_here reads_all
end
end Go.Proofs.Ytdemnolanlfblaa
