import Derived.Laws.BytesArg
import Derived.Test.YtdemnolanlfblaaRows
import Derived.Test.YtdemnolanlfblaaZCArg
set_option linter.all false
namespace Go.Proofs.Ytdemnolanlfblaa
section
open Go.RowKit
def PChecks : Prop := ∀ (a1 a2 a3 : Option Addr) (c1 c2 c3 : Nat) (c : CodeD) (w : World) (C : Nat), C ≤ w.heap.size → CodeIn C w (.slice a1 c.ops.length c1) (.slice a2 c.fns.length c2) (.slice a3 c.kinds.length c3) c → CapsIn w (.slice a1 c.ops.length c1) (.slice a3 c.kinds.length c3) → CodeFits c →
  Calls Try.prog 6 #[.agg #[.slice a1 c.ops.length c1, .slice a2 c.fns.length c2, .slice a3 c.kinds.length c3]] w (CPost c w)
def PReads : Prop := ∀ (a : Option Addr) (cap : Nat) (bs : List Nat) (C : Nat) (w : World), Giv a cap bs C w → Calls Try.prog 10 #[.slice a bs.length cap] w (RdPost bs w)
def BPost (c : CodeD) (w : World) (r : Ending) (w' : World) : Prop := ∃ (n : Int) (l : List Nat) (a : Option Addr) (cap : Nat), r = .returned (.tuple #[.slice a l.length cap, .int .i64 n]) ∧ CheckIs c n ∧ l = (if n = 0 then bCode c else []) ∧ BytesIn w'.heap.size w' (.slice a l.length cap) l ∧ l.length ≤ cap ∧ Below w.heap.size w w'
def PBytes : Prop := ∀ (a1 a2 a3 : Option Addr) (c1 c2 c3 : Nat) (c : CodeD) (w : World) (C : Nat), C ≤ w.heap.size → CodeIn C w (.slice a1 c.ops.length c1) (.slice a2 c.fns.length c2) (.slice a3 c.kinds.length c3) c → CapsIn w (.slice a1 c.ops.length c1) (.slice a3 c.kinds.length c3) → CodeFits c →
  Calls Try.prog 8 #[.agg #[.slice a1 c.ops.length c1, .slice a2 c.fns.length c2, .slice a3 c.kinds.length c3]] w (BPost c w)
theorem law_checks (hp : PChecks) (a1 a2 a3 : Option Addr) (c1 c2 c3 : Nat) (c : CodeD) (w : World) (C : Nat) (hC : C ≤ w.heap.size) (hI : CodeIn C w (.slice a1 c.ops.length c1) (.slice a2 c.fns.length c2) (.slice a3 c.kinds.length c3) c) (hcap : CapsIn w (.slice a1 c.ops.length c1) (.slice a3 c.kinds.length c3)) (hf : CodeFits c) :
    Calls Try.prog 3 #[.agg #[.slice a1 c.ops.length c1, .slice a2 c.fns.length c2, .slice a3 c.kinds.length c3]] w (SPost w) := by
  have HA : Hid (∀ o, Calls Try.prog 6 #[.agg #[.slice a1 c.ops.length c1, .slice a2 c.fns.length c2, .slice a3 c.kinds.length c3]] (w.alloc o) (CPost c (w.alloc o))) := fun o => hp a1 a2 a3 c1 c2 c3 c _ C (by rw [heap_size_alloc]; omega) (hI.same (Same.of_below ((Below.refl _ w).alloc (Nat.le_refl _) o) hC)) (hcap.same hI.kinds (Same.of_below ((Below.refl _ w).alloc (Nat.le_refl _) o) hC)) hf
  have HB : Hid (∀ w', Below w.heap.size w w' → Calls Try.prog 7 #[.agg #[.slice a1 c.ops.length c1, .slice a2 c.fns.length c2, .slice a3 c.kinds.length c3]] w' (CPost c w')) := fun w' hb => by
    have h := hI.same (Same.of_below hb hC)
    exact check16_any a1 a2 a3 c1 c2 c3 c _ C (Nat.le_trans hC hb.size) h.ops h.fns h.kinds
  clear hI hp
  go_enter Try.func3, Try.ntmps3
  go_wp2_with (first | (go_at_call 7; refine (unhide HB _ (unhide HX)).mono ?_; rintro r w9 ⟨n9, rfl, hci9, hb9⟩; have hn : n8 = n9 := checkIs_one (unhide HCI) hci9; subst hn; have HY := hide ((unhide HX).trans (hb9.mono (unhide HX).size)); clear hci9 hb9 HX) | (go_at_call 6; refine (unhide HA _).mono ?_; rintro r w8 ⟨n8, rfl, hci8, hb8⟩; have hbx := cells3 ((hb8.block _ (by rw [heap_size_alloc]; omega)).trans (heap_alloc_new w _)); have HX := hide (((Below.refl _ w).alloc (Nat.le_refl _) _).trans (hb8.mono (by rw [heap_size_alloc]; omega))); have HCI := hide hci8; clear hci8 hb8))
  go_ret
  exact ⟨by simp, unhide HY⟩
theorem bytesAt_in {B : Nat} {w : World} {v : Value} {l : List Nat} (h : BytesAt B w v l) : BytesIn w.heap.size w v l := by
  obtain ⟨a, c, rfl⟩ := own_form h
  refine ⟨a, c, rfl, fun hne => ?_⟩
  have hp : 0 < l.length := by cases l with
    | nil => exact absurd rfl hne
    | cons _ _ => simp
  obtain ⟨g, cap, hv, hg, hlt, ho⟩ := own_at h hp
  simp only [Value.slice.injEq] at hv
  obtain ⟨rfl, _, rfl⟩ := hv
  refine ⟨g, 0, rfl, hlt, fun i x hx => ?_⟩
  have hi := (List.getElem?_eq_some_iff.1 hx).1
  rw [Nat.zero_add, ho.cellAt i (by omega)]
  simp [bvals, hx]
def strOf (l : List Nat) : ByteArray := strOfNums (l.map fun n : Nat => (n : Int))
theorem conv_in {B : Nat} {w : World} {a : Option Addr} {cap : Nat} {l : List Nat} (h : BytesIn B w (.slice a l.length cap) l) (hne : l ≠ []) : (convert 30 9 (.slice a l.length cap)).run Try.prog w = .ok (.string (strOf l)) w := by
  obtain ⟨a', cap', hv, h⟩ := h
  simp only [Value.slice.injEq] at hv
  obtain ⟨rfl, _, rfl⟩ := hv
  obtain ⟨b, o, rfl, _, hc⟩ := h hne
  refine run_convert_bytes_arg w _ 5 Try.underlying30 Try.underlying5 b o l.length cap (l.map fun n : Nat => (n : Int)) (by simp) (fun i hi => ?_) _ Try.underlying9
  obtain ⟨x, hx⟩ : ∃ x, l[i]? = some x := ⟨_, List.getElem?_eq_getElem hi⟩
  rw [hc i x hx]
  simp [List.getD, hx]
theorem enc_ne (k u : Nat) : enc (k + 1) u ≠ [] := by
  by_cases hu : u < 128
  · rw [enc_small hu]; simp
  · rw [enc_great hu]; simp
theorem bCode_ne (c : CodeD) : bCode c ≠ [] := by
  intro h
  unfold bCode at h
  simp at h
  exact enc_ne 9 _ h.1
theorem bMany_bytes {α : Type} {f : α → List Nat} : ∀ l : List α, (∀ a ∈ l, ∀ x ∈ f a, x < 256) → ∀ x ∈ bMany f l, x < 256
  | [], _, x, hx => by simp [bMany] at hx
  | a :: l, h, x, hx => by
    simp only [bMany, List.mem_append] at hx
    rcases hx with hx | hx
    · exact h a (by simp) x hx
    · exact bMany_bytes l (fun b hb => h b (by simp [hb])) x hx
theorem put_bytes (n : Int) : ∀ x ∈ putL n, x < 256 := fun x hx => enc_bytes _ _ x hx
theorem bInts_bytes (l : List Int) : ∀ x ∈ bInts l, x < 256 := by
  intro x hx
  simp only [bInts, List.mem_append] at hx
  rcases hx with hx | hx
  · exact put_bytes _ x hx
  · exact bMany_bytes l (fun a _ => put_bytes a) x hx
theorem bCode_bytes (c : CodeD) : ∀ x ∈ bCode c, x < 256 := by
  intro x hx
  simp only [bCode, List.mem_append] at hx
  rcases hx with ((((hx | hx) | hx) | hx) | hx) | hx
  · exact put_bytes _ x hx
  · exact put_bytes _ x hx
  · exact put_bytes _ x hx
  · refine bMany_bytes c.ops (fun a _ x hx => ?_) x hx
    simp only [bOp, List.mem_append] at hx
    rcases hx with (hx | hx) | hx <;> exact put_bytes _ x hx
  · refine bMany_bytes c.fns (fun a _ x hx => ?_) x hx
    simp only [bFn, List.mem_append] at hx
    rcases hx with ((hx | hx) | hx) | hx
    · exact put_bytes _ x hx
    · exact put_bytes _ x hx
    · exact put_bytes _ x hx
    · exact bInts_bytes _ x hx
  · exact bMany_bytes c.kinds (fun a _ => bInts_bytes a) x hx
theorem check_some (c : CodeD) : ∃ n, CheckIs c n := by
  by_cases h1 : SizeOk c
  · by_cases h2 : RangeOk c
    · by_cases h3 : ∀ f ∈ c.fns, FormOk c f
      · exact ⟨0, Or.inr (Or.inr (Or.inr ⟨rfl, h1, h2, h3⟩))⟩
      · exact ⟨12, Or.inr (Or.inr (Or.inl ⟨rfl, h1, h2, h3⟩))⟩
    · exact ⟨11, Or.inr (Or.inl ⟨rfl, h1, h2⟩)⟩
  · exact ⟨1, Or.inl ⟨rfl, h1⟩⟩
theorem check_parts {c : CodeD} (h : CheckIs c 0) : SizeOk c ∧ RangeOk c := by
  rcases h with ⟨h, _⟩ | ⟨h, _⟩ | ⟨h, _⟩ | ⟨_, h1, h2, _⟩
  · simp at h
  · simp at h
  · simp at h
  · exact ⟨h1, h2⟩
theorem one_below (w : World) (o : Obj) : Below w.heap.size w (w.alloc o) := (Below.refl _ w).alloc (Nat.le_refl _) o
theorem law_reads (hp : PReads) (a : Option Addr) (cap : Nat) (bs : List Nat) (C : Nat) (w : World) (hg : Giv a cap bs C w) :
    Calls Try.prog 5 #[.slice a bs.length cap] w (SPost w) := by
  have HA := hide (hp a cap bs C w hg)
  have HG := hide hg
  clear hp hg
  go_enter Try.func5, Try.ntmps5
  go_wp2_with (first
    | (go_at_call 11; refine (same_yes _ _ _ _ _ _ _ _ _ _ _ _ c8 _ w9.heap.size (by rw [heap_size_alloc]; omega) (((unhide HI8).up (unhide HB9).size).same (Same.of_below (one_below _ _) (Nat.le_refl _))) ((unhide HI9).same (Same.of_below (one_below _ _) (Nat.le_refl _))) (lens_read (unhide HR8))).mono ?_; rintro r w7 ⟨rfl, hb7⟩; have HY := hide ((unhide HX9).trans (((one_below _ _).trans (hb7.mono (one_below _ _).size)).mono (unhide HX9).size)); clear hb7)
    | (go_at_call 12; refine (read16_any a cap bs C _ ((unhide HG).below (unhide HX8))).mono ?_; rintro r w9 ⟨c9, e9, b91, b92, b93, d91, d92, d93, rfl, hr9, hi9, hf9, hb9⟩; obtain ⟨rfl, rfl⟩ := readIs_one (unhide HR8) hr9; have hbx9 := cells3 ((hb9.block _ (by rw [heap_size_alloc]; omega)).trans (unhide HQ8)); have hz9 : w8.heap.size < w9.heap.size := Nat.lt_of_lt_of_le (by rw [heap_size_alloc]; omega) hb9.size; have HB9 := hide ((one_below w8 _).trans (hb9.mono (one_below w8 _).size)); have HX9 := hide ((unhide HX8).trans (hb9.mono (unhide HX8).size)); have HI9 := hide hi9; replace HI8 := hide ((unhide HI8).same (Same.of_below (unhide HB9) (Nat.le_refl _))); clear hr9 hi9 hf9 hb9 HX8 HQ8)
    | (go_at_call 10; refine (unhide HA).mono ?_; rintro r w8 ⟨c8, e8, b81, b82, b83, d81, d82, d83, rfl, hr8, hi8, hf8, hb8⟩; have HR8 := hide hr8; have HI8 := hide hi8; have HX8 := hide (hb8.trans ((one_below w8 (.cells #[.slice b81 c8.ops.length d81, .slice b82 c8.fns.length d82, .slice b83 c8.kinds.length d83] 26)).mono hb8.size)); have HQ8 := hide (heap_alloc_new w8 (.cells #[.slice b81 c8.ops.length d81, .slice b82 c8.fns.length d82, .slice b83 c8.kinds.length d83] 26)); clear hr8 hi8 hf8 hb8 HA))
  go_ret
  exact ⟨by simp, unhide HY⟩
set_option maxRecDepth 100000 in
theorem law_bytes (hp : PBytes) (hq : PReads) (a1 a2 a3 : Option Addr) (c1 c2 c3 : Nat) (c : CodeD) (w : World) (C : Nat) (hC : C ≤ w.heap.size) (hI : CodeIn C w (.slice a1 c.ops.length c1) (.slice a2 c.fns.length c2) (.slice a3 c.kinds.length c3) c) (hcap : CapsIn w (.slice a1 c.ops.length c1) (.slice a3 c.kinds.length c3)) (hf : CodeFits c) :
    Calls Try.prog 4 #[.agg #[.slice a1 c.ops.length c1, .slice a2 c.fns.length c2, .slice a3 c.kinds.length c3]] w (SPost w) := by
  have HA : Hid (∀ o, Calls Try.prog 8 #[.agg #[.slice a1 c.ops.length c1, .slice a2 c.fns.length c2, .slice a3 c.kinds.length c3]] (w.alloc o) (BPost c (w.alloc o))) := fun o => hp a1 a2 a3 c1 c2 c3 c _ C (by rw [heap_size_alloc]; omega) (hI.same (Same.of_below (one_below w o) hC)) (hcap.same hI.kinds (Same.of_below (one_below w o) hC)) hf
  have HB : Hid (∀ w', Below w.heap.size w w' → Calls Try.prog 7 #[.agg #[.slice a1 c.ops.length c1, .slice a2 c.fns.length c2, .slice a3 c.kinds.length c3]] w' (CPost c w')) := fun w' hb => by
    have h := hI.same (Same.of_below hb hC)
    exact check16_any a1 a2 a3 c1 c2 c3 c _ C (Nat.le_trans hC hb.size) h.ops h.fns h.kinds
  have HI := hide hI
  have HF := hide hf
  have HP := hide hq
  clear hI hp hf hq hcap
  obtain ⟨n8, hci⟩ : ∃ n, CheckIs c n := check_some c
  have HCI := hide hci
  clear hci
  by_cases hn8 : n8 = 0
  · subst hn8
    go_enter Try.func4, Try.ntmps4
    go_wp2_with (first
      | (go_at_call 11; refine (same_yes _ _ _ _ _ _ _ _ _ _ _ _ c _ w11.heap.size (by rw [heap_size_alloc]; omega) ((((unhide HI).same (Same.of_below (unhide HY11) hC)).up (Nat.le_trans hC (unhide HY11).size)).same (Same.of_below (one_below _ _) (Nat.le_refl _))) ((unhide HI11).same (Same.of_below (one_below _ _) (Nat.le_refl _))) (lens_check (unhide HCI))).mono ?_; rintro r w12 ⟨rfl, hb12⟩; have HE := hide ((unhide HY11).trans (((one_below _ _).trans (hb12.mono (one_below _ _).size)).mono (unhide HY11).size)); clear hb12)
      | (go_at_call 10; refine (unhide HP b8 cap8 l8 w8.heap.size w10 ⟨unhide HZ10, unhide HL10, (by rw [unhide HLL]; exact bCode_bytes c), (by rw [unhide HLL]; have := bCode_len (check_parts (unhide HCI)).1 (check_parts (unhide HCI)).2; unfold maxLen; omega), unhide HRM⟩).mono ?_; rintro r w11 ⟨c11, e11, b1, b2, b3, d1, d2, d3, rfl, hr11, hi11, _, hb11⟩; have hcc := readIs_one (show ReadIs l8 c 0 from (by rw [unhide HLL]; exact readIs_put (unhide HCI) (unhide HF))) hr11; obtain ⟨hc1, hc2⟩ := hcc; subst hc1; subst hc2; have hbx11 := cells3 ((hb11.block _ (Array.getElem?_eq_some_iff.1 (unhide HQ10)).1).trans (unhide HQ10)); have hz11 : w.heap.size < w11.heap.size := Nat.lt_of_lt_of_le (Array.getElem?_eq_some_iff.1 (unhide HQ10)).1 hb11.size; have HY11 := hide ((unhide HY10).trans (hb11.mono (unhide HY10).size)); have HI11 := hide hi11; clear hr11 hi11 hb11)
      | (go_at_call 9; refine (bytes_any a1 a2 a3 c1 c2 c3 c _ C (Nat.le_trans hC (unhide HY).size) ((unhide HI).same (Same.of_below (unhide HY) hC)) (check_parts (unhide HCI)).1 (check_parts (unhide HCI)).2 (unhide HF)).mono ?_; rintro r w10 ⟨v10, rfl, hv10, hb10⟩; obtain ⟨va, vc, rfl⟩ := own_form hv10; have hcv := conv_in (bytesAt_in hv10) (bCode_ne c); have hl10 := (unhide HL9).same (Same.of_below hb10 (unhide HZ9)); have hcw := conv_in hl10 (by rw [unhide HLL]; exact bCode_ne c); have hs : strOf l8 = strOf (bCode c) := (by rw [unhide HLL]); rw [hs] at hcw; have hbx10 := cells3 ((hb10.block _ (Array.getElem?_eq_some_iff.1 (unhide HQ9)).1).trans (unhide HQ9)); have HQ10 := hide ((hb10.block _ (Array.getElem?_eq_some_iff.1 (unhide HQ9)).1).trans (unhide HQ9)); have HY10 := hide ((unhide HY).trans (hb10.mono (unhide HY).size)); have HL10 := hide hl10; have HZ10 := hide (Nat.le_trans (unhide HZ9) hb10.size); clear hv10 hb10 hl10 hs HQ9 HY)
      | (go_at_call 7; refine (unhide HB _ (unhide HX)).mono ?_; rintro r w9 ⟨n9, rfl, hci9, hb9⟩; have hn : 0 = n9 := checkIs_one (unhide HCI) hci9; subst hn; have hbx := cells3 ((hb9.block _ (Array.getElem?_eq_some_iff.1 (unhide HQ)).1).trans (unhide HQ)); have HQ9 := hide ((hb9.block _ (Array.getElem?_eq_some_iff.1 (unhide HQ)).1).trans (unhide HQ)); have HL9 := hide ((unhide HL).same (Same.of_below hb9 (Nat.le_refl _))); have HZ9 := hide hb9.size; have HY := hide ((unhide HX).trans (hb9.mono (unhide HX).size)); clear hci9 hb9 HX HQ HL)
      | (go_at_call 8; refine (unhide HA _).mono ?_; rintro r w8 ⟨m8, l8, b8, cap8, rfl, hci8, hl8, hi8, hrm8, hb8⟩; have HRM := hide hrm8; clear hrm8; have hn : 0 = m8 := checkIs_one (unhide HCI) hci8; subst hn; rw [if_pos rfl] at hl8; have hbx := cells3 ((hb8.block _ (by rw [heap_size_alloc]; omega)).trans (heap_alloc_new w _)); have HQ := hide ((hb8.block _ (by rw [heap_size_alloc]; omega)).trans (heap_alloc_new w _)); have HX := hide (((Below.refl _ w).alloc (Nat.le_refl _) _).trans (hb8.mono (by rw [heap_size_alloc]; omega))); have HL := hide hi8; have HLL := hide hl8; clear hci8 hb8 hi8 hl8 HA))
    go_ret
    exact ⟨rfl, unhide HE⟩
  · have hn8' : (n8 != 0) = true := by simpa using hn8
    go_enter Try.func4, Try.ntmps4
    go_wp2_with (first
      | (go_at_call 7; refine (unhide HB _ (unhide HX)).mono ?_; rintro r w9 ⟨n9, rfl, hci9, hb9⟩; have hn : n8 = n9 := checkIs_one (unhide HCI) hci9; subst hn; have HY := hide ((unhide HX).trans (hb9.mono (unhide HX).size)); clear hci9 hb9 HX)
      | (go_at_call 8; refine (unhide HA _).mono ?_; rintro r w8 ⟨m8, l8, b8, cap8, rfl, hci8, hl8, hi8, hrm8, hb8⟩; clear hrm8; have hn : n8 = m8 := checkIs_one (unhide HCI) hci8; subst hn; rw [if_neg hn8] at hl8; subst hl8; have hbx := cells3 ((hb8.block _ (by rw [heap_size_alloc]; omega)).trans (heap_alloc_new w _)); have HX := hide (((Below.refl _ w).alloc (Nat.le_refl _) _).trans (hb8.mono (by rw [heap_size_alloc]; omega))); clear hci8 hb8 hi8 HA))
    go_ret
    exact ⟨by simp, unhide HY⟩
end
section
open Go.ChangeShapes Go.WideShapes Go.ChangeAt Go.RowKit
open Go.ChangeMaps (open_string shut_string)
theorem codeOwn : ownKnob Try.prog.godebug = none := by kernel_rfl
theorem codeLaid : laidOutB Try.prog = true := by kernel_rfl
set_option maxRecDepth 100000 in
theorem codeChecks_lifted (h0 : PChecks) (os : Os) (started : os.Started) (H : Type) (enc : TypeId × Value → H) :
    ReturnsInHanded {} Try.checked os 3 .any (Rows.codeChecksSpec.pre6 enc Try.prog Try.f3 Rows.codeChecksRow.domain false) (Rows.codeChecksSpec.post enc Try.prog Try.f3 false true false false) := by
  refine returnsInHanded_of_change (C := Try.checked) codeOwn started (by kernel_rfl) Try.func3
    (ChangeSpec.witness6 (enc := enc) (C := Try.checked) false ⟨#[], #[.agg #[.slice none 0 0, .slice none 0 0, .slice none 0 0]], []⟩ 8 (by kernel_rfl) (by kernel_rfl) (by kernel_rfl) (by kernel_rfl)) ?_
  intro W base args ds gs before hval0 hW hcnd _
  have hval : ∀ (j : Nat) t v, Try.f3.params[j]? = some t → args[j]? = some v → Value.okWide Try.prog W .any base t v := hval0
  have hW' := hW
  obtain ⟨p, q, hA0, hV, rfl, hfz, hnd⟩ := hW
  have hA : DataW.TrodAll enc Try.prog W 0 (fun _ => true) true Try.f3.params.toList args.toList ds p := hA0
  rw [Try.params3] at hA hval
  obtain ⟨v0, vs0, d0, ds0, p0, q0, hargs, rfl, rfl, h0', r0⟩ := trodAll_cons hA
  obtain ⟨rfl, rfl, rfl⟩ := trodAll_nil r0
  obtain rfl : args = #[v0] := by cases args; simp_all
  obtain ⟨rfl, rfl⟩ := trodVars_none hV
  have k0 := h0'
  have lt0 : ∀ x ∈ p0, x.block < W.heap.size := by obtain ⟨m, hm⟩ := k0; exact DataW.trod_lt m _ _ _ hm
  obtain ⟨c, a1, a2, a3, c1, c2, c3, hcame⟩ := code_open (hval 0 26 v0 rfl rfl) h0'
  obtain ⟨rfl, hcode, hfits⟩ := hcame
  have hcaps := code_caps (hval 0 26 _ rfl rfl) h0'
  clear hA0 hval0
  refine (law_checks h0 a1 a2 a3 c1 c2 c3 c W W.heap.size (Nat.le_refl _) hcode hcaps hfits).mono fun e W' ⟨he, bel⟩ => ?_
  subst he
  exact ⟨_, rfl, _, _, _, [], _, [], hW', trodAll_mk1 (shut_bool Try.underlying4 _), (trodAll_cons_mk (Below.trod codeLaid (by kernel_rfl) (of_decide_eq_true (by kernel_rfl)) k0 bel lt0) trodAll_mk0), rfl, bel.frame _, fun h => by cases h⟩
theorem codeChecks_said (h0 : PChecks) : Rows.CodeChecksSaid :=
  OpenClaim.holds_of_wide 3 Try.f3 rfl rfl rfl rfl rfl rfl rfl ⟨rfl, rfl, rfl, rfl, rfl⟩ rfl rfl rfl rfl rfl (by kernel_rfl) Try.func3 (by kernel_rfl)
    (of_decide_eq_true (by kernel_rfl)) (by unfold Func.isWrapper; first | (rw [if_pos (by decide +kernel)]; kernel_rfl) | (rw [if_neg (by decide +kernel)]; exact ⟨rfl, rfl⟩))
    (fun os started H enc _ => codeChecks_lifted h0 os started H enc)
set_option maxRecDepth 100000 in
theorem codeBytes_lifted (h0 : PBytes) (h1 : PReads) (os : Os) (started : os.Started) (H : Type) (enc : TypeId × Value → H) :
    ReturnsInHanded {} Try.checked os 4 .any (Rows.codeBytesSpec.pre6 enc Try.prog Try.f4 Rows.codeBytesRow.domain false) (Rows.codeBytesSpec.post enc Try.prog Try.f4 false true false false) := by
  refine returnsInHanded_of_change (C := Try.checked) codeOwn started (by kernel_rfl) Try.func4
    (ChangeSpec.witness6 (enc := enc) (C := Try.checked) false ⟨#[], #[.agg #[.slice none 0 0, .slice none 0 0, .slice none 0 0]], []⟩ 8 (by kernel_rfl) (by kernel_rfl) (by kernel_rfl) (by kernel_rfl)) ?_
  intro W base args ds gs before hval0 hW hcnd _
  have hval : ∀ (j : Nat) t v, Try.f4.params[j]? = some t → args[j]? = some v → Value.okWide Try.prog W .any base t v := hval0
  have hW' := hW
  obtain ⟨p, q, hA0, hV, rfl, hfz, hnd⟩ := hW
  have hA : DataW.TrodAll enc Try.prog W 0 (fun _ => true) true Try.f4.params.toList args.toList ds p := hA0
  rw [Try.params4] at hA hval
  obtain ⟨v0, vs0, d0, ds0, p0, q0, hargs, rfl, rfl, h0', r0⟩ := trodAll_cons hA
  obtain ⟨rfl, rfl, rfl⟩ := trodAll_nil r0
  obtain rfl : args = #[v0] := by cases args; simp_all
  obtain ⟨rfl, rfl⟩ := trodVars_none hV
  have k0 := h0'
  have lt0 : ∀ x ∈ p0, x.block < W.heap.size := by obtain ⟨m, hm⟩ := k0; exact DataW.trod_lt m _ _ _ hm
  obtain ⟨c, a1, a2, a3, c1, c2, c3, hcame⟩ := code_open (hval 0 26 v0 rfl rfl) h0'
  obtain ⟨rfl, hcode, hfits⟩ := hcame
  have hcaps := code_caps (hval 0 26 _ rfl rfl) h0'
  clear hA0 hval0
  refine (law_bytes h0 h1 a1 a2 a3 c1 c2 c3 c W W.heap.size (Nat.le_refl _) hcode hcaps hfits).mono fun e W' ⟨he, bel⟩ => ?_
  subst he
  exact ⟨_, rfl, _, _, _, [], _, [], hW', trodAll_mk1 (shut_bool Try.underlying4 _), (trodAll_cons_mk (Below.trod codeLaid (by kernel_rfl) (of_decide_eq_true (by kernel_rfl)) k0 bel lt0) trodAll_mk0), rfl, bel.frame _, fun h => by cases h⟩
theorem codeBytes_said (h0 : PBytes) (h1 : PReads) : Rows.CodeBytesSaid :=
  OpenClaim.holds_of_wide 4 Try.f4 rfl rfl rfl rfl rfl rfl rfl ⟨rfl, rfl, rfl, rfl, rfl⟩ rfl rfl rfl rfl rfl (by kernel_rfl) Try.func4 (by kernel_rfl)
    (of_decide_eq_true (by kernel_rfl)) (by unfold Func.isWrapper; first | (rw [if_pos (by decide +kernel)]; kernel_rfl) | (rw [if_neg (by decide +kernel)]; exact ⟨rfl, rfl⟩))
    (fun os started H enc _ => codeBytes_lifted h0 h1 os started H enc)
set_option maxRecDepth 100000 in
theorem codeReads_lifted (h0 : PReads) (os : Os) (started : os.Started) (H : Type) (enc : TypeId × Value → H) :
    ReturnsInHanded {} Try.checked os 5 .any (Rows.codeReadsSpec.pre6 enc Try.prog Try.f5 Rows.codeReadsRow.domain false) (Rows.codeReadsSpec.post enc Try.prog Try.f5 false true false false) := by
  refine returnsInHanded_of_change (C := Try.checked) codeOwn started (by kernel_rfl) Try.func5
    (ChangeSpec.witness6 (enc := enc) (C := Try.checked) false ⟨#[], #[.slice none 0 0], []⟩ 8 (by kernel_rfl) (by kernel_rfl) (by kernel_rfl) (by kernel_rfl)) ?_
  intro W base args ds gs before hval0 hW hcnd _
  have hval : ∀ (j : Nat) t v, Try.f5.params[j]? = some t → args[j]? = some v → Value.okWide Try.prog W .any base t v := hval0
  have hW' := hW
  obtain ⟨p, q, hA0, hV, rfl, hfz, hnd⟩ := hW
  have hA : DataW.TrodAll enc Try.prog W 0 (fun _ => true) true Try.f5.params.toList args.toList ds p := hA0
  rw [Try.params5] at hA hval
  obtain ⟨v0, vs0, d0, ds0, p0, q0, hargs, rfl, rfl, h0', r0⟩ := trodAll_cons hA
  obtain ⟨rfl, rfl, rfl⟩ := trodAll_nil r0
  obtain rfl : args = #[v0] := by cases args; simp_all
  obtain ⟨rfl, rfl⟩ := trodVars_none hV
  have k0 := h0'
  have lt0 : ∀ x ∈ p0, x.block < W.heap.size := by obtain ⟨m, hm⟩ := k0; exact DataW.trod_lt m _ _ _ hm
  obtain ⟨bs, a, cap, rfl, hgiv⟩ := bytes_open (hval 0 30 v0 rfl rfl) h0'
  clear hA0 hval0
  refine (law_reads h0 a cap bs W.heap.size W hgiv).mono fun e W' ⟨he, bel⟩ => ?_
  subst he
  exact ⟨_, rfl, _, _, _, [], _, [], hW', trodAll_mk1 (shut_bool Try.underlying4 _), (trodAll_cons_mk (Below.trod codeLaid (by kernel_rfl) (of_decide_eq_true (by kernel_rfl)) k0 bel lt0) trodAll_mk0), rfl, bel.frame _, fun h => by cases h⟩
theorem codeReads_said (h0 : PReads) : Rows.CodeReadsSaid :=
  OpenClaim.holds_of_wide 5 Try.f5 rfl rfl rfl rfl rfl rfl rfl ⟨rfl, rfl, rfl, rfl, rfl⟩ rfl rfl rfl rfl rfl (by kernel_rfl) Try.func5 (by kernel_rfl)
    (of_decide_eq_true (by kernel_rfl)) (by unfold Func.isWrapper; first | (rw [if_pos (by decide +kernel)]; kernel_rfl) | (rw [if_neg (by decide +kernel)]; exact ⟨rfl, rfl⟩))
    (fun os started H enc _ => codeReads_lifted h0 os started H enc)
end
end Go.Proofs.Ytdemnolanlfblaa
