/- The walk of the law LexScans, out of the two scanners' contracts. -/
import Derived.Test.YtdemnolanlfblaaDoorRefMem
namespace Go.Proofs.YtdemnolanlfblaaDoor
open Go.RowKit
theorem tcells_app (a b : List Tok) : tcells (a ++ b) = tcells a ++ tcells b := by simp [tcells]
theorem tcells_get (ts : List Tok) (k : Nat) (t : Tok) (h : ts[k]? = some t) (j : Nat) (hj : j < 4) : (tcells ts)[k * 4 + j]? = t.cells[j]? := by
  have hk : k < ts.length := (List.getElem?_eq_some_iff.1 h).1
  have ht : ts[k] = t := (List.getElem?_eq_some_iff.1 h).2
  have hsplit : ts = ts.take k ++ (t :: ts.drop (k + 1)) := by rw [← ht]; simp
  rw [hsplit, tcells_app, List.getElem?_append_right (by rw [tcells_len]; simp; omega), tcells_len]
  have hl : (ts.take k).length = k := by simp; omega
  rw [hl, Nat.add_sub_cancel_left]
  show (t.cells ++ tcells (ts.drop (k + 1)))[j]? = _
  rw [List.getElem?_append_left (by simpa [Tok.cells] using hj)]
/-- A slice that owns tokens: its length; and, where it has oneSign, its cells. -/
theorem own_toks {w : World} {B : Nat} {v : Value} {ts : List Tok} (h : w.ownsRow B 29 4 v ts.length (tcells ts)) : ∃ a cap, v = .slice a ts.length cap := by
  rcases h.2 with ⟨rfl, h0⟩ | ⟨g, cap, cur, hv, _⟩
  · exact ⟨none, 0, by rw [h0]⟩
  · exact ⟨_, _, hv⟩
theorem own_toks_at {w : World} {B : Nat} {a : Option Addr} {n cap : Nat} {ts : List Tok} (h : w.ownsRow B 29 4 (.slice a n cap) ts.length (tcells ts)) (k : Nat) (t : Tok) (hk : ts[k]? = some t) :
    ∃ g, a = some ⟨g, 0, none⟩ ∧ B ≤ g ∧ w.cell? ⟨g, k * 4, none⟩ = some (.int .i64 t.kind) ∧ w.cell? ⟨g, k * 4 + 1, none⟩ = some (.string t.text) ∧ w.cell? ⟨g, k * 4 + 2, none⟩ = some (.int .i64 t.num) ∧ w.cell? ⟨g, k * 4 + 3, none⟩ = some (.int .i64 t.pos) := by
  have hlt : k < ts.length := (List.getElem?_eq_some_iff.1 hk).1
  rcases h.2 with ⟨_, h0⟩ | ⟨g, cap', cur, hv, hg, _⟩
  · omega
  · simp only [Value.slice.injEq] at hv
    obtain ⟨rfl, rfl, rfl⟩ := hv
    have hc := h.cells (g := g) rfl
    have hx : ∀ j u, j < 4 → t.cells[j]? = some u → w.cell? ⟨g, k * 4 + j, none⟩ = some u := by
      intro j u hj hu
      have := hc (k * 4 + j) u (by rw [tcells_get ts k t hk j hj]; exact hu)
      unfold Addr.add at this
      split at this
      · rename_i h0
        rw [h0]; exact this
      · simpa using this
    exact ⟨g, rfl, hg, hx 0 _ (by omega) rfl, hx 1 _ (by omega) rfl, hx 2 _ (by omega) rfl, hx 3 _ (by omega) rfl⟩
def RefSaid : Prop := ∀ (s : ByteArray) (w : World), s.size ≤ maxLen → Lib.Utf8Tabs 0 1 w → 2 ≤ w.heap.size →
    Calls Tryd.prog 6 #[.string s] w fun e w' => ∃ v, e = .returned (.tuple #[v, .agg #[.int .i64 (scan s).1, .int .i64 (scan s).2.1]]) ∧ w'.ownsRow w.heap.size 29 4 v (scan s).2.2.length (tcells (scan s).2.2) ∧ Below w.heap.size w w'
set_option maxHeartbeats 2000000 in
theorem scans_walk (href : RefSaid) (s : ByteArray) (w : World) (hs : s.size ≤ maxLen) (hT : Lib.Utf8Tabs 0 1 w) (h2 : 2 ≤ w.heap.size) (hn : (scan s).2.2.length ≤ 100000) :
    Calls Tryd.prog 3 #[.string s] w fun e w' => e = .returned (.bool true) ∧ Below w.heap.size w w' := by
  have HC := hide (scan_any s w hs hT h2)
  have HR := hide (fun w5 h1 h3 => href s w5 hs h1 h3)
  have HT := hide hT
  clear hT href
  generalize (scan s).1 = c at *
  generalize (scan s).2.1 = q at *
  generalize (scan s).2.2 = ts at *
  go_enter Tryd.func3, Tryd.ntmps3
  go_wp2_with (first
    | (go_at_call 5; refine (unhide HC).mono ?_; rintro e w1 ⟨v1, rfl, ho1, hb1⟩; obtain ⟨a1, k1, rfl⟩ := own_toks ho1; have HO1 := hide ho1; clear ho1)
    | (go_at_call 6; refine (unhide HR _ (tabs_below h2 (unhide HT) (hb1.alloc hb1.size _)) (by simp; have := hb1.size; omega)).mono ?_; rintro e w2 ⟨v2, rfl, ho2, hb2⟩; obtain ⟨a2, k2, rfl⟩ := own_toks ho2; have HO2 := hide ho2; clear ho2; have hbf := (hb2.block w1.heap.size (by simp)).trans (heap_alloc_new w1 _); have hsz2 := hb2.size; simp only [heap_size_alloc] at hsz2; have hlt12 : w1.heap.size < w2.heap.size := (by omega); obtain ⟨b0, b1, b2, b3⟩ := two_cells hbf; have HBF := hide hbf; clear hbf))
  have hO1 : Hid (∀ o, (w2.alloc o).ownsRow w.heap.size 29 4 (.slice a1 ts.length k1) ts.length (tcells ts)) := fun o => (own_below ((unhide HO1).alloc _) hb2).alloc o
  have hO2 : Hid (∀ o, (w2.alloc o).ownsRow w.heap.size 29 4 (.slice a2 ts.length k2) ts.length (tcells ts)) := fun o => own_mono ((unhide HO2).alloc o) (by simp; have := hb1.size; omega)
  have hB2 : Hid (∀ o, Below w.heap.size w (w2.alloc o)) := fun o => ((hb1.alloc hb1.size _).trans (hb2.mono (by simp; have := hb1.size; omega))).alloc (by have := hb1.size; omega) o
  clear HBF HO1 HO2 HC HR HT b0 b1 b2 b3 hb2
  go_loopw [7] (fun a wr => ∃ k : Nat, a = .int .i64 k ∧ k ≤ ts.length ∧ wr.ownsRow w.heap.size 29 4 (.slice a1 ts.length k1) ts.length (tcells ts) ∧ wr.ownsRow w.heap.size 29 4 (.slice a2 ts.length k2) ts.length (tcells ts) ∧ Below w.heap.size w wr) (fun a _ => ts.length - (intOf a).toNat)
  case atStart => exact ⟨0, rfl, Nat.zero_le _, unhide hO1 _, unhide hO2 _, unhide hB2 _⟩
  case round =>
    obtain ⟨k, rfl, hk, ho1, ho2, hbw⟩ := hrel
    by_cases hlt : k < ts.length
    · have hltz : (k : Int) < (ts.length : Int) := by omega
      obtain ⟨t, ht⟩ : ∃ t, ts[k]? = some t := ⟨_, List.getElem?_eq_getElem hlt⟩
      obtain ⟨g1, rfl, hg1, l0, l1, l2, l3⟩ := own_toks_at ho1 k t ht
      obtain ⟨g2, rfl, hg2, m0, m1, m2, m3⟩ := own_toks_at ho2 k t ht
      have HO1 := hide ho1
      have HO2 := hide ho2
      have HTK := hide ht
      clear ho1 ho2 ht
      go_wp2
      go_quiet (fail)
      go_wp2
      go_roundw
      case rel => exact ⟨k + 1, by go_num, by omega, unhide HO1, unhide HO2, ⟨hbw.os, hbw.tape, hbw.output, hbw.size, hbw.block⟩⟩
      case measure => simp [intOf]; omega
    · have hltz : ¬ (k : Int) < (ts.length : Int) := by omega
      go_wp2
      go_ret
      exact ⟨rfl, hbw⟩
end Go.Proofs.YtdemnolanlfblaaDoor
