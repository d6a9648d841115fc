/- Contracts of the scanner's methods endLine and take. -/
import Derived.Test.YtdemnolanlfblaaDoorPutB
namespace Go.Proofs.YtdemnolanlfblaaDoor
open Go.RowKit
def semi (i : Nat) : Tok := ⟨3, ⟨#[59]⟩, 0, i⟩
def ending (o : Bool) (i : Nat) : List Tok := if o then [semi i] else []
theorem semi_no : endsB 3 ⟨#[59]⟩ = false := by simp [endsB, ByteArray.toList_eq]
set_option maxHeartbeats 1000000 in
theorem endLine_any (p : Nat) (s : ByteArray) (i : Nat) (o : Bool) (ts : List Tok) (v : Value) (w : World) (hst : St p s i o ts v w) (hl : ts.length ≤ 100000) :
    Calls Tryd.prog 9 #[.pointer (some ⟨p, 0, none⟩)] w fun e w' => e = .returned (.tuple #[]) ∧ ∃ v', St p s i false (ts ++ ending o i) v' w' ∧ Below p w w' := by
  obtain ⟨c0, c1, c2, c3⟩ := hst.cells
  cases o with
  | true =>
    go_enter Tryd.func9, Tryd.ntmps9
    go_wp2_with (go_at_call 27; refine (put_any p s i true ts v w hst hl _ _ _ _).mono ?_; rintro e w' ⟨rfl, v', hst', hb'⟩)
    go_end0
    rw [semi_no] at hst'
    exact ⟨rfl, v', hst', hb'⟩
  | false =>
    go_enter Tryd.func9, Tryd.ntmps9
    go_wp2
    go_end0
    refine ⟨rfl, v, ?_, Below.refl _ _⟩
    simpa [ending] using hst
set_option maxHeartbeats 1000000 in
theorem clone_any (s : ByteArray) (w : World) (hs : s.size ≤ 6000) : Calls Tryd.prog 40 #[.string s] w fun e w' => e = .returned (.string s) ∧ Below w.heap.size w w' := by
  have hC := hide (Tryd.stringslite_Clone s w (by omega))
  go_enter Tryd.func40, Tryd.ntmps40
  go_wp2_with (go_at_call 46; refine (unhide hC).mono ?_; rintro e w' ⟨rfl, hb⟩)
  go_ret
  exact ⟨rfl, hb⟩
set_option maxHeartbeats 1000000 in
theorem take_any (p : Nat) (s : ByteArray) (i : Nat) (o : Bool) (ts : List Tok) (v : Value) (w : World) (hst : St p s i o ts v w) (hl : ts.length ≤ 100000) (k n : Int) (x : ByteArray) (hx : x.size ≤ 6000) (hi : i ≤ 6000) :
    Calls Tryd.prog 33 #[.pointer (some ⟨p, 0, none⟩), .int .i64 k, .string x, .int .i64 n] w fun e w' => e = .returned (.tuple #[]) ∧ ∃ v', St p s (i + x.size) (endsB k x) (ts ++ [⟨k, x, n, i⟩]) v' w' ∧ Below p w w' := by
  obtain ⟨c0, c1, c2, c3⟩ := hst.cells
  have hlt := hst.lt
  have hC := hide (clone_any x w.drew hx)
  go_enter Tryd.func33, Tryd.ntmps33
  go_wp2
  go_region_with (first
    | (go_at_call 40; refine (unhide hC).mono ?_; rintro e w1 ⟨rfl, hb1⟩; have hst1 := hst.drew.below hb1; obtain ⟨d0, d1, d2, d3⟩ := hst1.cells)
    | (go_at_call 27; refine (put_any p s i o ts v _ hst1 hl _ _ _ _).mono ?_; rintro e w2 ⟨rfl, v2, hst2, hb2⟩; obtain ⟨e0, e1, e2, e3⟩ := hst2.cells; have hf1 := hst2.free 1))
  all_goals
    go_wp2
    go_end0
    refine ⟨rfl, v2, hst2.setAt _ (by omega), ?_⟩
    exact ((below_of_drew (hb1.mono (by simp; omega))).trans hb2).setCell (Nat.le_refl _) _
end Go.Proofs.YtdemnolanlfblaaDoor
