/- Contracts of the scanner's methods peek, giveUp, put. -/
import Derived.Test.YtdemnolanlfblaaDoorMem
import Derived.Test.YtdemnolanlfblaaDoorShelf
import Derived.Deep.RegionWith
import Derived.Deep.QuietTactic
import Derived.BigQuiet
import Derived.WalkSmall
namespace Go.Proofs.YtdemnolanlfblaaDoor
open Go.RowKit
/-- What package utf8 decodes at place i of a text. -/
def dec (s : ByteArray) (i : Nat) : Nat × Nat := Lib.decodeGo (s.extract i s.size)
theorem tabs_below {B : Nat} {w w' : World} (hB : 2 ≤ B) (h : Lib.Utf8Tabs 0 1 w) (hb : Below B w w') : Lib.Utf8Tabs 0 1 w' :=
  ⟨fun c hc => (hb.cell (p := ⟨0, c, none⟩) (by show 0 < B; omega)).trans (h.1 c hc),
   fun i hi => ⟨(hb.cell (p := ⟨1, 2 * i, none⟩) (by show 1 < B; omega)).trans (h.2 i hi).1, (hb.cell (p := ⟨1, 2 * i + 1, none⟩) (by show 1 < B; omega)).trans (h.2 i hi).2⟩⟩
theorem below_of_drew {B : Nat} {w w' : World} (h : Below B w.drew w') : Below B w w' := ⟨h.os, h.tape, h.output, h.size, h.block⟩
set_option maxHeartbeats 1000000 in
theorem peek_any (p : Nat) (s : ByteArray) (i : Nat) (o : Bool) (ts : List Tok) (v : Value) (w : World) (hst : St p s i o ts v w) (hi : i ≤ s.size) (hT : Lib.Utf8Tabs 0 1 w) :
    Calls Tryd.prog 18 #[.pointer (some ⟨p, 0, none⟩)] w fun e w' => e = .returned (.tuple #[.int .i32 (dec s i).1, .int .i64 (dec s i).2]) ∧ Below w.heap.size w w' := by
  obtain ⟨c0, c1, c2, c3⟩ := hst.cells
  have hi1 : (0 : Int) ≤ (i : Int) := by omega
  have hi2 : (i : Int) ≤ (s.size : Int) := by omega
  have hT' : Lib.Utf8Tabs 0 1 w.drew := ⟨hT.1, hT.2⟩
  have hC := hide (Tryd.utf8_DecodeRuneInString (s.extract i s.size) w.drew hT')
  clear hT hT'
  go_enter Tryd.func18, Tryd.ntmps18
  go_wp2
  go_region_with (go_at_call 14; refine (unhide hC).mono ?_; rintro e w' ⟨rfl, hb⟩)
  all_goals
    go_wp2
    go_ret2
    exact ⟨rfl, below_of_drew (by assumption)⟩
set_option maxHeartbeats 1000000 in
theorem giveUp_any (p : Nat) (s : ByteArray) (i : Nat) (o : Bool) (ts : List Tok) (v : Value) (w : World) (hst : St p s i o ts v w) (code : Int) :
    Calls Tryd.prog 30 #[.pointer (some ⟨p, 0, none⟩), .int .i64 code] w fun e w' => e = .panicked [{ v := .iface 25 (.agg #[.int .i64 code, .int .i64 i]), recovered := false }] ∧ w' = w := by
  obtain ⟨c0, c1, c2, c3⟩ := hst.cells
  go_enter Tryd.func30, Tryd.ntmps30
  go_wp2
  exact ⟨rfl, rfl, rfl⟩
end Go.Proofs.YtdemnolanlfblaaDoor
