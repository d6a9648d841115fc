/- Contracts of the closure that lex.Scan defers: of a frame that panics with a fault, of one that returns. -/
import Derived.Test.YtdemnolanlfblaaDoorStep
namespace Go.Proofs.YtdemnolanlfblaaDoor
open Go.RowKit
theorem assert25 (v : Value) (w : World) : (Instr.typeAssert (.iface 25 v) 20 25 false).run Tryd.prog w = .ok v w := by kernel_rfl
set_option maxHeartbeats 1000000 in
theorem catch_panicking (N : Nat) (x : Value) (y z c q : Int) (older : List PanicEntry) (w : World)
    (h0 : w.cell? ⟨N, 0, none⟩ = some x) (f0 : w.frozen? ⟨N, 0, none⟩ = false)
    (h1 : w.cell? ⟨N + 1, 0, none⟩ = some (.int .i64 y)) (f1 : w.frozen? ⟨N + 1, 0, none⟩ = false) (h2 : w.cell? ⟨N + 1, 1, none⟩ = some (.int .i64 z)) (f2 : w.frozen? ⟨N + 1, 1, none⟩ = false) :
    CallsD Tryd.prog 7 #[.pointer (some ⟨N, 0, none⟩), .pointer (some ⟨N + 1, 0, none⟩)] (.panicking ({ v := .iface 25 (.agg #[.int .i64 c, .int .i64 q]), recovered := false } :: older)) w fun e u' w' =>
      e = .returned (.tuple #[]) ∧ u' = .panicking ({ v := .iface 25 (.agg #[.int .i64 c, .int .i64 q]), recovered := true } :: older) ∧ w' = (((w.setCell ⟨N, 0, none⟩ (.slice none 0 0)).setCell ⟨N + 1, 0, none⟩ (.int .i64 c)).setCell ⟨N + 1, 1, none⟩ (.int .i64 q)).drew := by
  have hta := assert25
  refine callsD_of_wpS Tryd.func7 rfl fun c₀ cs hu => ?_
  apply wpS_seq
  apply wpS_region
  simp [wpOpsS, go_sem, recoverD, hu, Tryd.ntmps7, Exit.thenS]
  refine wpS_of_wp ?_
  have htm : (#[Value.pointer (some { block := N, off := 0 }), Value.pointer (some { block := N + 1, off := 0 })] ++
          ((Array.replicate 6 undef).setIfInBounds 1
                (Value.iface 25 (Value.agg #[Value.int IntKind.i64 c, Value.int IntKind.i64 q]))).setIfInBounds
            0 (Value.iface 25 (Value.agg #[Value.int IntKind.i64 c, Value.int IntKind.i64 q]))) = #[Value.pointer (some { block := N, off := 0 }), Value.pointer (some { block := N + 1, off := 0 }), Value.iface 25 (Value.agg #[Value.int IntKind.i64 c, Value.int IntKind.i64 q]), Value.iface 25 (Value.agg #[Value.int IntKind.i64 c, Value.int IntKind.i64 q]), undef, undef, undef, undef] := by rfl
  rw [htm]
  clear htm
  go_wp2
  go_region
  exact ⟨rfl, _, rfl, _, results_none Tryd.results7 _ _ _, rfl, rfl, rfl⟩
set_option maxHeartbeats 1000000 in
theorem catch_idle (N : Nat) (w : World) :
    CallsD Tryd.prog 7 #[.pointer (some ⟨N, 0, none⟩), .pointer (some ⟨N + 1, 0, none⟩)] .returning w fun e u' w' => e = .returned (.tuple #[]) ∧ u' = .returning ∧ w' = w := by
  refine callsD_of_wpS Tryd.func7 rfl fun c₀ cs hu => ?_
  apply wpS_seq
  apply wpS_region
  simp [wpOpsS, go_sem, recoverD, hu, Tryd.ntmps7, Exit.thenS]
  refine wpS_of_wp ?_
  have htm : (#[Value.pointer (some { block := N, off := 0 }), Value.pointer (some { block := N + 1, off := 0 })] ++
          ((Array.replicate 6 undef).setIfInBounds 1 Value.nilIface).setIfInBounds 0 Value.nilIface) = #[Value.pointer (some { block := N, off := 0 }), Value.pointer (some { block := N + 1, off := 0 }), Value.nilIface, Value.nilIface, undef, undef, undef, undef] := by rfl
  rw [htm]
  clear htm
  have hcs : c₀ :: cs = { c₀ with mode := FrameMode.returning } :: cs := by rw [← hu]
  rw [hcs]
  go_wp2
  exact ⟨rfl, _, rfl, _, results_none Tryd.results7 _ _ _, rfl, rfl, rfl⟩
end Go.Proofs.YtdemnolanlfblaaDoor
