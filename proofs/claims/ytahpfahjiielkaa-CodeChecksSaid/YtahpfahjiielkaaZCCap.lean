import Derived.Test.YtahpfahjiielkaaZCMem
set_option linter.all false
namespace Go.Proofs.Ytahpfahjiielkaa
section
open Go.RowKit
def CapOk (v : Value) : Prop := ∀ a n c, v = .slice a n c → n ≤ c
structure CapsIn (w : World) (ov kv : Value) : Prop where
  ops : CapOk ov
  kinds : ∀ b q n c, kv = .slice (some ⟨b, q, none⟩) n c → ∀ i tv, i < n → w.cell? ⟨b, q + i, none⟩ = some tv → CapOk tv
theorem CapsIn.same {B : Nat} {w w' : World} {ov kv : Value} {l : List (List Int)} (h : CapsIn w ov kv) (hk : KindsIn B w kv l) (hs : Same B w w') : CapsIn w' ov kv := by
  refine ⟨h.ops, fun b q n c e i tv hi hc => ?_⟩
  obtain ⟨a, cap, hv, h2⟩ := hk
  rw [hv] at e
  simp only [Value.slice.injEq] at e
  obtain ⟨rfl, rfl, rfl⟩ := e
  obtain ⟨b', o', ha, hb, _⟩ := h2 (by rintro rfl; simp at hi)
  simp only [Option.some.injEq, Addr.mk.injEq] at ha
  obtain ⟨rfl, rfl, _⟩ := ha
  exact h.kinds b q _ cap hv i tv hi ((hs b _ hb).symm.trans hc)
end
end Go.Proofs.Ytahpfahjiielkaa
