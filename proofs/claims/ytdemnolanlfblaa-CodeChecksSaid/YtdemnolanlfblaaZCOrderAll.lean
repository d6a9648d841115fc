import Derived.Test.YtdemnolanlfblaaZCMake
import Derived.Test.YtdemnolanlfblaaZCOrderE
import Derived.Test.YtdemnolanlfblaaZCOrderI
import Derived.Test.YtdemnolanlfblaaZCOrderM
set_option linter.all false
namespace Go.Proofs.Ytdemnolanlfblaa
section
open Go.RowKit
def DeepLe (s : WS) : Prop := ∀ k, s.deep.getD k 0 ≤ 1200
theorem lead_le {s : WS} (h : DeepLe s) (k : Nat) (d : Int) : DeepLe (leadS s k d) := by
  unfold leadS
  split
  · exact h
  · rename_i hk
    split
    · intro j
      show (s.deep.set k d).getD j 0 ≤ 1200
      by_cases hj : j = k
      · subst hj; rw [getD_set_self _ _ _ (by omega)]; omega
      · rw [getD_set_other _ _ _ _ hj]; exact h j
    · split <;> exact h
theorem leads_le {s : WS} (h : DeepLe s) (l : List (Nat × Int)) : DeepLe (leadsS s l) := by
  induction l generalizing s with
  | nil => exact h
  | cons p r ih => exact ih (lead_le h p.1 p.2)
theorem order_le {c : CodeD} {x2 : Int} {s : WS} {k : Nat} (h : DeepLe s) : DeepLe (orderS c x2 s k) := by
  unfold orderS
  split
  · exact h
  · split
    · exact h
    · split
      · split
        · exact h
        · exact leads_le h _
      · split
        · exact h
        · refine leads_le ?_ _
          split <;> exact h
theorem order_any (p g B C : Nat) (a1 a2 : Option Addr) (c1 c2 cap : Nat) (kv rv : Value) (c : CodeD) (s : WS) (w : World) (x1 x2 x3 : Int) (ax : Option Addr) (nx cx : Nat) (k : Nat) (x : Int) (hx : x = k) (hst : WSt p g B (.slice a1 c.ops.length c1) (.slice a2 c.fns.length c2) kv cap s rv w) (hC : C ≤ p) (hO : OpsIn C w (.slice a1 c.ops.length c1) c.ops) (hF : FnsIn C w (.slice a2 c.fns.length c2) c.fns) (hsize : SizeOk c) (hok : RangeOk c) (hk : k ∈ s.row) (hw : WOk c.ops.length s) (hle : DeepLe s) :
    Calls Try.prog 34 #[.pointer (some ⟨p, 0, none⟩), .agg #[.int .i64 x1, .int .i64 x2, .int .i64 x3, .slice ax nx cx], .int .i64 x] w (WPost p g B (.slice a1 c.ops.length c1) (.slice a2 c.fns.length c2) kv cap (orderS c x2 s k) w) := by
  subst hx
  obtain ⟨hlt, h0⟩ := hw.row k hk
  obtain ⟨o, ho⟩ : ∃ o, c.ops[k]? = some o := ⟨_, List.getElem?_eq_getElem hlt⟩
  have hdb : 0 ≤ s.deep.getD k 0 ∧ s.deep.getD k 0 ≤ 1200 := ⟨h0, hle k⟩
  have htk : ∀ f ∈ c.fns, f.takes.length ≤ 1200 := fun f hf => by have h1 := hok.fns f hf; have := h1.takes; have := h1.slots; have := h1.params; omega
  have hsz := hsize.1
  have h1 := hok.ops
  by_cases h29 : o.d = 29
  · exact order_case p g B C a1 c1 cap _ kv rv c s w x1 x2 x3 ax nx cx k o _ hst hC hO h1 hsz ho hw rfl hdb (Or.inl h29)
  by_cases h30 : o.d = 30
  · exact order_case p g B C a1 c1 cap _ kv rv c s w x1 x2 x3 ax nx cx k o _ hst hC hO h1 hsz ho hw rfl hdb (Or.inr h30)
  by_cases h28 : o.d = 28
  · exact order_select p g B C a1 c1 cap _ kv rv c s w x1 x2 x3 ax nx cx k o _ hst hC hO h1 hsz ho hw rfl hdb h28
  by_cases hf : s.deep.getD k 0 < takesN o
  · exact order_few p g B C a1 c1 cap _ kv rv c s w x1 x2 x3 ax nx cx k o _ hst hC hO h1 hsz ho hw rfl hdb h29 h30 h28 hf
  by_cases h5 : o.d = 5
  · exact order_make p g B C a1 a2 c1 c2 cap kv rv c s w x1 x2 x3 ax nx cx k o _ hst hC hO hF hsize.2.1 h1 hsz ho hw rfl hdb h5 htk
  by_cases h20 : o.d = 20
  · exact order_end20 p g B C a1 c1 cap _ kv rv c s w x1 x2 x3 ax nx cx k o _ hst hC hO h1 hsz ho hw rfl hdb h29 h30 h28 hf h20
  by_cases h22 : o.d = 22
  · exact order_end22 p g B C a1 c1 cap _ kv rv c s w x1 x2 x3 ax nx cx k o _ hst hC hO h1 hsz ho hw rfl hdb h29 h30 h28 hf h22
  by_cases h16 : o.d = 16
  · exact order_jump p g B C a1 c1 cap _ kv rv c s w x1 x2 x3 ax nx cx k o _ hst hC hO h1 hsz ho hw rfl hdb h29 h30 h28 hf h16
  by_cases h17 : o.d = 17
  · exact order_unless p g B C a1 c1 cap _ kv rv c s w x1 x2 x3 ax nx cx k o _ hst hC hO h1 hsz ho hw rfl hdb h29 h30 h28 hf h17
  by_cases h18 : o.d = 18
  · exact order_short p g B C a1 c1 cap _ kv rv c s w x1 x2 x3 ax nx cx k o _ hst hC hO h1 hsz ho hw rfl hdb h29 h30 h28 hf h18
  by_cases h2 : o.d = 2
  · by_cases hs : x2 ≤ o.a
    · exact order_slot2bad p g B C a1 c1 cap _ kv rv c s w x1 x2 x3 ax nx cx k o _ hst hC hO h1 hsz ho hw rfl hdb h29 h30 h28 hf h2 hs
    · exact order_slot2 p g B C a1 c1 cap _ kv rv c s w x1 x2 x3 ax nx cx k o _ hst hC hO h1 hsz ho hw rfl hdb h29 h30 h28 hf h2 hs
  by_cases h3 : o.d = 3
  · by_cases hs : x2 ≤ o.a
    · exact order_slot3bad p g B C a1 c1 cap _ kv rv c s w x1 x2 x3 ax nx cx k o _ hst hC hO h1 hsz ho hw rfl hdb h29 h30 h28 hf h3 hs
    · exact order_slot3 p g B C a1 c1 cap _ kv rv c s w x1 x2 x3 ax nx cx k o _ hst hC hO h1 hsz ho hw rfl hdb h29 h30 h28 hf h3 hs
  by_cases h4 : o.d = 4
  · by_cases hs : x2 ≤ o.a
    · exact order_slot4bad p g B C a1 c1 cap _ kv rv c s w x1 x2 x3 ax nx cx k o _ hst hC hO h1 hsz ho hw rfl hdb h29 h30 h28 hf h4 hs
    · exact order_slot4 p g B C a1 c1 cap _ kv rv c s w x1 x2 x3 ax nx cx k o _ hst hC hO h1 hsz ho hw rfl hdb h29 h30 h28 hf h4 hs
  exact order_rest p g B C a1 c1 cap _ kv rv c s w x1 x2 x3 ax nx cx k o _ hst hC hO h1 hsz ho hw rfl hdb h29 h30 h28 hf h2 h3 h4 h5 h20 h22 h16 h17 h18
end
end Go.Proofs.Ytdemnolanlfblaa
