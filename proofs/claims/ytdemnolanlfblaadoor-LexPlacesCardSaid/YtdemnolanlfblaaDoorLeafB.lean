/- Contracts of the small functions of package lex that look at texts: words, signs, what ends a line. -/
import Derived.Test.YtdemnolanlfblaaDoorLeaf
namespace Go.Proofs.YtdemnolanlfblaaDoor
open Go.RowKit
def wordsL : List (List UInt8) := [[102, 117, 110, 99], [116, 121, 112, 101], [115, 116, 114, 117, 99, 116], [105, 110, 116, 101, 114, 102, 97, 99, 101], [105, 102], [101, 108, 115, 101], [102, 111, 114], [114, 101, 116, 117, 114, 110], [98, 114, 101, 97, 107], [115, 101, 108, 101, 99, 116], [99, 97, 115, 101], [100, 101, 102, 97, 117, 108, 116], [103, 111], [99, 108, 111, 115, 101], [112, 97, 110, 105, 99], [112, 114, 105, 110, 116], [110, 101, 119], [109, 97, 107, 101], [99, 104, 97, 110], [105, 110, 116], [98, 111, 111, 108], [110, 105, 108], [116, 114, 117, 101], [102, 97, 108, 115, 101]]
def signsL : List (List UInt8) := [[60, 45], [61, 61], [33, 61], [60, 61], [62, 61], [38, 38], [124, 124], [58, 61], [40], [41], [123], [125], [46], [44], [59], [58], [42], [43], [45], [47], [37], [60], [62], [61], [33]]
def endsL : List (List UInt8) := [[114, 101, 116, 117, 114, 110], [98, 114, 101, 97, 107], [105, 110, 116], [98, 111, 111, 108], [110, 105, 108], [116, 114, 117, 101], [102, 97, 108, 115, 101]]
def wordB (s : ByteArray) : Bool := wordsL.contains s.toList
def endsB (k : Int) (s : ByteArray) : Bool :=
  if k = 1 ∨ k = 2 then true else if k = 3 then s.toList == [41] || s.toList == [125] else endsL.contains s.toList
set_option maxHeartbeats 1000000 in
theorem word_any (s : ByteArray) (w : World) : Calls Tryd.prog 35 #[.string s] w fun e w' => e = .returned (.bool (wordB s)) ∧ w' = w := by
  go_enter Tryd.func35, Tryd.ntmps35
  go_wp2
  all_goals
    go_ret
    refine ⟨ret_bool ?_, rfl⟩
    simp_all [wordB, wordsL]
end Go.Proofs.YtdemnolanlfblaaDoor
