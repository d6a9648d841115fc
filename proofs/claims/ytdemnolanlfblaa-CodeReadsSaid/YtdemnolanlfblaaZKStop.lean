import Derived.Test.YtdemnolanlfblaaZKStopS
set_option linter.all false
namespace Go.Proofs.Ytdemnolanlfblaa
section
open Go.RowKit
set_option maxRecDepth 100000 in
set_option maxHeartbeats 8000000 in
theorem stop_other {w : World} {B b q c1 no : Nat} {a2 a3 : Option Addr} {nf c2 nk c3 k : Nat} {fa fb : Value} {rt rp : Int} (od oa ob : Int)
    (hb : b < B) (hB : B ≤ w.heap.size) (v0 : w.cell? ⟨b, q + k * 3, none⟩ = some (.int .i64 od)) (v1 : w.cell? ⟨b, q + k * 3 + 1, none⟩ = some (.int .i64 oa)) (v2 : w.cell? ⟨b, q + k * 3 + 2, none⟩ = some (.int .i64 ob)) (hk : k < no) (hno : no ≤ 8000)
    (hrt : 0 ≤ rt) (hrt2 : rt ≤ 2) (hrp : 0 ≤ rp) (hrp2 : rp ≤ 1) (n29 : (od == 29) = false) (n30 : (od == 30) = false) (n28 : (od == 28) = false) (n20 : (od == 20) = false) (n22 : (od == 22) = false) (n16 : (od == 16) = false) (n17 : (od == 17) = false) (n18 : (od == 18) = false) (n2 : (od == 2) = false) (n3 : (od == 3) = false) (n4 : (od == 4) = false) (n5 : (od == 5) = false) :
    Calls Try.prog 50 #[.agg #[.slice (some ⟨b, q, none⟩) no c1, .slice a2 nf c2, .slice a3 nk c3], .agg #[fa, fb, .int .i64 rt, .bool false, .int .i64 rp], .int .i64 (k : Int)] w (StopPost ⟨false, rt, 0, [((k : Int) + 1, rp - (rt))]⟩ w) := by
  have hkz : (k : Int) < (no : Int) := by omega
  have hbz : b < w.heap.size := by omega
  have hb1 : b < w.heap.size + 1 := by omega
  have hb2 : b < w.heap.size + 1 + 1 := by omega
  have hb3 : b < w.heap.size + 1 + 1 + 1 := by omega
  go_enter Try.func50, Try.ntmps50
  go_wp2_with (first
    | (at_builtin; refine wpList_one_own 88 95 (.agg #[.int .i64 0, .int .i64 0]) 2 16 Try.underlying88 stepInfo rfl (by omega) (by omega) rfl (.tmp 96) (.tmp 98) rfl (w.heap.size + 6) (.slice none 0 0) 0 [] rfl (World.ownsRow_nil _ _ _ _) (w.heap.size + 1 + 1 + 1 + 1 + 1 + 1) [.int .i64 ((k : Int) + 1), .int .i64 (rp - (rt))] (by first | rfl | (simp; done)) rfl (fun j u hj => by match j, hj with | 0, hj => simp at hj; subst hj; simp [go_sem] | 1, hj => simp at hj; subst hj; simp [go_sem]) (by simp [Value.oneCell']) (by omega) (by simp) ?_; intro v9 w9 hown9 hgrow9 hloc9; obtain ⟨hr9, hs9, _, hw9⟩ := heap7 w _ _ _ _ _ _ _; have hB9 := below_grown0 (v := .slice none 0 0) rfl hgrow9; obtain ⟨p0, p1, p2, p3, pf⟩ := cells4f (bx_below hs9 hB9); obtain ⟨r0, r1, r2, r3, rf⟩ := cells4f (bx_below hr9 hB9); have pf3 := pf 3; have rf0 := rf 0; have rf1 := rf 1; have rf2 := rf 2; have rf3 := rf 3; obtain ⟨va9, vc9, hv9⟩ := own_form hown9; subst hv9; have HOWN := hide hown9; have HBW := hide (hw9.trans (hB9.mono hw9.size)); clear pf rf hown9 hgrow9 hloc9 hr9 hs9 hw9 hB9))
  refine bodyPost_ret (v := .agg #[.bool false, .int .i64 (rt), .int .i64 (0), .slice va9 1 vc9]) (by simp [results, Try.results50, go_sem, *]) rfl ?_
  exact stop_fin (l := [((k : Int) + 1, rp - (rt))]) (unhide HBW) (by omega) (by omega) (unhide HOWN)
set_option maxRecDepth 100000 in
set_option maxHeartbeats 8000000 in
theorem stop_19 {w : World} {B b q c1 no : Nat} {a2 a3 : Option Addr} {nf c2 nk c3 k : Nat} {fa fb : Value} {rt rp : Int} (oa ob : Int)
    (hb : b < B) (hB : B ≤ w.heap.size) (v0 : w.cell? ⟨b, q + k * 3, none⟩ = some (.int .i64 19)) (v1 : w.cell? ⟨b, q + k * 3 + 1, none⟩ = some (.int .i64 oa)) (v2 : w.cell? ⟨b, q + k * 3 + 2, none⟩ = some (.int .i64 ob)) (hk : k < no) (hno : no ≤ 8000)
    (hrt : 0 ≤ rt) (hrt2 : rt ≤ 2) (hrp : 0 ≤ rp) (hrp2 : rp ≤ 1) (ha : 0 ≤ oa) (ha2 : oa ≤ 1200) :
    Calls Try.prog 50 #[.agg #[.slice (some ⟨b, q, none⟩) no c1, .slice a2 nf c2, .slice a3 nk c3], .agg #[fa, fb, .int .i64 rt, .bool true, .int .i64 rp], .int .i64 (k : Int)] w (StopPost ⟨false, rt + oa, 0, [((k : Int) + 1, rp - (rt + oa))]⟩ w) := by
  have hkz : (k : Int) < (no : Int) := by omega
  have hbz : b < w.heap.size := by omega
  have hb1 : b < w.heap.size + 1 := by omega
  have hb2 : b < w.heap.size + 1 + 1 := by omega
  have hb3 : b < w.heap.size + 1 + 1 + 1 := by omega
  go_enter Try.func50, Try.ntmps50
  go_wp2_with (first
    | (at_builtin; refine wpList_one_own 88 95 (.agg #[.int .i64 0, .int .i64 0]) 2 16 Try.underlying88 stepInfo rfl (by omega) (by omega) rfl (.tmp 96) (.tmp 98) rfl (w.heap.size + 6) (.slice none 0 0) 0 [] rfl (World.ownsRow_nil _ _ _ _) (w.heap.size + 1 + 1 + 1 + 1 + 1 + 1) [.int .i64 ((k : Int) + 1), .int .i64 (rp - (rt + oa))] (by first | rfl | (simp; done)) rfl (fun j u hj => by match j, hj with | 0, hj => simp at hj; subst hj; simp [go_sem] | 1, hj => simp at hj; subst hj; simp [go_sem]) (by simp [Value.oneCell']) (by omega) (by simp) ?_; intro v9 w9 hown9 hgrow9 hloc9; obtain ⟨hr9, hs9, _, hw9⟩ := heap7 w _ _ _ _ _ _ _; have hB9 := below_grown0 (v := .slice none 0 0) rfl hgrow9; obtain ⟨p0, p1, p2, p3, pf⟩ := cells4f (bx_below hs9 hB9); obtain ⟨r0, r1, r2, r3, rf⟩ := cells4f (bx_below hr9 hB9); have pf3 := pf 3; have rf0 := rf 0; have rf1 := rf 1; have rf2 := rf 2; have rf3 := rf 3; obtain ⟨va9, vc9, hv9⟩ := own_form hown9; subst hv9; have HOWN := hide hown9; have HBW := hide (hw9.trans (hB9.mono hw9.size)); clear pf rf hown9 hgrow9 hloc9 hr9 hs9 hw9 hB9))
  refine bodyPost_ret (v := .agg #[.bool false, .int .i64 (rt + oa), .int .i64 (0), .slice va9 1 vc9]) (by simp [results, Try.results50, go_sem, *]) rfl ?_
  exact stop_fin (l := [((k : Int) + 1, rp - (rt + oa))]) (unhide HBW) (by omega) (by omega) (unhide HOWN)
set_option maxRecDepth 100000 in
set_option maxHeartbeats 8000000 in
theorem stop_27 {w : World} {B b q c1 no : Nat} {a2 a3 : Option Addr} {nf c2 nk c3 k : Nat} {fa fb : Value} {rt rp : Int} (oa ob : Int)
    (hb : b < B) (hB : B ≤ w.heap.size) (v0 : w.cell? ⟨b, q + k * 3, none⟩ = some (.int .i64 27)) (v1 : w.cell? ⟨b, q + k * 3 + 1, none⟩ = some (.int .i64 oa)) (v2 : w.cell? ⟨b, q + k * 3 + 2, none⟩ = some (.int .i64 ob)) (hk : k < no) (hno : no ≤ 8000)
    (hrt : 0 ≤ rt) (hrt2 : rt ≤ 2) (hrp : 0 ≤ rp) (hrp2 : rp ≤ 1) (ha : 0 ≤ oa) (ha2 : oa ≤ 1200) :
    Calls Try.prog 50 #[.agg #[.slice (some ⟨b, q, none⟩) no c1, .slice a2 nf c2, .slice a3 nk c3], .agg #[fa, fb, .int .i64 rt, .bool true, .int .i64 rp], .int .i64 (k : Int)] w (StopPost ⟨false, rt + oa, 0, [((k : Int) + 1, rp - (rt + oa))]⟩ w) := by
  have hkz : (k : Int) < (no : Int) := by omega
  have hbz : b < w.heap.size := by omega
  have hb1 : b < w.heap.size + 1 := by omega
  have hb2 : b < w.heap.size + 1 + 1 := by omega
  have hb3 : b < w.heap.size + 1 + 1 + 1 := by omega
  go_enter Try.func50, Try.ntmps50
  go_wp2_with (first
    | (at_builtin; refine wpList_one_own 88 95 (.agg #[.int .i64 0, .int .i64 0]) 2 16 Try.underlying88 stepInfo rfl (by omega) (by omega) rfl (.tmp 96) (.tmp 98) rfl (w.heap.size + 6) (.slice none 0 0) 0 [] rfl (World.ownsRow_nil _ _ _ _) (w.heap.size + 1 + 1 + 1 + 1 + 1 + 1) [.int .i64 ((k : Int) + 1), .int .i64 (rp - (rt + oa))] (by first | rfl | (simp; done)) rfl (fun j u hj => by match j, hj with | 0, hj => simp at hj; subst hj; simp [go_sem] | 1, hj => simp at hj; subst hj; simp [go_sem]) (by simp [Value.oneCell']) (by omega) (by simp) ?_; intro v9 w9 hown9 hgrow9 hloc9; obtain ⟨hr9, hs9, _, hw9⟩ := heap7 w _ _ _ _ _ _ _; have hB9 := below_grown0 (v := .slice none 0 0) rfl hgrow9; obtain ⟨p0, p1, p2, p3, pf⟩ := cells4f (bx_below hs9 hB9); obtain ⟨r0, r1, r2, r3, rf⟩ := cells4f (bx_below hr9 hB9); have pf3 := pf 3; have rf0 := rf 0; have rf1 := rf 1; have rf2 := rf 2; have rf3 := rf 3; obtain ⟨va9, vc9, hv9⟩ := own_form hown9; subst hv9; have HOWN := hide hown9; have HBW := hide (hw9.trans (hB9.mono hw9.size)); clear pf rf hown9 hgrow9 hloc9 hr9 hs9 hw9 hB9))
  refine bodyPost_ret (v := .agg #[.bool false, .int .i64 (rt + oa), .int .i64 (0), .slice va9 1 vc9]) (by simp [results, Try.results50, go_sem, *]) rfl ?_
  exact stop_fin (l := [((k : Int) + 1, rp - (rt + oa))]) (unhide HBW) (by omega) (by omega) (unhide HOWN)
set_option maxRecDepth 100000 in
set_option maxHeartbeats 8000000 in
theorem stop_29 {w : World} {B b q c1 no : Nat} {a2 a3 : Option Addr} {nf c2 nk c3 k : Nat} {fa fb : Value} {rt rp : Int} (oa ob : Int)
    (hb : b < B) (hB : B ≤ w.heap.size) (v0 : w.cell? ⟨b, q + k * 3, none⟩ = some (.int .i64 29)) (v1 : w.cell? ⟨b, q + k * 3 + 1, none⟩ = some (.int .i64 oa)) (v2 : w.cell? ⟨b, q + k * 3 + 2, none⟩ = some (.int .i64 ob)) (hk : k < no) (hno : no ≤ 8000)
    (hrt : 0 ≤ rt) (hrt2 : rt ≤ 2) (hrp : 0 ≤ rp) (hrp2 : rp ≤ 1) :
    Calls Try.prog 50 #[.agg #[.slice (some ⟨b, q, none⟩) no c1, .slice a2 nf c2, .slice a3 nk c3], .agg #[fa, fb, .int .i64 rt, .bool false, .int .i64 rp], .int .i64 (k : Int)] w (StopPost ⟨true, rt, 0, [((k : Int) + 1, rp - (rt))]⟩ w) := by
  have hkz : (k : Int) < (no : Int) := by omega
  have hbz : b < w.heap.size := by omega
  have hb1 : b < w.heap.size + 1 := by omega
  have hb2 : b < w.heap.size + 1 + 1 := by omega
  have hb3 : b < w.heap.size + 1 + 1 + 1 := by omega
  go_enter Try.func50, Try.ntmps50
  go_wp2_with (first
    | (at_builtin; refine wpList_one_own 88 95 (.agg #[.int .i64 0, .int .i64 0]) 2 16 Try.underlying88 stepInfo rfl (by omega) (by omega) rfl (.tmp 96) (.tmp 98) rfl (w.heap.size + 6) (.slice none 0 0) 0 [] rfl (World.ownsRow_nil _ _ _ _) (w.heap.size + 1 + 1 + 1 + 1 + 1 + 1) [.int .i64 ((k : Int) + 1), .int .i64 (rp - (rt))] (by first | rfl | (simp; done)) rfl (fun j u hj => by match j, hj with | 0, hj => simp at hj; subst hj; simp [go_sem] | 1, hj => simp at hj; subst hj; simp [go_sem]) (by simp [Value.oneCell']) (by omega) (by simp) ?_; intro v9 w9 hown9 hgrow9 hloc9; obtain ⟨hr9, hs9, _, hw9⟩ := heap7 w _ _ _ _ _ _ _; have hB9 := below_grown0 (v := .slice none 0 0) rfl hgrow9; obtain ⟨p0, p1, p2, p3, pf⟩ := cells4f (bx_below hs9 hB9); obtain ⟨r0, r1, r2, r3, rf⟩ := cells4f (bx_below hr9 hB9); have pf3 := pf 3; have rf0 := rf 0; have rf1 := rf 1; have rf2 := rf 2; have rf3 := rf 3; obtain ⟨va9, vc9, hv9⟩ := own_form hown9; subst hv9; have HOWN := hide hown9; have HBW := hide (hw9.trans (hB9.mono hw9.size)); clear pf rf hown9 hgrow9 hloc9 hr9 hs9 hw9 hB9))
  refine bodyPost_ret (v := .agg #[.bool true, .int .i64 (rt), .int .i64 (0), .slice va9 1 vc9]) (by simp [results, Try.results50, go_sem, *]) rfl ?_
  exact stop_fin (l := [((k : Int) + 1, rp - (rt))]) (unhide HBW) (by omega) (by omega) (unhide HOWN)
set_option maxRecDepth 100000 in
set_option maxHeartbeats 8000000 in
theorem stop_30 {w : World} {B b q c1 no : Nat} {a2 a3 : Option Addr} {nf c2 nk c3 k : Nat} {fa fb : Value} {rt rp : Int} (oa ob : Int)
    (hb : b < B) (hB : B ≤ w.heap.size) (v0 : w.cell? ⟨b, q + k * 3, none⟩ = some (.int .i64 30)) (v1 : w.cell? ⟨b, q + k * 3 + 1, none⟩ = some (.int .i64 oa)) (v2 : w.cell? ⟨b, q + k * 3 + 2, none⟩ = some (.int .i64 ob)) (hk : k < no) (hno : no ≤ 8000)
    (hrt : 0 ≤ rt) (hrt2 : rt ≤ 2) (hrp : 0 ≤ rp) (hrp2 : rp ≤ 1) :
    Calls Try.prog 50 #[.agg #[.slice (some ⟨b, q, none⟩) no c1, .slice a2 nf c2, .slice a3 nk c3], .agg #[fa, fb, .int .i64 rt, .bool false, .int .i64 rp], .int .i64 (k : Int)] w (StopPost ⟨true, rt, 0, [((k : Int) + 1, rp - (rt))]⟩ w) := by
  have hkz : (k : Int) < (no : Int) := by omega
  have hbz : b < w.heap.size := by omega
  have hb1 : b < w.heap.size + 1 := by omega
  have hb2 : b < w.heap.size + 1 + 1 := by omega
  have hb3 : b < w.heap.size + 1 + 1 + 1 := by omega
  go_enter Try.func50, Try.ntmps50
  go_wp2_with (first
    | (at_builtin; refine wpList_one_own 88 95 (.agg #[.int .i64 0, .int .i64 0]) 2 16 Try.underlying88 stepInfo rfl (by omega) (by omega) rfl (.tmp 96) (.tmp 98) rfl (w.heap.size + 6) (.slice none 0 0) 0 [] rfl (World.ownsRow_nil _ _ _ _) (w.heap.size + 1 + 1 + 1 + 1 + 1 + 1) [.int .i64 ((k : Int) + 1), .int .i64 (rp - (rt))] (by first | rfl | (simp; done)) rfl (fun j u hj => by match j, hj with | 0, hj => simp at hj; subst hj; simp [go_sem] | 1, hj => simp at hj; subst hj; simp [go_sem]) (by simp [Value.oneCell']) (by omega) (by simp) ?_; intro v9 w9 hown9 hgrow9 hloc9; obtain ⟨hr9, hs9, _, hw9⟩ := heap7 w _ _ _ _ _ _ _; have hB9 := below_grown0 (v := .slice none 0 0) rfl hgrow9; obtain ⟨p0, p1, p2, p3, pf⟩ := cells4f (bx_below hs9 hB9); obtain ⟨r0, r1, r2, r3, rf⟩ := cells4f (bx_below hr9 hB9); have pf3 := pf 3; have rf0 := rf 0; have rf1 := rf 1; have rf2 := rf 2; have rf3 := rf 3; obtain ⟨va9, vc9, hv9⟩ := own_form hown9; subst hv9; have HOWN := hide hown9; have HBW := hide (hw9.trans (hB9.mono hw9.size)); clear pf rf hown9 hgrow9 hloc9 hr9 hs9 hw9 hB9))
  refine bodyPost_ret (v := .agg #[.bool true, .int .i64 (rt), .int .i64 (0), .slice va9 1 vc9]) (by simp [results, Try.results50, go_sem, *]) rfl ?_
  exact stop_fin (l := [((k : Int) + 1, rp - (rt))]) (unhide HBW) (by omega) (by omega) (unhide HOWN)
set_option maxRecDepth 100000 in
set_option maxHeartbeats 8000000 in
theorem stop_2 {w : World} {B b q c1 no : Nat} {a2 a3 : Option Addr} {nf c2 nk c3 k : Nat} {fa fb : Value} {rt rp : Int} (oa ob : Int)
    (hb : b < B) (hB : B ≤ w.heap.size) (v0 : w.cell? ⟨b, q + k * 3, none⟩ = some (.int .i64 2)) (v1 : w.cell? ⟨b, q + k * 3 + 1, none⟩ = some (.int .i64 oa)) (v2 : w.cell? ⟨b, q + k * 3 + 2, none⟩ = some (.int .i64 ob)) (hk : k < no) (hno : no ≤ 8000)
    (hrt : 0 ≤ rt) (hrt2 : rt ≤ 2) (hrp : 0 ≤ rp) (hrp2 : rp ≤ 1) (ha : 0 ≤ oa) (ha2 : oa ≤ 1200) :
    Calls Try.prog 50 #[.agg #[.slice (some ⟨b, q, none⟩) no c1, .slice a2 nf c2, .slice a3 nk c3], .agg #[fa, fb, .int .i64 rt, .bool false, .int .i64 rp], .int .i64 (k : Int)] w (StopPost ⟨false, rt, oa + 1, [((k : Int) + 1, rp - (rt))]⟩ w) := by
  have hkz : (k : Int) < (no : Int) := by omega
  have hbz : b < w.heap.size := by omega
  have hb1 : b < w.heap.size + 1 := by omega
  have hb2 : b < w.heap.size + 1 + 1 := by omega
  have hb3 : b < w.heap.size + 1 + 1 + 1 := by omega
  go_enter Try.func50, Try.ntmps50
  go_wp2_with (first
    | (at_builtin; refine wpList_one_own 88 95 (.agg #[.int .i64 0, .int .i64 0]) 2 16 Try.underlying88 stepInfo rfl (by omega) (by omega) rfl (.tmp 96) (.tmp 98) rfl (w.heap.size + 6) (.slice none 0 0) 0 [] rfl (World.ownsRow_nil _ _ _ _) (w.heap.size + 1 + 1 + 1 + 1 + 1 + 1) [.int .i64 ((k : Int) + 1), .int .i64 (rp - (rt))] (by first | rfl | (simp; done)) rfl (fun j u hj => by match j, hj with | 0, hj => simp at hj; subst hj; simp [go_sem] | 1, hj => simp at hj; subst hj; simp [go_sem]) (by simp [Value.oneCell']) (by omega) (by simp) ?_; intro v9 w9 hown9 hgrow9 hloc9; obtain ⟨hr9, hs9, _, hw9⟩ := heap7 w _ _ _ _ _ _ _; have hB9 := below_grown0 (v := .slice none 0 0) rfl hgrow9; obtain ⟨p0, p1, p2, p3, pf⟩ := cells4f (bx_below hs9 hB9); obtain ⟨r0, r1, r2, r3, rf⟩ := cells4f (bx_below hr9 hB9); have pf3 := pf 3; have rf0 := rf 0; have rf1 := rf 1; have rf2 := rf 2; have rf3 := rf 3; obtain ⟨va9, vc9, hv9⟩ := own_form hown9; subst hv9; have HOWN := hide hown9; have HBW := hide (hw9.trans (hB9.mono hw9.size)); clear pf rf hown9 hgrow9 hloc9 hr9 hs9 hw9 hB9))
  refine bodyPost_ret (v := .agg #[.bool false, .int .i64 (rt), .int .i64 (oa + 1), .slice va9 1 vc9]) (by simp [results, Try.results50, go_sem, *]) rfl ?_
  exact stop_fin (l := [((k : Int) + 1, rp - (rt))]) (unhide HBW) (by omega) (by omega) (unhide HOWN)
set_option maxRecDepth 100000 in
set_option maxHeartbeats 8000000 in
theorem stop_3 {w : World} {B b q c1 no : Nat} {a2 a3 : Option Addr} {nf c2 nk c3 k : Nat} {fa fb : Value} {rt rp : Int} (oa ob : Int)
    (hb : b < B) (hB : B ≤ w.heap.size) (v0 : w.cell? ⟨b, q + k * 3, none⟩ = some (.int .i64 3)) (v1 : w.cell? ⟨b, q + k * 3 + 1, none⟩ = some (.int .i64 oa)) (v2 : w.cell? ⟨b, q + k * 3 + 2, none⟩ = some (.int .i64 ob)) (hk : k < no) (hno : no ≤ 8000)
    (hrt : 0 ≤ rt) (hrt2 : rt ≤ 2) (hrp : 0 ≤ rp) (hrp2 : rp ≤ 1) (ha : 0 ≤ oa) (ha2 : oa ≤ 1200) :
    Calls Try.prog 50 #[.agg #[.slice (some ⟨b, q, none⟩) no c1, .slice a2 nf c2, .slice a3 nk c3], .agg #[fa, fb, .int .i64 rt, .bool false, .int .i64 rp], .int .i64 (k : Int)] w (StopPost ⟨false, rt, oa + 1, [((k : Int) + 1, rp - (rt))]⟩ w) := by
  have hkz : (k : Int) < (no : Int) := by omega
  have hbz : b < w.heap.size := by omega
  have hb1 : b < w.heap.size + 1 := by omega
  have hb2 : b < w.heap.size + 1 + 1 := by omega
  have hb3 : b < w.heap.size + 1 + 1 + 1 := by omega
  go_enter Try.func50, Try.ntmps50
  go_wp2_with (first
    | (at_builtin; refine wpList_one_own 88 95 (.agg #[.int .i64 0, .int .i64 0]) 2 16 Try.underlying88 stepInfo rfl (by omega) (by omega) rfl (.tmp 96) (.tmp 98) rfl (w.heap.size + 6) (.slice none 0 0) 0 [] rfl (World.ownsRow_nil _ _ _ _) (w.heap.size + 1 + 1 + 1 + 1 + 1 + 1) [.int .i64 ((k : Int) + 1), .int .i64 (rp - (rt))] (by first | rfl | (simp; done)) rfl (fun j u hj => by match j, hj with | 0, hj => simp at hj; subst hj; simp [go_sem] | 1, hj => simp at hj; subst hj; simp [go_sem]) (by simp [Value.oneCell']) (by omega) (by simp) ?_; intro v9 w9 hown9 hgrow9 hloc9; obtain ⟨hr9, hs9, _, hw9⟩ := heap7 w _ _ _ _ _ _ _; have hB9 := below_grown0 (v := .slice none 0 0) rfl hgrow9; obtain ⟨p0, p1, p2, p3, pf⟩ := cells4f (bx_below hs9 hB9); obtain ⟨r0, r1, r2, r3, rf⟩ := cells4f (bx_below hr9 hB9); have pf3 := pf 3; have rf0 := rf 0; have rf1 := rf 1; have rf2 := rf 2; have rf3 := rf 3; obtain ⟨va9, vc9, hv9⟩ := own_form hown9; subst hv9; have HOWN := hide hown9; have HBW := hide (hw9.trans (hB9.mono hw9.size)); clear pf rf hown9 hgrow9 hloc9 hr9 hs9 hw9 hB9))
  refine bodyPost_ret (v := .agg #[.bool false, .int .i64 (rt), .int .i64 (oa + 1), .slice va9 1 vc9]) (by simp [results, Try.results50, go_sem, *]) rfl ?_
  exact stop_fin (l := [((k : Int) + 1, rp - (rt))]) (unhide HBW) (by omega) (by omega) (unhide HOWN)
set_option maxRecDepth 100000 in
set_option maxHeartbeats 8000000 in
theorem stop_4 {w : World} {B b q c1 no : Nat} {a2 a3 : Option Addr} {nf c2 nk c3 k : Nat} {fa fb : Value} {rt rp : Int} (oa ob : Int)
    (hb : b < B) (hB : B ≤ w.heap.size) (v0 : w.cell? ⟨b, q + k * 3, none⟩ = some (.int .i64 4)) (v1 : w.cell? ⟨b, q + k * 3 + 1, none⟩ = some (.int .i64 oa)) (v2 : w.cell? ⟨b, q + k * 3 + 2, none⟩ = some (.int .i64 ob)) (hk : k < no) (hno : no ≤ 8000)
    (hrt : 0 ≤ rt) (hrt2 : rt ≤ 2) (hrp : 0 ≤ rp) (hrp2 : rp ≤ 1) (ha : 0 ≤ oa) (ha2 : oa ≤ 1200) :
    Calls Try.prog 50 #[.agg #[.slice (some ⟨b, q, none⟩) no c1, .slice a2 nf c2, .slice a3 nk c3], .agg #[fa, fb, .int .i64 rt, .bool false, .int .i64 rp], .int .i64 (k : Int)] w (StopPost ⟨false, rt, oa + 1, [((k : Int) + 1, rp - (rt))]⟩ w) := by
  have hkz : (k : Int) < (no : Int) := by omega
  have hbz : b < w.heap.size := by omega
  have hb1 : b < w.heap.size + 1 := by omega
  have hb2 : b < w.heap.size + 1 + 1 := by omega
  have hb3 : b < w.heap.size + 1 + 1 + 1 := by omega
  go_enter Try.func50, Try.ntmps50
  go_wp2_with (first
    | (at_builtin; refine wpList_one_own 88 95 (.agg #[.int .i64 0, .int .i64 0]) 2 16 Try.underlying88 stepInfo rfl (by omega) (by omega) rfl (.tmp 96) (.tmp 98) rfl (w.heap.size + 6) (.slice none 0 0) 0 [] rfl (World.ownsRow_nil _ _ _ _) (w.heap.size + 1 + 1 + 1 + 1 + 1 + 1) [.int .i64 ((k : Int) + 1), .int .i64 (rp - (rt))] (by first | rfl | (simp; done)) rfl (fun j u hj => by match j, hj with | 0, hj => simp at hj; subst hj; simp [go_sem] | 1, hj => simp at hj; subst hj; simp [go_sem]) (by simp [Value.oneCell']) (by omega) (by simp) ?_; intro v9 w9 hown9 hgrow9 hloc9; obtain ⟨hr9, hs9, _, hw9⟩ := heap7 w _ _ _ _ _ _ _; have hB9 := below_grown0 (v := .slice none 0 0) rfl hgrow9; obtain ⟨p0, p1, p2, p3, pf⟩ := cells4f (bx_below hs9 hB9); obtain ⟨r0, r1, r2, r3, rf⟩ := cells4f (bx_below hr9 hB9); have pf3 := pf 3; have rf0 := rf 0; have rf1 := rf 1; have rf2 := rf 2; have rf3 := rf 3; obtain ⟨va9, vc9, hv9⟩ := own_form hown9; subst hv9; have HOWN := hide hown9; have HBW := hide (hw9.trans (hB9.mono hw9.size)); clear pf rf hown9 hgrow9 hloc9 hr9 hs9 hw9 hB9))
  refine bodyPost_ret (v := .agg #[.bool false, .int .i64 (rt), .int .i64 (oa + 1), .slice va9 1 vc9]) (by simp [results, Try.results50, go_sem, *]) rfl ?_
  exact stop_fin (l := [((k : Int) + 1, rp - (rt))]) (unhide HBW) (by omega) (by omega) (unhide HOWN)
set_option maxRecDepth 100000 in
set_option maxHeartbeats 8000000 in
theorem stop_5 {w : World} {B b q c1 no : Nat} {a3 : Option Addr} {nf c2 nk c3 k : Nat} {fa fb : Value} {rt rp : Int} (j : Nat) (ob : Int)
    (hb : b < B) (hB : B ≤ w.heap.size) (v0 : w.cell? ⟨b, q + k * 3, none⟩ = some (.int .i64 5)) (v1 : w.cell? ⟨b, q + k * 3 + 1, none⟩ = some (.int .i64 (j : Int))) (v2 : w.cell? ⟨b, q + k * 3 + 2, none⟩ = some (.int .i64 ob)) (hk : k < no) (hno : no ≤ 8000)
    (hrt : 0 ≤ rt) (hrt2 : rt ≤ 2) (hrp : 0 ≤ rp) (hrp2 : rp ≤ 1) {fb1 fq tc : Nat} {ta : Option Addr} {tk : List Int} {C : Nat} (hj : j < nf) (hnf : nf ≤ 1200) (hfb : fb1 < C) (hC : C ≤ w.heap.size) (f3 : w.cell? ⟨fb1, fq + j * 4 + 3, none⟩ = some (.slice ta tk.length tc)) (hT : IntsIn C w (.slice ta tk.length tc) tk) (htl : tk.length ≤ 1000000000) (htr : ∀ t ∈ tk, 0 ≤ t ∧ t ≤ 1200) :
    Calls Try.prog 50 #[.agg #[.slice (some ⟨b, q, none⟩) no c1, .slice (some ⟨fb1, fq, none⟩) nf c2, .slice a3 nk c3], .agg #[fa, fb, .int .i64 rt, .bool false, .int .i64 rp], .int .i64 (k : Int)] w fun e w' => ∃ n, SlotsOf tk n ∧ StopPost ⟨false, rt, n, [((k : Int) + 1, rp - (rt))]⟩ w e w' := by
  have hkz : (k : Int) < (no : Int) := by omega
  have hbz : b < w.heap.size := by omega
  have hb1 : b < w.heap.size + 1 := by omega
  have hb2 : b < w.heap.size + 1 + 1 := by omega
  have hb3 : b < w.heap.size + 1 + 1 + 1 := by omega
  have hjz : (j : Int) < (nf : Int) := by omega
  have hf0 : fb1 < w.heap.size := by omega
  have hf1 : fb1 < w.heap.size + 1 := by omega
  have hf2 : fb1 < w.heap.size + 1 + 1 := by omega
  have hf3 : fb1 < w.heap.size + 1 + 1 + 1 := by omega
  have hf4 : fb1 < w.heap.size + 1 + 1 + 1 + 1 := by omega
  have hf5 : fb1 < w.heap.size + 1 + 1 + 1 + 1 + 1 := by omega
  have hf6 : fb1 < w.heap.size + 1 + 1 + 1 + 1 + 1 + 1 := by omega
  have HSL : Hid (∀ W, Below w.heap.size w W → Calls Try.prog 61 #[.slice ta tk.length tc] W fun e w' => (∃ n : Int, e = .returned (.int .i64 n) ∧ SlotsOf tk n) ∧ w' = W) := fun W hW => slotsFor_any (hT.same (Same.of_below hW hC)) htl htr
  have h6 := heap6 w
  have HH6 := hide h6
  clear hT h6
  go_enter Try.func50, Try.ntmps50
  go_wp2_with (first
    | (go_at_call 61; refine (unhide HSL _ (unhide HH6 _ _ _ _ _ _)).mono ?_; rintro e w8 ⟨⟨n8, rfl, hsl8⟩, hw8⟩; subst w8; have HSL8 := hide hsl8; clear hsl8)
    | (at_builtin; refine wpList_one_own 88 95 (.agg #[.int .i64 0, .int .i64 0]) 2 16 Try.underlying88 stepInfo rfl (by omega) (by omega) rfl (.tmp 96) (.tmp 98) rfl (w.heap.size + 6) (.slice none 0 0) 0 [] rfl (World.ownsRow_nil _ _ _ _) (w.heap.size + 1 + 1 + 1 + 1 + 1 + 1) [.int .i64 ((k : Int) + 1), .int .i64 (rp - (rt))] (by first | rfl | (simp; done)) rfl (fun j u hj => by match j, hj with | 0, hj => simp at hj; subst hj; simp [go_sem] | 1, hj => simp at hj; subst hj; simp [go_sem]) (by simp [Value.oneCell']) (by omega) (by simp) ?_; intro v9 w9 hown9 hgrow9 hloc9; obtain ⟨hr9, hs9, _, hw9⟩ := heap7 w _ _ _ _ _ _ _; have hB9 := below_grown0 (v := .slice none 0 0) rfl hgrow9; obtain ⟨p0, p1, p2, p3, pf⟩ := cells4f (bx_below hs9 hB9); obtain ⟨r0, r1, r2, r3, rf⟩ := cells4f (bx_below hr9 hB9); have pf3 := pf 3; have rf0 := rf 0; have rf1 := rf 1; have rf2 := rf 2; have rf3 := rf 3; obtain ⟨va9, vc9, hv9⟩ := own_form hown9; subst hv9; have HOWN := hide hown9; have HBW := hide (hw9.trans (hB9.mono hw9.size)); clear pf rf hown9 hgrow9 hloc9 hr9 hs9 hw9 hB9))
  refine bodyPost_ret (v := .agg #[.bool false, .int .i64 (rt), .int .i64 (n8), .slice va9 1 vc9]) (by simp [results, Try.results50, go_sem, *]) rfl ?_
  exact ⟨n8, unhide HSL8, stop_fin (l := [((k : Int) + 1, rp - (rt))]) (unhide HBW) (by omega) (by omega) (unhide HOWN)⟩
set_option maxRecDepth 100000 in
set_option maxHeartbeats 8000000 in
theorem stop_17 {w : World} {B b q c1 no : Nat} {a2 a3 : Option Addr} {nf c2 nk c3 k : Nat} {fa fb : Value} {rt rp : Int} (oa ob : Int)
    (hb : b < B) (hB : B ≤ w.heap.size) (v0 : w.cell? ⟨b, q + k * 3, none⟩ = some (.int .i64 17)) (v1 : w.cell? ⟨b, q + k * 3 + 1, none⟩ = some (.int .i64 oa)) (v2 : w.cell? ⟨b, q + k * 3 + 2, none⟩ = some (.int .i64 ob)) (hk : k < no) (hno : no ≤ 8000)
    (hrt : 0 ≤ rt) (hrt2 : rt ≤ 2) (hrp : 0 ≤ rp) (hrp2 : rp ≤ 1) :
    Calls Try.prog 50 #[.agg #[.slice (some ⟨b, q, none⟩) no c1, .slice a2 nf c2, .slice a3 nk c3], .agg #[fa, fb, .int .i64 rt, .bool false, .int .i64 rp], .int .i64 (k : Int)] w (StopPost ⟨false, rt, 0, [(oa, -1), ((k : Int) + 1, rp - rt)]⟩ w) := by
  have hkz : (k : Int) < (no : Int) := by omega
  have hbz : b < w.heap.size := by omega
  have hb1 : b < w.heap.size + 1 := by omega
  have hb2 : b < w.heap.size + 1 + 1 := by omega
  have hb3 : b < w.heap.size + 1 + 1 + 1 := by omega
  go_enter Try.func50, Try.ntmps50
  go_wp2_with (first
    | (at_builtin; refine wpList_one_own 88 95 (.agg #[.int .i64 0, .int .i64 0]) 2 16 Try.underlying88 stepInfo rfl (by omega) (by omega) rfl (.tmp 96) (.tmp 98) rfl (w.heap.size + 6) (.slice (some ⟨w.heap.size + 1 + 1 + 1 + 1 + 1 + 1, 0, none⟩) 1 1) 1 [.int .i64 oa, .int .i64 (-1)] (by first | rfl | (simp; done)) ((lit_row w _ _ _ _ _ _ oa (-1)).alloc _) (w.heap.size + 1 + 1 + 1 + 1 + 1 + 1 + 1) [.int .i64 ((k : Int) + 1), .int .i64 (rp - rt)] (by first | rfl | (simp; done)) rfl (fun j u hj => by match j, hj with | 0, hj => simp at hj; subst hj; simp [go_sem] | 1, hj => simp at hj; subst hj; simp [go_sem]) (by simp [Value.oneCell']) (by omega) (by simp) ?_; intro v9 w9 hown9 hgrow9 hloc9; obtain ⟨hr9, hs9, hbw9⟩ := grow8 rfl hgrow9; obtain ⟨p0, p1, p2, p3, pf⟩ := cells4f hs9; obtain ⟨r0, r1, r2, r3, rf⟩ := cells4f hr9; have pf3 := pf 3; have rf0 := rf 0; have rf1 := rf 1; have rf2 := rf 2; have rf3 := rf 3; obtain ⟨va9, vc9, hv9⟩ := own_form hown9; subst hv9; have HOWN := hide hown9; have HBW := hide hbw9; clear pf rf hown9 hgrow9 hloc9 hr9 hs9 hbw9))
  refine bodyPost_ret (v := .agg #[.bool false, .int .i64 rt, .int .i64 0, .slice va9 2 vc9]) (by simp [results, Try.results50, go_sem, *]) rfl ?_
  exact stop_fin (l := [(oa, -1), ((k : Int) + 1, rp - rt)]) (unhide HBW) (by omega) (by omega) (unhide HOWN)
set_option maxRecDepth 100000 in
set_option maxHeartbeats 8000000 in
theorem stop_18 {w : World} {B b q c1 no : Nat} {a2 a3 : Option Addr} {nf c2 nk c3 k : Nat} {fa fb : Value} {rt rp : Int} (oa ob : Int)
    (hb : b < B) (hB : B ≤ w.heap.size) (v0 : w.cell? ⟨b, q + k * 3, none⟩ = some (.int .i64 18)) (v1 : w.cell? ⟨b, q + k * 3 + 1, none⟩ = some (.int .i64 oa)) (v2 : w.cell? ⟨b, q + k * 3 + 2, none⟩ = some (.int .i64 ob)) (hk : k < no) (hno : no ≤ 8000)
    (hrt : 0 ≤ rt) (hrt2 : rt ≤ 2) (hrp : 0 ≤ rp) (hrp2 : rp ≤ 1) :
    Calls Try.prog 50 #[.agg #[.slice (some ⟨b, q, none⟩) no c1, .slice a2 nf c2, .slice a3 nk c3], .agg #[fa, fb, .int .i64 rt, .bool false, .int .i64 rp], .int .i64 (k : Int)] w (StopPost ⟨false, rt, 0, [(oa, 0), ((k : Int) + 1, rp - rt)]⟩ w) := by
  have hkz : (k : Int) < (no : Int) := by omega
  have hbz : b < w.heap.size := by omega
  have hb1 : b < w.heap.size + 1 := by omega
  have hb2 : b < w.heap.size + 1 + 1 := by omega
  have hb3 : b < w.heap.size + 1 + 1 + 1 := by omega
  go_enter Try.func50, Try.ntmps50
  go_wp2_with (first
    | (at_builtin; refine wpList_one_own 88 95 (.agg #[.int .i64 0, .int .i64 0]) 2 16 Try.underlying88 stepInfo rfl (by omega) (by omega) rfl (.tmp 96) (.tmp 98) rfl (w.heap.size + 6) (.slice (some ⟨w.heap.size + 1 + 1 + 1 + 1 + 1 + 1, 0, none⟩) 1 1) 1 [.int .i64 oa, .int .i64 (0)] (by first | rfl | (simp; done)) ((lit_row w _ _ _ _ _ _ oa (0)).alloc _) (w.heap.size + 1 + 1 + 1 + 1 + 1 + 1 + 1) [.int .i64 ((k : Int) + 1), .int .i64 (rp - rt)] (by first | rfl | (simp; done)) rfl (fun j u hj => by match j, hj with | 0, hj => simp at hj; subst hj; simp [go_sem] | 1, hj => simp at hj; subst hj; simp [go_sem]) (by simp [Value.oneCell']) (by omega) (by simp) ?_; intro v9 w9 hown9 hgrow9 hloc9; obtain ⟨hr9, hs9, hbw9⟩ := grow8 rfl hgrow9; obtain ⟨p0, p1, p2, p3, pf⟩ := cells4f hs9; obtain ⟨r0, r1, r2, r3, rf⟩ := cells4f hr9; have pf3 := pf 3; have rf0 := rf 0; have rf1 := rf 1; have rf2 := rf 2; have rf3 := rf 3; obtain ⟨va9, vc9, hv9⟩ := own_form hown9; subst hv9; have HOWN := hide hown9; have HBW := hide hbw9; clear pf rf hown9 hgrow9 hloc9 hr9 hs9 hbw9))
  refine bodyPost_ret (v := .agg #[.bool false, .int .i64 rt, .int .i64 0, .slice va9 2 vc9]) (by simp [results, Try.results50, go_sem, *]) rfl ?_
  exact stop_fin (l := [(oa, 0), ((k : Int) + 1, rp - rt)]) (unhide HBW) (by omega) (by omega) (unhide HOWN)
set_option maxRecDepth 100000 in
set_option maxHeartbeats 8000000 in
theorem stop_16 {w : World} {B b q c1 no : Nat} {a2 a3 : Option Addr} {nf c2 nk c3 k : Nat} {fa fb : Value} {rt rp : Int} (oa ob : Int)
    (hb : b < B) (hB : B ≤ w.heap.size) (v0 : w.cell? ⟨b, q + k * 3, none⟩ = some (.int .i64 16)) (v1 : w.cell? ⟨b, q + k * 3 + 1, none⟩ = some (.int .i64 oa)) (v2 : w.cell? ⟨b, q + k * 3 + 2, none⟩ = some (.int .i64 ob)) (hk : k < no) (hno : no ≤ 8000)
    (hrt : 0 ≤ rt) (hrt2 : rt ≤ 2) (hrp : 0 ≤ rp) (hrp2 : rp ≤ 1) :
    Calls Try.prog 50 #[.agg #[.slice (some ⟨b, q, none⟩) no c1, .slice a2 nf c2, .slice a3 nk c3], .agg #[fa, fb, .int .i64 rt, .bool false, .int .i64 rp], .int .i64 (k : Int)] w (StopPost ⟨false, rt, 0, [(oa, 0)]⟩ w) := by
  have hkz : (k : Int) < (no : Int) := by omega
  have hbz : b < w.heap.size := by omega
  have hb1 : b < w.heap.size + 1 := by omega
  have hb2 : b < w.heap.size + 1 + 1 := by omega
  have hb3 : b < w.heap.size + 1 + 1 + 1 := by omega
  go_enter Try.func50, Try.ntmps50
  go_wp2
  refine bodyPost_ret (v := .agg #[.bool false, .int .i64 rt, .int .i64 0, .slice (some ⟨w.heap.size + 1 + 1 + 1 + 1 + 1 + 1, 0, none⟩) 1 1]) (by simp [results, Try.results50, go_sem]) rfl ?_
  refine ⟨_, rfl, own_mono (lit_row w _ _ _ _ _ _ oa 0) (by omega), ?_⟩
  repeat (first | exact Below.refl _ _ | refine Below.alloc ?_ (by first | omega | (simp only [heap_size_alloc]; omega)) _)
set_option maxRecDepth 100000 in
set_option maxHeartbeats 8000000 in
theorem stop_20 {w : World} {B b q c1 no : Nat} {a2 a3 : Option Addr} {nf c2 nk c3 k : Nat} {fa fb : Value} {rt rp : Int} (oa ob : Int)
    (hb : b < B) (hB : B ≤ w.heap.size) (v0 : w.cell? ⟨b, q + k * 3, none⟩ = some (.int .i64 20)) (v1 : w.cell? ⟨b, q + k * 3 + 1, none⟩ = some (.int .i64 oa)) (v2 : w.cell? ⟨b, q + k * 3 + 2, none⟩ = some (.int .i64 ob)) (hk : k < no) (hno : no ≤ 8000)
    (hrt : 0 ≤ rt) (hrt2 : rt ≤ 2) (hrp : 0 ≤ rp) (hrp2 : rp ≤ 1) :
    Calls Try.prog 50 #[.agg #[.slice (some ⟨b, q, none⟩) no c1, .slice a2 nf c2, .slice a3 nk c3], .agg #[fa, fb, .int .i64 rt, .bool false, .int .i64 rp], .int .i64 (k : Int)] w (StopPost ⟨false, rt, 0, []⟩ w) := by
  have hkz : (k : Int) < (no : Int) := by omega
  have hbz : b < w.heap.size := by omega
  have hb1 : b < w.heap.size + 1 := by omega
  have hb2 : b < w.heap.size + 1 + 1 := by omega
  have hb3 : b < w.heap.size + 1 + 1 + 1 := by omega
  go_enter Try.func50, Try.ntmps50
  go_wp2
  refine bodyPost_ret (v := .agg #[.bool false, .int .i64 rt, .int .i64 0, .slice none 0 0]) (by simp [results, Try.results50, go_sem]) rfl ?_
  refine ⟨_, rfl, World.ownsRow_nil _ _ _ _, ?_⟩
  repeat (first | exact Below.refl _ _ | refine Below.alloc ?_ (by first | omega | (simp only [heap_size_alloc]; omega)) _)
set_option maxRecDepth 100000 in
set_option maxHeartbeats 8000000 in
theorem stop_22 {w : World} {B b q c1 no : Nat} {a2 a3 : Option Addr} {nf c2 nk c3 k : Nat} {fa fb : Value} {rt rp : Int} (oa ob : Int)
    (hb : b < B) (hB : B ≤ w.heap.size) (v0 : w.cell? ⟨b, q + k * 3, none⟩ = some (.int .i64 22)) (v1 : w.cell? ⟨b, q + k * 3 + 1, none⟩ = some (.int .i64 oa)) (v2 : w.cell? ⟨b, q + k * 3 + 2, none⟩ = some (.int .i64 ob)) (hk : k < no) (hno : no ≤ 8000)
    (hrt : 0 ≤ rt) (hrt2 : rt ≤ 2) (hrp : 0 ≤ rp) (hrp2 : rp ≤ 1) :
    Calls Try.prog 50 #[.agg #[.slice (some ⟨b, q, none⟩) no c1, .slice a2 nf c2, .slice a3 nk c3], .agg #[fa, fb, .int .i64 rt, .bool false, .int .i64 rp], .int .i64 (k : Int)] w (StopPost ⟨false, rt, 0, []⟩ w) := by
  have hkz : (k : Int) < (no : Int) := by omega
  have hbz : b < w.heap.size := by omega
  have hb1 : b < w.heap.size + 1 := by omega
  have hb2 : b < w.heap.size + 1 + 1 := by omega
  have hb3 : b < w.heap.size + 1 + 1 + 1 := by omega
  go_enter Try.func50, Try.ntmps50
  go_wp2
  refine bodyPost_ret (v := .agg #[.bool false, .int .i64 rt, .int .i64 0, .slice none 0 0]) (by simp [results, Try.results50, go_sem]) rfl ?_
  refine ⟨_, rfl, World.ownsRow_nil _ _ _ _, ?_⟩
  repeat (first | exact Below.refl _ _ | refine Below.alloc ?_ (by first | omega | (simp only [heap_size_alloc]; omega)) _)
end
end Go.Proofs.Ytdemnolanlfblaa
