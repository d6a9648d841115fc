import Derived.Test.YtdemnolanlfblaaGreatDoorYTReadA
set_option linter.all false
namespace Go.Proofs.YtdemnolanlfblaaGreatDoor
section
open Go.RowKit
theorem bt2 {w:World}{k:Nat}{a b:Value}{t:TypeId}(h:BoxAt w k [a,b] t):w.cell? ⟨k,0,none⟩=some a∧w.cell? ⟨k,1,none⟩=some b∧w.frozen? ⟨k,0,none⟩=false∧w.frozen? ⟨k,1,none⟩=false∧k<w.heap.size:=by
 have h1:=h.cell
 have h2:=h.free
 exact⟨h1 0,h1 1,h2 0,h2 1,h.lt⟩
theorem bt3f {w:World}{k:Nat}{a b c:Value}{t:TypeId}(h:BoxAt w k [a,b,c] t):w.cell? ⟨k,0,none⟩=some a∧w.cell? ⟨k,1,none⟩=some b∧w.cell? ⟨k,2,none⟩=some c∧w.frozen? ⟨k,0,none⟩=false∧w.frozen? ⟨k,1,none⟩=false∧w.frozen? ⟨k,2,none⟩=false∧k<w.heap.size:=by
 have h1:=h.cell
 have h2:=h.free
 exact⟨h1 0,h1 1,h1 2,h2 0,h2 1,h2 2,h.lt⟩
def readBad (c q:Int):Value:=.tuple #[.agg #[.slice none 0 0,.slice none 0 0,.map none],.agg #[.int .i64 c,.int .i64 q]]
theorem boxes_set {w1:World}{h:Nat}{x y z c q:Value}{l m:List Value}(B1:BoxAt w1 h l 45) (B2:BoxAt w1 (h+1) m 25) (hl:l.length=3) (hm:m.length=2) :
  BoxAt (((((w1.setCell ⟨h,0,none⟩ x).setCell ⟨h,1,none⟩ y).setCell ⟨h,2,none⟩ z).setCell ⟨h+1,0,none⟩ c).setCell ⟨h+1,1,none⟩ q) h [x,y,z] 45∧BoxAt (((((w1.setCell ⟨h,0,none⟩ x).setCell ⟨h,1,none⟩ y).setCell ⟨h,2,none⟩ z).setCell ⟨h+1,0,none⟩ c).setCell ⟨h+1,1,none⟩ q) (h+1) [c,q] 25:=by
 obtain⟨a,b,d,rfl⟩:∃ a b d,l = [a,b,d]:=by
  match l,hl with
  | [a,b,d],_=>exact⟨a,b,d,rfl⟩
 obtain⟨e,f,rfl⟩:∃ e f,m = [e,f]:=by
  match m,hm with
  | [e,f],_=>exact⟨e,f,rfl⟩
 exact⟨((((B1.set x).set y).set z).setOther (by show h≠h+1;omega) c).setOther (by show h≠h+1;omega) q,(((((B2.setOther (by show h+1≠h;omega) x).setOther (by show h+1≠h;omega) y).setOther (by show h+1≠h;omega) z).set c).set q)⟩
theorem below_sets {w w1:World}{x y z c q:Value}(hb:Below w.heap.size w w1):Below w.heap.size w (((((w1.setCell ⟨w.heap.size,0,none⟩ x).setCell ⟨w.heap.size,1,none⟩ y).setCell ⟨w.heap.size,2,none⟩ z).setCell ⟨w.heap.size+1,0,none⟩ c).setCell ⟨w.heap.size+1,1,none⟩ q) :=
 bset (bset (bset (bset (bset hb (Nat.le_refl _)) (Nat.le_refl _)) (Nat.le_refl _)) (Nat.le_succ _)) (Nat.le_succ _)
set_option maxHeartbeats 8000000 in
theorem read_bad (s:ByteArray) (w:World) (hs:s.size≤maxLen) (hT:Lib.Utf8Tabs 0 1 w) (h2:2≤w.heap.size) (hnp:¬ Parsed s) :
  Calls Tryz.prog 13 #[.string s] w fun e w'=>e=.returned (readBad (parse s).1 (parse s).2.1)∧Below w.heap.size w w'∧(parse s).1≠0:=by
 have hbW:Below w.heap.size w ((w.alloc (Obj.cells #[.slice none 0 0,.slice none 0 0,.map none] 45)).alloc (Obj.cells #[Value.int IntKind.i64 0,Value.int IntKind.i64 0] 25)):=balloc (blA _ _)
 have HP:=hide (parse_any s _ hs (tabs_below h2 hT hbW) (by rw [szA,szA];omega))
 have HBW:=hide hbW
 clear hbW hT
 generalize (parse s).1=c at *
 generalize (parse s).2.1=q at *
 generalize (parse s).2.2=ns at *
 have HNP:=hide hnp
 clear hnp
 go_enter Tryz.func13,Tryz.ntmps13
 go_wp2_with (first
  | (go_at_call 19;refine (uh HP).mono ?_;rintro e w1 ⟨v,rfl,hN,hb,hpp⟩;have hc:c≠0:=fun h0=>uh HNP (hpp h0);have cb:=ne_b hc;have HC:=hide hc;clear hc hpp;have B1:=((BoxAt.made w [.slice none 0 0,.slice none 0 0,.map none] 45).new (blA _ _)).new hb;have B2:=(BoxAt.made (w.alloc _) [.int .i64 0,.int .i64 0] 25).new hb;rw [szA] at B2;obtain⟨p0,p1,p2,pf0,pf1,pf2,pl⟩:=bt3f B1;obtain⟨q0,q1,qf0,qf1,ql⟩:=bt2 B2;obtain⟨na,nc,rfl⟩:=hN.len)
  )
 go_region
 all_goals
  go_wp2
  obtain⟨C1,C2⟩:=boxes_set (x:=.slice none 0 0) (y:=.slice none 0 0) (z:=.map none) (c:=.int .i64 c) (q:=.int .i64 q) B1 B2 rfl rfl
  have hbl:=below_sets (x:=.slice none 0 0) (y:=.slice none 0 0) (z:=.map none) (c:=.int .i64 c) (q:=.int .i64 q) ((uh HBW).trans (hb.mono (by rw [szA,szA];omega)))
  generalize ((((w1.setCell ⟨w.heap.size,0,none⟩ (.slice none 0 0)).setCell ⟨w.heap.size,1,none⟩ (.slice none 0 0)).setCell ⟨w.heap.size,2,none⟩ (.map none)).setCell ⟨w.heap.size+1,0,none⟩ (.int .i64 c)).setCell ⟨w.heap.size+1,1,none⟩ (.int .i64 q)=W9 at *
  replace C1:=C1.new (blA _ (.cells #[.int .i64 c,.int .i64 q] 25))
  replace C2:=C2.new (blA _ (.cells #[.int .i64 c,.int .i64 q] 25))
  obtain⟨r0,r1,r2,_,_,_,_⟩:=bt3f C1
  obtain⟨t0,t1,_,_,_⟩:=bt2 C2
  refine bodyPost_ret (by simp [results,Tryz.results13,go_sem,r0,r1,r2,t0,t1];rfl) rfl ?_
  exact⟨rfl,(balloc hbl).drew,uh HC⟩
end
end Go.Proofs.YtdemnolanlfblaaGreatDoor
