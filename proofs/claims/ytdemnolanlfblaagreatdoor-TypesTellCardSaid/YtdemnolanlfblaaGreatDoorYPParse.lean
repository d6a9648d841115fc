import Derived.Test.YtdemnolanlfblaaGreatDoorYPCatchB
import Derived.Test.YtdemnolanlfblaaGreatDoorZLen
set_option linter.all false
namespace Go.Proofs.YtdemnolanlfblaaGreatDoor
section
open Go.RowKit
def parse (s:ByteArray):Int × Int × List Nd :=
 if (scan s).1=0 then ((program s.size (scan s).2.2).fold (fun _ st=>(0,0,st.nodes)) (fun c q=>(c,q,[]))) else ((scan s).1,(scan s).2.1,[])
def NodesAt (w:World) (B:Nat) (v:Value) (ns:List Nd):Prop :=
 ∃ kvs,w.ownsRow B 36 5 v ns.length (ncells ns kvs)∧kvs.length=ns.length∧∀ (i:Nat) (n:Nd) (kv:Value),ns[i]? = some n→kvs[i]? = some kv→Ints w B kv n.kids
theorem NodesAt.nil (w:World) (B:Nat):NodesAt w B (.slice none 0 0) []:=⟨[],World.ownsRow_nil _ _ _ _,rfl,by intro i n kv h;simp at h⟩
theorem scan_small' {s:ByteArray}(h:(scan s).1=0):s.size≤6000∧(scan s).2.2.length≤10000:=by
 have h1:s.size≤6000:=by
  apply Nat.le_of_not_lt
  intro hb
  unfold scan at h
  rw [if_pos hb] at h
  exact absurd h (by decide)
 refine⟨h1,?_⟩
 unfold scan
 rw [if_neg (by omega)]
 have:=scanGo_len (s.size+1) s 0 false [] (Nat.zero_le _) (Nat.zero_le _)
 omega
theorem PSt.first {w:World}{T:List Tok}{v:Value}{E:Nat}(hE:E≤6000) (hT:T.length≤10000) (ho:w.ownsRow 0 66 4 v T.length (tcells T)) :
  PSt w.heap.size T v E 30 (fun _=>False) ⟨T,[]⟩ (w.alloc (.cells #[v,.int .i64 0,.int .i64 (E:Int),.int .i64 0,.slice none 0 0] 81)):=by
 refine⟨Nat.le_refl _,by simp,by omega,by omega,by simp [phi];omega,fun _ hk=>hk.elim,⟨.slice none 0 0,[],?_,World.ownsRow_nil _ _ _ _,⟨rfl,fun _=>rfl,fun k hk=>by cases hk⟩,by intro i n kv h;simp at h⟩,ho.alloc _⟩
 rw [heap_alloc_new]
 simp
theorem pres_cells {w1:World}{N:Nat}{t1 t2:TypeId}{x y z:Value}(q1:w1.heap[N]? = some (.cells #[x] t1 (0,0))) (q2:w1.heap[N+1]? = some (.cells #[y,z] t2 (0,0))) (u c q:Value) :
  (((w1.setCell ⟨N,0,none⟩ u).setCell ⟨N+1,0,none⟩ c).setCell ⟨N+1,1,none⟩ q).cell? ⟨N,0,none⟩=some u∧(((w1.setCell ⟨N,0,none⟩ u).setCell ⟨N+1,0,none⟩ c).setCell ⟨N+1,1,none⟩ q).cell? ⟨N+1,0,none⟩=some c∧(((w1.setCell ⟨N,0,none⟩ u).setCell ⟨N+1,0,none⟩ c).setCell ⟨N+1,1,none⟩ q).cell? ⟨N+1,1,none⟩=some q:=by
 have a1:=block_set (j:=0) (u:=u) q1
 have a2:(((w1.setCell ⟨N,0,none⟩ u).setCell ⟨N+1,0,none⟩ c).setCell ⟨N+1,1,none⟩ q).heap[N]? = some (.cells #[u] t1 (0,0)):=by
  rw [Below.heap_setCell _ _ _ _ (by show N≠N+1;omega),Below.heap_setCell _ _ _ _ (by show N≠N+1;omega),a1];rfl
 have b1:(w1.setCell ⟨N,0,none⟩ u).heap[N+1]? = some (.cells #[y,z] t2 (0,0)):=by
  rw [Below.heap_setCell _ _ _ _ (by show N+1≠N;omega),q2]
 have b3:=block_set (j:=1) (u:=q) (block_set (j:=0) (u:=c) b1)
 exact⟨(one_cell a2).1,(two_cells b3).1,(two_cells b3).2.2.1⟩
theorem fault_set {w:World}{N:Nat}{t1 t2:TypeId}{x y z c q:Value}(q1:w.heap[N]? = some (.cells #[x] t1 (0,0))) (q2:w.heap[N+1]? = some (.cells #[y,z] t2 (0,0))) :
  ((w.setCell ⟨N+1,0,none⟩ c).setCell ⟨N+1,1,none⟩ q).heap[N]? = some (.cells #[x] t1 (0,0))∧((w.setCell ⟨N+1,0,none⟩ c).setCell ⟨N+1,1,none⟩ q).heap[N+1]? = some (.cells #[c,q] t2 (0,0)):=by
 refine⟨?_,?_⟩
 ·rw [Below.heap_setCell _ _ _ _ (by show N≠N+1;omega),Below.heap_setCell _ _ _ _ (by show N≠N+1;omega)];exact q1
 ·rw [block_set (j:=1) (block_set (j:=0) q2)];rfl
set_option maxHeartbeats 4000000 in
theorem parse_lex (s:ByteArray) (w:World) (hs:s.size≤maxLen) (hT:Lib.Utf8Tabs 0 1 w) (h2:2≤w.heap.size) (hc:¬ (scan s).1=0) :
  Calls Tryz.prog 19 #[.string s] w fun e w'=>e=.returned (.tuple #[.slice none 0 0,.agg #[.int .i64 (scan s).1,.int .i64 (scan s).2.1]])∧Below w.heap.size w w':=by
 have hmf:∀ (fn:Fn) (first cap:Array Value) (w:World),(Instr.makeFunc fn first cap).run Tryz.prog w=.ok (.func fn first cap) w:=fun _ _ _ _=>rfl
 have hbW:Below w.heap.size w ((w.alloc (Obj.cells #[Value.slice none 0 0] 31)).alloc (Obj.cells #[Value.int IntKind.i64 0,Value.int IntKind.i64 0] 25)):=((Below.refl _ w).alloc (Nat.le_refl _) _).alloc (by simp) _
 have HS:=hide (scan_any s _ hs (tabs_below h2 hT hbW) (by rw [szA,szA];omega))
 have HBW:=hide hbW
 clear hbW hT
 generalize (scan s).1=c at *
 generalize (scan s).2.1=q at *
 generalize (scan s).2.2=ts at *
 go_enter_defers Tryz.func19,Tryz.ntmps19
 go_wp2_with (go_at_call 39;refine (uh HS).mono ?_;rintro e w3 ⟨v,rfl,ho,hb⟩;have hN:w3.heap[w.heap.size]? = some (.cells #[.slice none 0 0] 31 (0,0)):=(by rw [hb.block _ (by rw [szA,szA];omega),Below.heap_alloc _ _ _ (by rw [szA];omega)];exact heap_alloc_new w _);have hN1:w3.heap[w.heap.size+1]? = some (.cells #[.int .i64 0,.int .i64 0] 25 (0,0)):=(by rw [hb.block _ (by rw [szA,szA];omega)];exact heap_alloc2_new w _ _);obtain⟨q3,q4⟩:=one_cell hN;obtain⟨q5,q6,q7,q8⟩:=two_cells hN1;have hl3:=(Array.getElem?_eq_some_iff.1 hN).1;have hl4:=(Array.getElem?_eq_some_iff.1 hN1).1;obtain⟨va,vc,rfl⟩:=own_toks ho;have HN:=hide hN;have HN1:=hide hN1;clear hN hN1 ho)
 go_region
 all_goals
  go_wp2
  obtain⟨a1,a2⟩:=fault_set (c:=.int .i64 c) (q:=.int .i64 (q:Int)) (uh HN) (uh HN1)
  obtain⟨r1,r2,r3⟩:=pres_cells a1 a2 (.slice none 0 0) (.int .i64 c) (.int .i64 (q:Int))
  have hbl:=(((((uh HBW).trans (hb.mono (by rw [szA,szA];omega))).setCell (p:=⟨w.heap.size+1,0,none⟩) (by show w.heap.size≤w.heap.size+1;omega) (.int .i64 c)).setCell (p:=⟨w.heap.size+1,1,none⟩) (by show w.heap.size≤w.heap.size+1;omega) (.int .i64 (q:Int))).setCell (p:=⟨w.heap.size,0,none⟩) (Nat.le_refl _) (.slice none 0 0)).setCell (p:=⟨w.heap.size+1,0,none⟩) (by show w.heap.size≤w.heap.size+1;omega) (.int .i64 c) |>.setCell (p:=⟨w.heap.size+1,1,none⟩) (by show w.heap.size≤w.heap.size+1;omega) (.int .i64 (q:Int))
  generalize ((((w3.setCell ⟨w.heap.size+1,0,none⟩ (.int .i64 c)).setCell ⟨w.heap.size+1,1,none⟩ (.int .i64 (q:Int))).setCell ⟨w.heap.size,0,none⟩ (.slice none 0 0)).setCell ⟨w.heap.size+1,0,none⟩ (.int .i64 c)).setCell ⟨w.heap.size+1,1,none⟩ (.int .i64 (q:Int))=W9 at *
  simp [bodyPostD,Leaves,results,Tryz.results19,go_sem,r1,r2,r3]
  exact hbl.drew
theorem parser_first {w w3:World}{v:Value}{ts:List Tok}{E:Nat}{c q:Value}{o1 o2:Obj}(ho:Hid (w3.ownsRow ((w.alloc o1).alloc o2).heap.size 66 4 v ts.length (tcells ts))) (hE:E≤6000) (hT:ts.length≤10000) :
  PSt w3.heap.size ts v E 30 (fun _=>False) ⟨ts,[]⟩ (((w3.setCell ⟨w.heap.size+1,0,none⟩ c).setCell ⟨w.heap.size+1,1,none⟩ q).alloc (.cells #[v,.int .i64 0,.int .i64 (E:Int),.int .i64 0,.slice none 0 0] 81)):=by
 have h0:=uh ho
 rw [szA,szA] at h0
 have h1:=ownsRow_setCell_below (ownsRow_setCell_below h0 (a:=⟨w.heap.size+1,0,none⟩) (by show w.heap.size+1<_;omega) c) (a:=⟨w.heap.size+1,1,none⟩) (by show w.heap.size+1<_;omega) q
 have h2:=PSt.first (w:=(w3.setCell ⟨w.heap.size+1,0,none⟩ c).setCell ⟨w.heap.size+1,1,none⟩ q) hE hT (own_lower h1 (Nat.zero_le _))
 rwa [size_set,size_set] at h2
theorem two_kept {w3 w4:World}{N:Nat}{t1 t2:TypeId}{x y z c q:Value}{o:Obj}(hb:Below w3.heap.size (((w3.setCell ⟨N+1,0,none⟩ c).setCell ⟨N+1,1,none⟩ q).alloc o) w4) (q1:w3.heap[N]? = some (.cells #[x] t1 (0,0))) (q2:w3.heap[N+1]? = some (.cells #[y,z] t2 (0,0))) (hl:N+1<w3.heap.size) :
  w4.heap[N]? = some (.cells #[x] t1 (0,0))∧w4.heap[N+1]? = some (.cells #[c,q] t2 (0,0)):=by
 obtain⟨a1,a2⟩:=fault_set (c:=c) (q:=q) q1 q2
 refine⟨?_,?_⟩
 ·rw [hb.block N (by omega),Below.heap_alloc _ _ _ (by rw [size_set,size_set];omega)];exact a1
 ·rw [hb.block (N+1) hl,Below.heap_alloc _ _ _ (by rw [size_set,size_set];exact hl)];exact a2
theorem nodes_filled {w4:World}{B P N:Nat}{v:Value}{ns:List Nd}{kvs:List Value}(hown:w4.ownsRow P 36 5 v ns.length (ncells ns kvs)) (hkl:kvs.length=ns.length) (hkk:∀ (i:Nat) (n:Nd) (kv:Value),ns[i]? = some n→kvs[i]? = some kv→Ints w4 P kv n.kids) (hB:B≤P) (hN:N+1<P) (x y z:Value) :
  NodesAt (((w4.setCell ⟨N,0,none⟩ x).setCell ⟨N+1,0,none⟩ y).setCell ⟨N+1,1,none⟩ z) B v ns:=by
 have hset:∀ {e zz:Nat}{u:Value}{n:Nat}{xs:List Value},w4.ownsRow P e zz u n xs→(((w4.setCell ⟨N,0,none⟩ x).setCell ⟨N+1,0,none⟩ y).setCell ⟨N+1,1,none⟩ z).ownsRow B e zz u n xs:=by
  intro e zz u n xs h
  exact own_lower (ownsRow_setCell_below (ownsRow_setCell_below (ownsRow_setCell_below h (a:=⟨N,0,none⟩) (by show N<P;omega) x) (a:=⟨N+1,0,none⟩) (by show N+1<P;omega) y) (a:=⟨N+1,1,none⟩) (by show N+1<P;omega) z) hB
 exact⟨kvs,hset hown,hkl,fun i n kv hi hj=>hset (hkk i n kv hi hj)⟩
theorem pcatch_any (N:Nat) (x:Value) (y z c q:Int) (older:List PanicEntry) (w:World) (hc:c=3∨c=4∨c=5)
  (h0:w.cell? ⟨N,0,none⟩=some x) (f0:w.frozen? ⟨N,0,none⟩=false)
  (h1:w.cell? ⟨N+1,0,none⟩=some (.int .i64 y)) (f1:w.frozen? ⟨N+1,0,none⟩=false) (h2:w.cell? ⟨N+1,1,none⟩=some (.int .i64 z)) (f2:w.frozen? ⟨N+1,1,none⟩=false) (hN0:N<w.heap.size) (hN:N+1<w.heap.size) :
  CallsD Tryz.prog 40 #[.pointer (some ⟨N,0,none⟩),.pointer (some ⟨N+1,0,none⟩)] (.panicking ({ v:=.iface (ft c) (.agg #[.int .i64 q]),recovered:=false } :: older)) w fun e u' w' =>
   e=.returned (.tuple #[])∧u'=.panicking ({ v:=.iface (ft c) (.agg #[.int .i64 q]),recovered:=true } :: older)∧Below w.heap.size (((w.setCell ⟨N,0,none⟩ (.slice none 0 0)).setCell ⟨N+1,0,none⟩ (.int .i64 c)).setCell ⟨N+1,1,none⟩ (.int .i64 q)) w':=by
 rcases hc with rfl | rfl | rfl
 ·exact pcatch_3 N x y z q older w h0 f0 h1 f1 h2 f2 hN0 hN
 ·exact pcatch_4 N x y z q older w h0 f0 h1 f1 h2 f2 hN0 hN
 ·exact pcatch_5 N x y z q older w h0 f0 h1 f1 h2 f2 hN0 hN
def Parsed (s:ByteArray):Prop:=(scan s).1=0∧∃ k st,program s.size (scan s).2.2=.ok k st
set_option maxHeartbeats 8000000 in
theorem parse_main (s:ByteArray) (w:World) (hs:s.size≤maxLen) (hT:Lib.Utf8Tabs 0 1 w) (h2:2≤w.heap.size) (hc:(scan s).1=0) :
  Calls Tryz.prog 19 #[.string s] w fun e w'=>∃ v,e=.returned (.tuple #[v,.agg #[.int .i64 (parse s).1,.int .i64 (parse s).2.1]])∧NodesAt w' w.heap.size v (parse s).2.2∧Below w.heap.size w w'∧((parse s).1=0→Parsed s):=by
 have hmf:∀ (fn:Fn) (first cap:Array Value) (w:World),(Instr.makeFunc fn first cap).run Tryz.prog w=.ok (.func fn first cap) w:=fun _ _ _ _=>rfl
 have hbW:Below w.heap.size w ((w.alloc (Obj.cells #[Value.slice none 0 0] 31)).alloc (Obj.cells #[Value.int IntKind.i64 0,Value.int IntKind.i64 0] 25)):=((Below.refl _ w).alloc (Nat.le_refl _) _).alloc (by simp) _
 have HS:=hide (scan_any s _ hs (tabs_below h2 hT hbW) (by rw [szA,szA];omega))
 obtain⟨hsm,hlen⟩:=scan_small' hc
 have hpar:parse s=((program s.size (scan s).2.2).fold (fun _ st=>(0,0,st.nodes)) (fun c q=>(c,q,[]))):=by unfold parse;rw [if_pos hc]
 have HPAR:=hide hpar
 have HBW:=hide hbW
 have HSC:=hide hc
 rw [hc] at HS
 clear hbW hT hpar hc
 generalize (scan s).2.1=q at *
 generalize hts:(scan s).2.2=ts at *
 have HTS:=hide hts
 clear hts
 generalize parse s=pr at *
 go_enter_defers Tryz.func19,Tryz.ntmps19
 go_wp2_with (first
  | (go_at_call 39;refine (uh HS).mono ?_;rintro e w3 ⟨v,rfl,ho,hb⟩;have hN:w3.heap[w.heap.size]? = some (.cells #[.slice none 0 0] 31 (0,0)):=(by rw [hb.block _ (by rw [szA,szA];omega),Below.heap_alloc _ _ _ (by rw [szA];omega)];exact heap_alloc_new w _);have hN1:w3.heap[w.heap.size+1]? = some (.cells #[.int .i64 0,.int .i64 0] 25 (0,0)):=(by rw [hb.block _ (by rw [szA,szA];omega)];exact heap_alloc2_new w _ _);obtain⟨q3,q4⟩:=one_cell hN;obtain⟨q5,q6,q7,q8⟩:=two_cells hN1;have hl3:=(Array.getElem?_eq_some_iff.1 hN).1;have hl4:=(Array.getElem?_eq_some_iff.1 hN1).1;have HO:=hide ho;obtain⟨va,vc,rfl⟩:=own_toks ho;have HN:=hide hN;have HN1:=hide hN1;clear hN hN1 ho)
  | (go_at_call 41;refine (program_any (parser_first HO hsm hlen) hlen).mono ?_;intro e w4 ho;rcases ho with⟨k,s4,hq,rfl,hst,hf⟩ | ⟨c,pq,hq,rfl,hb4⟩;(obtain⟨nv,kvs,hblk,hown,hkl,hkk⟩:=hst.own;obtain⟨na,nc,rfl⟩:=own_len hown;obtain⟨g4,g5⟩:=cells5 hblk;have hM:=two_kept hf.below (uh HN) (uh HN1) hl4;obtain⟨m3,m4⟩:=one_cell hM.1;obtain⟨m5,m6,m7,m8⟩:=two_cells hM.2;have HM:=hide hM;have HQ:=hide hq;have hp4:=hst.lt;have HOW:=hide hown;have HKL:=hide hkl;have HKK:=hide hkk;have hbf:=hf.below;clear hM hq hown hkl hkk hblk hst hf)))
 ·have hpr:pr=(0,0,s4.nodes):=by rw [uh HPAR,uh HQ,fold_ok]
  refine leaves_cons (f:=40) (args:=#[.pointer (some ⟨w.heap.size,0,none⟩),.pointer (some ⟨w.heap.size+1,0,none⟩)]) (by simp) (by simp [go_sem]) ?_
  refine (pcatch_idle w.heap.size _).mono ?_
  rintro e u' w'' ⟨rfl,rfl,rfl⟩
  obtain⟨r1,r2,r3⟩:=pres_cells (uh HM).1 (uh HM).2 (.slice na s4.nodes.length nc) (.int .i64 0) (.int .i64 0)
  have hbl:=((((((((uh HBW).trans (hb.mono (by rw [szA,szA];omega))).setCell (p:=⟨w.heap.size+1,0,none⟩) (by show w.heap.size≤w.heap.size+1;omega) (.int .i64 0)).setCell (p:=⟨w.heap.size+1,1,none⟩) (by show w.heap.size≤w.heap.size+1;omega) (.int .i64 (q:Int))).alloc (by rw [size_set,size_set];omega) _).trans (hbf.mono (by omega))).setCell (p:=⟨w.heap.size,0,none⟩) (Nat.le_refl _) (.slice na s4.nodes.length nc)).setCell (p:=⟨w.heap.size+1,0,none⟩) (by show w.heap.size≤w.heap.size+1;omega) (.int .i64 0)).setCell (p:=⟨w.heap.size+1,1,none⟩) (by show w.heap.size≤w.heap.size+1;omega) (.int .i64 0)
  have hnd:=nodes_filled (uh HOW) (uh HKL).1 (fun i n kv hi hj=>(uh HKK i n kv hi hj).1) (B:=w.heap.size) (N:=w.heap.size) (by omega) (by omega) (.slice na s4.nodes.length nc) (.int .i64 0) (.int .i64 0)
  generalize ((w4.setCell ⟨w.heap.size,0,none⟩ (.slice na s4.nodes.length nc)).setCell ⟨w.heap.size+1,0,none⟩ (.int .i64 0)).setCell ⟨w.heap.size+1,1,none⟩ (.int .i64 0)=W9 at *
  rw [hpr]
  simp [Leaves,settle,results,Tryz.results19,go_sem,r1,r2,r3]
  exact⟨hnd,hbl,uh HSC,_,_,by rw [uh HTS];exact uh HQ⟩
 ·have hpr:pr=(c,pq,[]):=by rw [uh HPAR,hq,fold_bad]
  have hM:=two_kept hb4.below (uh HN) (uh HN1) hl4
  obtain⟨m3,m4⟩:=one_cell hM.1
  obtain⟨m5,m6,m7,m8⟩:=two_cells hM.2
  have hs4:w.heap.size+1<w4.heap.size:=(Array.getElem?_eq_some_iff.1 hM.2).1
  refine leaves_cons (f:=40) (args:=#[.pointer (some ⟨w.heap.size,0,none⟩),.pointer (some ⟨w.heap.size+1,0,none⟩)]) (by simp) (by simp [go_sem]) ?_
  refine (pcatch_any w.heap.size _ _ _ c pq [] w4 hb4.code m3 m4 m5 m6 m7 m8 (by omega) hs4).mono ?_
  rintro e u' w'' ⟨rfl,rfl,hbe⟩
  obtain⟨r1,r2,r3⟩:=pres_cells hM.1 hM.2 (.slice none 0 0) (.int .i64 c) (.int .i64 pq)
  have hbl:=((((((((uh HBW).trans (hb.mono (by rw [szA,szA];omega))).setCell (p:=⟨w.heap.size+1,0,none⟩) (by show w.heap.size≤w.heap.size+1;omega) (.int .i64 0)).setCell (p:=⟨w.heap.size+1,1,none⟩) (by show w.heap.size≤w.heap.size+1;omega) (.int .i64 (q:Int))).alloc (by rw [size_set,size_set];omega) _).trans (hb4.below.mono (by omega))).setCell (p:=⟨w.heap.size,0,none⟩) (Nat.le_refl _) (.slice none 0 0)).setCell (p:=⟨w.heap.size+1,0,none⟩) (by show w.heap.size≤w.heap.size+1;omega) (.int .i64 c)).setCell (p:=⟨w.heap.size+1,1,none⟩) (by show w.heap.size≤w.heap.size+1;omega) (.int .i64 pq)
  have t1:=(hbe.cell (p:=⟨w.heap.size,0,none⟩) (by show w.heap.size<_;omega)).trans r1
  have t2:=(hbe.cell (p:=⟨w.heap.size+1,0,none⟩) (by show w.heap.size+1<_;omega)).trans r2
  have t3:=(hbe.cell (p:=⟨w.heap.size+1,1,none⟩) (by show w.heap.size+1<_;omega)).trans r3
  have hbl2:=hbl.trans (hbe.mono (by omega))
  rw [hpr]
  simp [Leaves,settle,results,Tryz.results19,go_sem,t1,t2,t3]
  exact⟨NodesAt.nil _ _,hbl2,fun h=>absurd h (by have:=hb4.code;omega)⟩
theorem parse_any (s:ByteArray) (w:World) (hs:s.size≤maxLen) (hT:Lib.Utf8Tabs 0 1 w) (h2:2≤w.heap.size) :
  Calls Tryz.prog 19 #[.string s] w fun e w'=>∃ v,e=.returned (.tuple #[v,.agg #[.int .i64 (parse s).1,.int .i64 (parse s).2.1]])∧NodesAt w' w.heap.size v (parse s).2.2∧Below w.heap.size w w'∧((parse s).1=0→Parsed s):=by
 by_cases hc:(scan s).1=0
 ·exact parse_main s w hs hT h2 hc
 ·have hp:parse s=((scan s).1,((scan s).2.1:Int),[]):=by unfold parse;rw [if_neg hc]
  rw [hp]
  refine (parse_lex s w hs hT h2 hc).mono ?_
  rintro e w' ⟨rfl,hb⟩
  exact⟨_,rfl,NodesAt.nil _ _,hb,fun h=>absurd h hc⟩
end
end Go.Proofs.YtdemnolanlfblaaGreatDoor
