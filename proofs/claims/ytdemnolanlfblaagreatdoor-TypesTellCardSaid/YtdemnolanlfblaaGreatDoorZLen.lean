import Derived.Test.YtdemnolanlfblaaGreatDoorZStep
set_option linter.all false
namespace Go.Proofs.YtdemnolanlfblaaGreatDoor
section
open Go.RowKit
theorem assert25 (v:Value) (w:World):(Instr.typeAssert (.iface 25 v) 20 25 false).run Tryz.prog w=.ok v w:=by kernel_rfl
set_option maxHeartbeats 1000000 in
theorem catch_panicking (N:Nat) (x:Value) (y z c q:Int) (older:List PanicEntry) (w:World)
  (h0:w.cell? ⟨N,0,none⟩=some x) (f0:w.frozen? ⟨N,0,none⟩=false)
  (h1:w.cell? ⟨N+1,0,none⟩=some (.int .i64 y)) (f1:w.frozen? ⟨N+1,0,none⟩=false) (h2:w.cell? ⟨N+1,1,none⟩=some (.int .i64 z)) (f2:w.frozen? ⟨N+1,1,none⟩=false) :
  CallsD Tryz.prog 64 #[.pointer (some ⟨N,0,none⟩),.pointer (some ⟨N+1,0,none⟩)] (.panicking ({ v:=.iface 25 (.agg #[.int .i64 c,.int .i64 q]),recovered:=false } :: older)) w fun e u' w' =>
   e=.returned (.tuple #[])∧u'=.panicking ({ v:=.iface 25 (.agg #[.int .i64 c,.int .i64 q]),recovered:=true } :: older)∧w'=(((w.setCell ⟨N,0,none⟩ (.slice none 0 0)).setCell ⟨N+1,0,none⟩ (.int .i64 c)).setCell ⟨N+1,1,none⟩ (.int .i64 q)).drew:=by
 have hta:=assert25
 refine callsD_of_wpS Tryz.func64 rfl fun c₀ cs hu=>?_
 apply wpS_seq
 apply wpS_region
 simp [wpOpsS,go_sem,recoverD,hu,Tryz.ntmps64,Exit.thenS]
 refine wpS_of_wp ?_
 have htm:(#[Value.pointer (some { block:=N,off:=0 }),Value.pointer (some { block:=N+1,off:=0 })] ++
     ((Array.replicate 6 undef).setIfInBounds 1
        (Value.iface 25 (Value.agg #[Value.int IntKind.i64 c,Value.int IntKind.i64 q]))).setIfInBounds
      0 (Value.iface 25 (Value.agg #[Value.int IntKind.i64 c,Value.int IntKind.i64 q])))=#[Value.pointer (some { block:=N,off:=0 }),Value.pointer (some { block:=N+1,off:=0 }),Value.iface 25 (Value.agg #[Value.int IntKind.i64 c,Value.int IntKind.i64 q]),Value.iface 25 (Value.agg #[Value.int IntKind.i64 c,Value.int IntKind.i64 q]),undef,undef,undef,undef]:=by rfl
 rw [htm]
 clear htm
 go_wp2
 go_region
 exact⟨rfl,_,rfl,_,results_none Tryz.results64 _ _ _,rfl,rfl,rfl⟩
set_option maxHeartbeats 1000000 in
theorem catch_idle (N:Nat) (w:World) :
  CallsD Tryz.prog 64 #[.pointer (some ⟨N,0,none⟩),.pointer (some ⟨N+1,0,none⟩)] .returning w fun e u' w'=>e=.returned (.tuple #[])∧u'=.returning∧w'=w:=by
 refine callsD_of_wpS Tryz.func64 rfl fun c₀ cs hu=>?_
 apply wpS_seq
 apply wpS_region
 simp [wpOpsS,go_sem,recoverD,hu,Tryz.ntmps64,Exit.thenS]
 refine wpS_of_wp ?_
 have htm:(#[Value.pointer (some { block:=N,off:=0 }),Value.pointer (some { block:=N+1,off:=0 })] ++
     ((Array.replicate 6 undef).setIfInBounds 1 Value.nilIface).setIfInBounds 0 Value.nilIface)=#[Value.pointer (some { block:=N,off:=0 }),Value.pointer (some { block:=N+1,off:=0 }),Value.nilIface,Value.nilIface,undef,undef,undef,undef]:=by rfl
 rw [htm]
 clear htm
 have hcs:c₀ :: cs = { c₀ with mode:=FrameMode.returning } :: cs:=by rw [← hu]
 rw [hcs]
 go_wp2
 exact⟨rfl,_,rfl,_,results_none Tryz.results64 _ _ _,rfl,rfl,rfl⟩
end
section
open Go.RowKit
theorem noteGo_ge:∀ (f:Nat) (s:ByteArray) (j:Nat),j≤s.size→j≤(noteGo f s j).2∧(noteGo f s j).2≤s.size
 | 0,s,j,h=>⟨Nat.le_refl _,h⟩
 | f+1,s,j,h=>by
  unfold noteGo
  by_cases h1:j<s.size
  ·rw [if_pos h1]
   by_cases h2:at' s j=10
   ·rw [if_pos h2];exact⟨Nat.le_refl _,h⟩
   ·rw [if_neg h2]
    by_cases h3:(dec s j).1=65533∧(dec s j).2=1
    ·rw [if_pos h3];exact⟨Nat.le_refl _,h⟩
    ·rw [if_neg h3]
     have hw:=dec_width s j h1
     have:=noteGo_ge f s (j+(dec s j).2) hw.2
     omega
  ·rw [if_neg h1];exact⟨Nat.le_refl _,h⟩
theorem note_gt (s:ByteArray) (i:Nat) (hi:i<s.size) (h:at' s i=47):i<(note s i).2∧(note s i).2≤s.size:=by
 unfold note noteGo
 have hd:=dec_ascii s i hi (by omega)
 rw [if_pos hi,if_neg (by omega),hd,if_neg (by simp;omega)]
 have:=noteGo_ge s.size s (i+1) (by omega)
 simp only []
 omega
theorem ending_le (o:Bool) (i:Nat):(ending o i).length≤1:=by cases o <;> simp [ending]
theorem step_pos (s:ByteArray) (i:Nat) (o:Bool) (hi:i<s.size) (hc:(stepS s i o).code=0):i<(stepS s i o).pos∧(stepS s i o).pos≤s.size∧(stepS s i o).toks.length≤1:=by
 revert hc
 unfold stepS
 by_cases h1:at' s i=10
 ·rw [if_pos h1];intro _;exact⟨by simp,hi,ending_le _ _⟩
 rw [if_neg h1]
 by_cases h2:blankB (at' s i)=true
 ·rw [if_pos h2];intro _;exact⟨by simp,hi,by simp⟩
 rw [if_neg h2]
 by_cases h3:at' s i=47∧i+1<s.size∧at' s (i+1)=47
 ·rw [if_pos h3];intro _
  have:=note_gt s i hi h3.1
  exact⟨this.1,this.2,by simp⟩
 rw [if_neg h3]
 by_cases h4:digitB (at' s i)=true
 ·rw [if_pos h4]
  unfold numOut
  split
  ·intro h;simp at h
  ·intro _
   have:=spanN_pos digitB s i hi h4
   have:=spanN_le digitB s i (by omega)
   exact⟨by simp;omega,by simp;omega,by simp⟩
 rw [if_neg h4]
 by_cases h5:letterB (at' s i)=true
 ·rw [if_pos h5]
  unfold nameOut
  intro _
  have hp:partB (at' s i)=true:=by unfold letterB at h5;unfold partB;simp at h5 ⊢;omega
  have:=spanN_pos partB s i hi hp
  have:=spanN_le partB s i (by omega)
  exact⟨by simp;omega,by simp;omega,by simp⟩
 rw [if_neg h5]
 unfold signOut
 split
 ·intro h;simp at h
 ·intro _
  have:=signN_le s i hi
  exact⟨by simp;omega,by simp;omega,by simp⟩
theorem own_mono {w:World}{b b' e z:Nat}{v:Value}{n:Nat}{xs:List Value}(h:w.ownsRow b e z v n xs) (hb:b'≤b):w.ownsRow b' e z v n xs:=by
 refine⟨h.1,?_⟩
 rcases h.2 with h2 | ⟨g,cap,cur,hv,hg,hh,r⟩
 ·exact Or.inl h2
 ·exact Or.inr ⟨g,cap,cur,hv,by omega,hh,r⟩
theorem own_set {w:World}{b e z:Nat}{v:Value}{n:Nat}{xs:List Value}(h:w.ownsRow b e z v n xs) {a:Addr}(ha:a.block<b) (u:Value):(w.setCell a u).ownsRow b e z v n xs:=ownsRow_setCell_below h ha u
set_option maxHeartbeats 1000000 in
theorem scan_big (s:ByteArray) (w:World) (hbig:6000<s.size) (hs:s.size≤maxLen) :
  Calls Tryz.prog 39 #[.string s] w fun e w'=>e=.returned (.tuple #[.slice none 0 0,.agg #[.int .i64 1,.int .i64 0]])∧Below w.heap.size w w':=by
 unfold maxLen at hs
 have hz:(6000:Int)<(s.size:Int):=by omega
 have hmf:∀ (fn:Fn) (first cap:Array Value) (w:World),(Instr.makeFunc fn first cap).run Tryz.prog w=.ok (.func fn first cap) w:=fun _ _ _ _=>rfl
 go_enter_defers Tryz.func39,Tryz.ntmps39
 go_wp2
 simp [bodyPostD,Leaves,results,Tryz.results39,go_sem]
 exact ((Below.refl _ w).alloc (Nat.le_refl _) _).alloc (by simp) _
theorem first_st (s:ByteArray) (w:World):St (w.heap.size+1+1) s 0 false [] (.slice none 0 0) (((w.alloc (Obj.cells #[Value.slice none 0 0] 52)).alloc (Obj.cells #[Value.int IntKind.i64 0,Value.int IntKind.i64 0] 25)).alloc (Obj.cells #[Value.string s,Value.int IntKind.i64 0,Value.slice none 0 0,Value.bool false] 98)):=by
 refine⟨?_,World.ownsRow_nil _ _ _ _⟩
 show (Array.push _ _)[w.heap.size+1+1]? = _
 have:w.heap.size+1+1=((w.alloc (Obj.cells #[Value.slice none 0 0] 52)).alloc (Obj.cells #[Value.int IntKind.i64 0,Value.int IntKind.i64 0] 25)).heap.size:=by simp
 rw [this,Array.getElem?_push_size]
 rfl
theorem first_cells {w w':World}{o:Obj}(hb:Below (w.heap.size+1+1) (((w.alloc (Obj.cells #[Value.slice none 0 0] 52)).alloc (Obj.cells #[Value.int IntKind.i64 0,Value.int IntKind.i64 0] 25)).alloc o) w') :
  w'.heap[w.heap.size]? = some (.cells #[.slice none 0 0] 52 (0,0))∧w'.heap[w.heap.size+1]? = some (.cells #[.int .i64 0,.int .i64 0] 25 (0,0)):=by
 refine⟨?_,?_⟩
 ·rw [hb.block _ (by omega),Below.heap_alloc _ _ _ (by simp;omega),Below.heap_alloc _ _ _ (by simp)]
  show (Array.push _ _)[w.heap.size]? = _
  simp
 ·rw [hb.block _ (by omega),Below.heap_alloc _ _ _ (by simp)]
  show (Array.push _ _)[w.heap.size+1]? = _
  have:w.heap.size+1=(w.alloc (Obj.cells #[Value.slice none 0 0] 52)).heap.size:=by simp
  rw [this,Array.getElem?_push_size]
theorem one_cell {w:World}{p:Nat}{a:Value}{t:TypeId}(h:w.heap[p]? = some (.cells #[a] t (0,0))):w.cell? ⟨p,0,none⟩=some a∧w.frozen? ⟨p,0,none⟩=false:=by
 simp [World.cell?,World.frozen?,h]
theorem two_cells {w:World}{p:Nat}{a b:Value}{t:TypeId}(h:w.heap[p]? = some (.cells #[a,b] t (0,0))):w.cell? ⟨p,0,none⟩=some a∧w.frozen? ⟨p,0,none⟩=false∧w.cell? ⟨p,1,none⟩=some b∧w.frozen? ⟨p,1,none⟩=false:=by
 simp [World.cell?,World.frozen?,h]
theorem res_cells {w1:World}{N:Nat}{x y z:Value}(q1:w1.heap[N]? = some (.cells #[x] 52 (0,0))) (q2:w1.heap[N+1]? = some (.cells #[y,z] 25 (0,0))) (u c q:Value) :
  (((w1.setCell ⟨N,0,none⟩ u).setCell ⟨N+1,0,none⟩ c).setCell ⟨N+1,1,none⟩ q).cell? ⟨N,0,none⟩=some u∧(((w1.setCell ⟨N,0,none⟩ u).setCell ⟨N+1,0,none⟩ c).setCell ⟨N+1,1,none⟩ q).cell? ⟨N+1,0,none⟩=some c∧(((w1.setCell ⟨N,0,none⟩ u).setCell ⟨N+1,0,none⟩ c).setCell ⟨N+1,1,none⟩ q).cell? ⟨N+1,1,none⟩=some q:=by
 have a1:=block_set (j:=0) (u:=u) q1
 have a2:(((w1.setCell ⟨N,0,none⟩ u).setCell ⟨N+1,0,none⟩ c).setCell ⟨N+1,1,none⟩ q).heap[N]? = some (.cells #[u] 52 (0,0)):=by
  rw [Below.heap_setCell _ _ _ _ (by show N≠N+1;omega),Below.heap_setCell _ _ _ _ (by show N≠N+1;omega),a1];rfl
 have b1:(w1.setCell ⟨N,0,none⟩ u).heap[N+1]? = some (.cells #[y,z] 25 (0,0)):=by
  rw [Below.heap_setCell _ _ _ _ (by show N+1≠N;omega),q2]
 have b3:=block_set (j:=1) (u:=q) (block_set (j:=0) (u:=c) b1)
 exact⟨(one_cell a2).1,(two_cells b3).1,(two_cells b3).2.2.1⟩
set_option maxHeartbeats 1000000 in
theorem scan_small (s:ByteArray) (w:World) (hs:s.size≤6000) (hT:Lib.Utf8Tabs 0 1 w) (h2:2≤w.heap.size) :
  Calls Tryz.prog 39 #[.string s] w fun e w'=>∃ v,e=.returned (.tuple #[v,.agg #[.int .i64 (scan s).1,.int .i64 (scan s).2.1]])∧w'.ownsRow w.heap.size 66 4 v (scan s).2.2.length (tcells (scan s).2.2)∧Below w.heap.size w w':=by
 have hz:¬ (6000:Int)<(s.size:Int):=by omega
 have hmf:∀ (fn:Fn) (first cap:Array Value) (w:World),(Instr.makeFunc fn first cap).run Tryz.prog w=.ok (.func fn first cap) w:=fun _ _ _ _=>rfl
 have hS:scan s=scanGo (s.size+1) s 0 false []:=by unfold scan;rw [if_neg (by omega)]
 go_enter_defers Tryz.func39,Tryz.ntmps39
 go_wp2
 have hst0:=first_st s w
 have hbW:Below w.heap.size w (((w.alloc (Obj.cells #[Value.slice none 0 0] 52)).alloc (Obj.cells #[Value.int IntKind.i64 0,Value.int IntKind.i64 0] 25)).alloc (Obj.cells #[Value.string s,Value.int IntKind.i64 0,Value.slice none 0 0,Value.bool false] 98)) :=
  (((Below.refl _ w).alloc (Nat.le_refl _) _).alloc (by simp) _).alloc (by simp;omega) _
 have hT0:=hide (tabs_below h2 hT hbW)
 have hsz0:(((w.alloc (Obj.cells #[Value.slice none 0 0] 52)).alloc (Obj.cells #[Value.int IntKind.i64 0,Value.int IntKind.i64 0] 25)).alloc (Obj.cells #[Value.string s,Value.int IntKind.i64 0,Value.slice none 0 0,Value.bool false] 98)).heap.size=w.heap.size+3:=by simp
 have hcl:∀ w',Below (w.heap.size+1+1) (((w.alloc (Obj.cells #[Value.slice none 0 0] 52)).alloc (Obj.cells #[Value.int IntKind.i64 0,Value.int IntKind.i64 0] 25)).alloc (Obj.cells #[Value.string s,Value.int IntKind.i64 0,Value.slice none 0 0,Value.bool false] 98)) w'→w'.heap[w.heap.size]? = some (.cells #[.slice none 0 0] 52 (0,0))∧w'.heap[w.heap.size+1]? = some (.cells #[.int .i64 0,.int .i64 0] 25 (0,0)):=fun w' h=>first_cells h
 have HCL:=hide hcl
 have HBW:=hide hbW
 have HS0:=hide hsz0
 have HS:=hide hS
 clear hcl hT hbW hsz0 hS
 generalize (((w.alloc (Obj.cells #[Value.slice none 0 0] 52)).alloc (Obj.cells #[Value.int IntKind.i64 0,Value.int IntKind.i64 0] 25)).alloc (Obj.cells #[Value.string s,Value.int IntKind.i64 0,Value.slice none 0 0,Value.bool false] 98))=W at *
 go_loopw [12] (fun _ wr=>∃ (i f:Nat) (o:Bool) (ts:List Tok) (v:Value),i≤s.size∧s.size<i+f∧ts.length≤i∧scanGo f s i o ts=scan s∧St (w.heap.size+1+1) s i o ts v wr∧Below (w.heap.size+1+1) W wr) (fun _ wr=>s.size - (intOf ((wr.cell? ⟨w.heap.size+1+1,1,none⟩).getD undef)).toNat)
 case atStart=>exact⟨0,s.size+1,false,[],_,Nat.zero_le _,by omega,Nat.le_refl _,(uh HS).symm,hst0,Below.refl _ _⟩
 case round =>
  obtain⟨i,f,o,ts,v,hi,hf,htl,hgo,hst,hb⟩:=hrel
  obtain⟨f,rfl⟩:∃ g,f=g+1:=⟨f - 1,by omega⟩
  obtain⟨c0,c1,c2,c3⟩:=hst.cells
  have hlt:=hst.lt
  by_cases hlt1:i<s.size
  ·have hltz:(i:Int)<(s.size:Int):=by omega
   have hgo2:scan s=if (stepS s i o).code=0 then scanGo f s (stepS s i o).pos (stepS s i o).mark (ts++(stepS s i o).toks) else ((stepS s i o).code,(stepS s i o).pos,[]):=by
    rw [← hgo];simp only [scanGo];rw [if_pos hlt1]
   have hps:=hide (step_pos s i o hlt1)
   have HC:=hide (step_any (w.heap.size+1+1) s i o ts v wr hst hlt1 hs (by omega) (tabs_below (by omega) (uh hT0) hb) (by omega))
   have HG:=hide hgo2
   clear hgo hgo2
   generalize stepS s i o=r at *
   go_wp2_with (go_at_call 65;refine (uh HC).mono ?_;rintro e w1 ⟨hb1,⟨hc,rfl,v1,hst1⟩ | ⟨hc,rfl⟩⟩)
   ·have hps1:=uh hps hc
    go_roundw
    case rel =>
     refine⟨r.pos,f,r.mark,ts++r.toks,v1,hps1.2.1,by omega,by simp;omega,?_,hst1,hb.trans hb1⟩
     rw [uh HG,if_pos hc]
    case measure =>
     rw [hst1.cells.2.1,c1]
     simp [intOf];omega
   ·obtain⟨q1,q2⟩:=uh HCL w1 (hb.trans hb1)
    obtain⟨q3,q4⟩:=one_cell q1
    obtain⟨q5,q6,q7,q8⟩:=two_cells q2
    refine leaves_cons (f:=64) (args:=#[.pointer (some ⟨w.heap.size,0,none⟩),.pointer (some ⟨w.heap.size+1,0,none⟩)]) (by simp) (by simp [go_sem]) ?_
    refine (catch_panicking w.heap.size _ 0 0 r.code r.pos [] w1 q3 q4 q5 q6 q7 q8).mono ?_
    rintro e u' w'' ⟨rfl,rfl,rfl⟩
    have hG:=uh HG
    rw [if_neg hc] at hG
    obtain⟨r1,r2,r3⟩:=res_cells q1 q2 (.slice none 0 0) (.int .i64 r.code) (.int .i64 r.pos)
    have hbl:=(((((uh HBW).trans ((hb.trans hb1).mono (by omega))).setCell (p:=⟨w.heap.size,0,none⟩) (Nat.le_refl _) (.slice none 0 0)).setCell (p:=⟨w.heap.size+1,0,none⟩) (by show w.heap.size≤w.heap.size+1;omega) (.int .i64 r.code)).setCell (p:=⟨w.heap.size+1,1,none⟩) (by show w.heap.size≤w.heap.size+1;omega) (.int .i64 r.pos))
    generalize ((w1.setCell ⟨w.heap.size,0,none⟩ (.slice none 0 0)).setCell ⟨w.heap.size+1,0,none⟩ (.int .i64 r.code)).setCell ⟨w.heap.size+1,1,none⟩ (.int .i64 r.pos)=W9 at *
    simp [Leaves,settle,results,Tryz.results39,go_sem,r1,r2,r3]
    rw [hG]
    exact⟨_,⟨rfl,rfl,rfl⟩,World.ownsRow_nil _ _ _ _,hbl.drew⟩
  ·have hltz:¬ (i:Int)<(s.size:Int):=by omega
   have hgo2:scan s=(0,0,ts++ending o i):=by
    rw [← hgo];simp only [scanGo];rw [if_neg hlt1]
   have HG:=hide hgo2
   clear hgo hgo2
   go_wp2_with (go_at_call 66;refine (endLine_any (w.heap.size+1+1) s i o ts v wr hst (by omega)).mono ?_;rintro e w1 ⟨rfl,v1,hst1,hb1⟩;obtain⟨d0,d1,d2,d3⟩:=hst1.cells;obtain⟨q1,q2⟩:=uh HCL w1 (hb.trans hb1);obtain⟨q3,q4⟩:=one_cell q1;obtain⟨q5,q6,q7,q8⟩:=two_cells q2;have Q1:=hide q1;have Q2:=hide q2;clear q1 q2;obtain⟨va,vb,vc,rfl⟩:=own_form hst1.own)
   refine leaves_cons (f:=64) (args:=#[.pointer (some ⟨w.heap.size,0,none⟩),.pointer (some ⟨w.heap.size+1,0,none⟩)]) (by simp) (by simp [go_sem]) ?_
   refine (catch_idle w.heap.size _).mono ?_
   rintro e u' w'' ⟨rfl,rfl,rfl⟩
   obtain⟨r1,r2,r3⟩:=res_cells (uh Q1) (uh Q2) (.slice va vb vc) (.int .i64 0) (.int .i64 0)
   have hbl:=(((((uh HBW).trans ((hb.trans hb1).mono (by omega))).setCell (p:=⟨w.heap.size,0,none⟩) (Nat.le_refl _) (.slice va vb vc)).setCell (p:=⟨w.heap.size+1,0,none⟩) (by show w.heap.size≤w.heap.size+1;omega) (.int .i64 0)).setCell (p:=⟨w.heap.size+1,1,none⟩) (by show w.heap.size≤w.heap.size+1;omega) (.int .i64 0))
   have how:=own_mono (own_set (own_set (own_set hst1.own (a:=⟨w.heap.size,0,none⟩) (by show w.heap.size<_;omega) (.slice va vb vc)) (a:=⟨w.heap.size+1,0,none⟩) (by show w.heap.size+1<_;omega) (.int .i64 0)) (a:=⟨w.heap.size+1,1,none⟩) (by show w.heap.size+1<_;omega) (.int .i64 0)) (b':=w.heap.size) (by omega)
   generalize ((w1.setCell ⟨w.heap.size,0,none⟩ (.slice va vb vc)).setCell ⟨w.heap.size+1,0,none⟩ (.int .i64 0)).setCell ⟨w.heap.size+1,1,none⟩ (.int .i64 0)=W9 at *
   simp [Leaves,settle,results,Tryz.results39,go_sem,r1,r2,r3]
   rw [uh HG]
   exact⟨_,⟨rfl,rfl,rfl⟩,how,hbl⟩
theorem scan_any (s:ByteArray) (w:World) (hs:s.size≤maxLen) (hT:Lib.Utf8Tabs 0 1 w) (h2:2≤w.heap.size) :
  Calls Tryz.prog 39 #[.string s] w fun e w'=>∃ v,e=.returned (.tuple #[v,.agg #[.int .i64 (scan s).1,.int .i64 (scan s).2.1]])∧w'.ownsRow w.heap.size 66 4 v (scan s).2.2.length (tcells (scan s).2.2)∧Below w.heap.size w w':=by
 by_cases hb:6000<s.size
 ·have hS:scan s=(1,0,[]):=by unfold scan;rw [if_pos hb]
  rw [hS]
  refine (scan_big s w hb hs).mono ?_
  rintro e w' ⟨rfl,h⟩
  exact⟨_,rfl,World.ownsRow_nil _ _ _ _,h⟩
 ·exact scan_small s w (by omega) hT h2
end
section
theorem scanGo_len:∀ (f:Nat) (s:ByteArray) (i:Nat) (o:Bool) (acc:List Tok),i≤s.size→acc.length≤i→(scanGo f s i o acc).2.2.length≤s.size+1
 | 0,s,i,o,acc,_,_=>by simp [scanGo]
 | f+1,s,i,o,acc,hi,ha=>by
  unfold scanGo
  by_cases h1:i<s.size
  ·rw [if_pos h1]
   by_cases h2:(stepS s i o).code=0
   ·rw [if_pos h2]
    have hp:=step_pos s i o h1 h2
    exact scanGo_len f s _ _ _ hp.2.1 (by simp;omega)
   ·rw [if_neg h2];simp
  ·rw [if_neg h1]
   have:=ending_le o i
   simp;omega
end
end Go.Proofs.YtdemnolanlfblaaGreatDoor
