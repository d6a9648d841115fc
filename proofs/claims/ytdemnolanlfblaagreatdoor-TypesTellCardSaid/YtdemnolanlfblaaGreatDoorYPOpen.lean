import Derived.Test.YtdemnolanlfblaaGreatDoorYPLook
set_option linter.all false
namespace Go.Proofs.YtdemnolanlfblaaGreatDoor
section
open Go.RowKit
structure Off (p:Nat) (w w':World):Prop where
 os:w'.os=w.os
 tape:w'.tape=w.tape
 output:w'.output=w.output
 size:w.heap.size≤w'.heap.size
 block:∀ k,k<w.heap.size→k≠p→w'.heap[k]? = w.heap[k]?
theorem Off.refl (p:Nat) (w:World):Off p w w:=⟨rfl,rfl,rfl,Nat.le_refl _,fun _ _ _=>rfl⟩
theorem Off.of {p:Nat}{w w':World}(h:Below w.heap.size w w'):Off p w w':=⟨h.os,h.tape,h.output,h.size,fun k hk _=>h.block k hk⟩
theorem Off.below {p:Nat}{w w1 w2:World}(h:Off p w w1) (hb:Below w1.heap.size w1 w2):Off p w w2 :=
 ⟨hb.os.trans h.os,hb.tape.trans h.tape,hb.output.trans h.output,Nat.le_trans h.size hb.size,fun k hk hp=>(hb.block k (Nat.lt_of_lt_of_le hk h.size)).trans (h.block k hk hp)⟩
theorem Off.alloc {p:Nat}{w w1:World}{o:Obj}(h:Off p w w1):Off p w (w1.alloc o):=h.below (blA _ _)
theorem size_set (w:World) (a:Addr) (u:Value):(w.setCell a u).heap.size=w.heap.size:=by simp [World.setCell]
theorem Off.set {p:Nat}{w w1:World}{a:Addr}{u:Value}(h:Off p w w1) (ha:a.block=p∨w.heap.size≤a.block):Off p w (w1.setCell a u) :=
 ⟨h.os,h.tape,h.output,by rw [size_set];exact h.size,fun k hk hp=>by rw [heap_set_other (by rcases ha with e | e <;> omega)];exact h.block k hk hp⟩
theorem Off.fr {p:Nat}{w w':World}(h:Off p w w') {c:Array Value}{f:Nat × Nat}(hp:w.heap[p]? = some (.cells c 81 f)):Fr p w.heap.size w w':=by
 have hlt:p<w.heap.size:=(Array.getElem?_eq_some_iff.1 hp).1
 refine⟨Nat.le_refl _,hlt,⟨h.os,h.tape,h.output,h.size,fun k hk=>h.block k (by omega) (by omega)⟩,fun k o hk ho hq=>?_⟩
 by_cases hkp:k=p
 ·subst hkp
  rw [hp] at ho
  simp only [Option.some.injEq] at ho
  subst ho
  simp [PlainObj] at hq
 ·rw [h.block k hk hkp];exact ho
theorem PSt.moved {p T tv E r A s w}(h:PSt p T tv E r A s w) {w':World}(ho:Off p w w') (r':Nat) (s':PS) (hr:r'≤30) (hn:s'.nodes=s.nodes) (hs:s'.rest=T.drop (T.length - s'.rest.length)) (hc:phi s'≤phi s)
  (hb:∀ v,w.heap[p]? = some (.cells #[tv,.int .i64 ((T.length - s.rest.length:Nat):Int),.int .i64 E,.int .i64 ((30 - r:Nat):Int),v] 81 (0,0)) →
   w'.heap[p]? = some (.cells #[tv,.int .i64 ((T.length - s'.rest.length:Nat):Int),.int .i64 E,.int .i64 ((30 - r':Nat):Int),v] 81 (0,0))) :
  PSt p T tv E r' A s' w'∧Fr p w.heap.size w w':=by
 obtain⟨v,kvs,hblk,hown,hl,hk⟩:=h.own
 have hkeep:∀ {b e z:Nat}{u:Value}{n:Nat}{xs:List Value},w.ownsRow b e z u n xs→e≠81→w'.ownsRow b e z u n xs:=by
  intro b e z u n xs hrow hne
  refine⟨hrow.1,?_⟩
  rcases hrow.2 with h2 | ⟨g,cap,cur,hv,hg,hh,rr⟩
  ·exact Or.inl h2
  ·refine Or.inr ⟨g,cap,cur,hv,hg,?_,rr⟩
   rw [ho.block g (Array.getElem?_eq_some_iff.1 hh).1 ?_];exact hh
   intro e1
   rw [e1,hblk] at hh
   simp at hh
   exact hne hh.2.symm
 refine⟨⟨hr,hs,h.few,h.small,Nat.le_trans hc h.cap,fun k hk=>Nat.lt_of_lt_of_le (h.sep k hk) ho.size,⟨v,kvs,hb v hblk,?_,?_,?_⟩,hkeep h.toks (by decide)⟩,ho.fr hblk⟩
 ·rw [hn];exact hkeep hown (by decide)
 ·rw [hn];exact hl
 ·rw [hn];exact fun i n kv hi hj=>⟨hkeep (hk i n kv hi hj).1 (by decide),(hk i n kv hi hj).2⟩
theorem box4 {w w1:World}{a b c d:Value}{t:TypeId}(h:w1.heap[w.heap.size]? = some (.cells #[a,b,c,d] t (0,0))) :
  w1.cell? ⟨w.heap.size,0,none⟩=some a∧w1.cell? ⟨w.heap.size,1,none⟩=some b∧w1.cell? ⟨w.heap.size,2,none⟩=some c∧w1.cell? ⟨w.heap.size,3,none⟩=some d ∧
  w1.frozen? ⟨w.heap.size,0,none⟩=false∧w1.frozen? ⟨w.heap.size,1,none⟩=false∧w1.frozen? ⟨w.heap.size,2,none⟩=false∧w1.frozen? ⟨w.heap.size,3,none⟩=false:=by
 simp [World.cell?,World.frozen?,h]
theorem box_below {w w1:World}{o:Obj}(hb:Below (w.alloc o).heap.size (w.alloc o) w1):w1.heap[w.heap.size]? = some o:=by
 rw [hb.block w.heap.size (by rw [szA];omega)]
 exact heap_alloc_new w o
theorem box_fr {p B:Nat}{w w1:World}{o:Obj}(hb:Fr p B (w.alloc o) w1) (hB:w.heap.size<B) (ho:PlainObj o):w1.heap[w.heap.size]? = some o :=
 hb.keep w.heap.size o hB (heap_alloc_new w o) ho
theorem set4 {w1:World}{q:Nat}{a b c d a' b' c' d':Value}{t:TypeId}(h:w1.heap[q]? = some (.cells #[a,b,c,d] t (0,0))) :
  ((((w1.setCell ⟨q,0,none⟩ a').setCell ⟨q,1,none⟩ b').setCell ⟨q,2,none⟩ c').setCell ⟨q,3,none⟩ d').heap[q]? = some (.cells #[a',b',c',d'] t (0,0)):=by
 rw [block_set (block_set (block_set (block_set h)))];rfl
theorem Tryz.infoTok:(Tryz.prog.info? 66).map (·.size)=some 4:=by kernel_rfl
theorem ret_tok {F:Func}{pt:Tmp}{tmps:Array Value}{w:World}{g:Nat}{a b c d:Value}(hr:F.results=#[.cell pt 66]) (hp:tmps.getD pt undef=.pointer (some ⟨g,0,none⟩)) (hg:w.heap[g]? = some (.cells #[a,b,c,d] 66 (0,0))) :
  (results F tmps).run Tryz.prog w=.ok (.agg #[a,b,c,d]) w :=
 results_cell_row hr tmps w g 66 _ (0,0) _ hp hg Tryz.underlying66 rfl Tryz.infoTok
structure Ill (c:Int) (p:Nat) (w w':World):Prop where
 below:Below p w w'
 code:c=3∨c=4∨c=5
def ft (c:Int):TypeId:=if c=3 then 77 else if c=4 then 78 else 79
def Out {α:Type}(p:Nat) (T:List Tok) (tv:Value) (E r:Nat) (A:Nat→Prop) (B c:Nat) (s:PS) (w:World) (res:Res α) (R:α→Value→World→Prop) (e:Ending) (w':World):Prop:=match (res:Except (Int × Int) (α × PS)) with
 | Except.ok (a,s')=>∃ v,e=.returned v∧R a v w'∧PSt p T tv E r A s' w'∧Fr p B w w'∧phi s'+c≤phi s
 | Except.error (c,q)=>e=.panicked [{ v:=.iface (ft c) (.agg #[.int .i64 q]),recovered:=false }]∧Ill c p w w'
theorem Out.elim {α:Type}{p:Nat}{T:List Tok}{tv:Value}{E r:Nat}{A:Nat→Prop}{B c:Nat}{s:PS}{w:World}{res:Res α}{R:α→Value→World→Prop}{e:Ending}{w':World}(h:Out p T tv E r A B c s w res R e w') :
  (∃ a s' v,res=.ok a s'∧e=.returned v∧R a v w'∧PSt p T tv E r A s' w'∧Fr p B w w'∧phi s'+c≤phi s)∨(∃ c q,res=.bad c q∧e=.panicked [{ v:=.iface (ft c) (.agg #[.int .i64 q]),recovered:=false }]∧Ill c p w w'):=by
 cases res using Res.parts with
 | ok a s'=>obtain⟨v,h1,h2,h3,h4,h5⟩:=h;exact Or.inl ⟨a,s',v,rfl,h1,h2,h3,h4,h5⟩
 | bad c q=>exact Or.inr ⟨c,q,rfl,h.1,h.2⟩
theorem Out.good {α:Type}{p:Nat}{T:List Tok}{tv:Value}{E r:Nat}{A:Nat→Prop}{B c:Nat}{s:PS}{w:World}{res:Res α}{R:α→Value→World→Prop}{v:Value}{w':World}{a:α}{s':PS}(h:res=.ok a s') (hR:R a v w') (hs:PSt p T tv E r A s' w') (hf:Fr p B w w') (hd:phi s'+c≤phi s):Out p T tv E r A B c s w res R (.returned v) w':=by
 subst h;exact⟨v,rfl,hR,hs,hf,hd⟩
theorem Out.ill {α:Type}{p:Nat}{T:List Tok}{tv:Value}{E r:Nat}{A:Nat→Prop}{B d:Nat}{s:PS}{w:World}{res:Res α}{R:α→Value→World→Prop}{w':World}{c q:Int}(h:res=.bad c q) (hb:Ill c p w w'):Out p T tv E r A B d s w res R (.panicked [{ v:=.iface (ft c) (.agg #[.int .i64 q]),recovered:=false }]) w':=by
 subst h;exact⟨rfl,hb⟩
def RTok (t:Tok) (v:Value) (_:World):Prop:=v=.agg #[.int .i64 t.kind,.string t.text,.int .i64 t.num,.int .i64 t.pos]
def RStr (t:ByteArray) (v:Value) (_:World):Prop:=v=.string t
def RNat (k:Nat) (v:Value) (_:World):Prop:=v=.int .i64 (k:Int)
set_option maxHeartbeats 1000000 in
theorem isKind_any {p T tv E r A s w}(h:PSt p T tv E r A s w) (k:Int) :
  Calls Tryz.prog 163 #[.pointer (some ⟨p,0,none⟩),.int .i64 k] w fun e w'=>e=.returned (.bool (decide ((look E s 0).kind=k)))∧Below w.heap.size w w':=by
 have HL:=hide (look0_any h)
 have hf1:=field_kind
 generalize look E s 0=t at *
 go_enter Tryz.func163,Tryz.ntmps163
 go_wp2_with (go_at_call 126;refine (uh HL).mono ?_;rintro e w1 ⟨rfl,hb1⟩)
 go_returns
 exact⟨rfl,hb1⟩
set_option maxHeartbeats 1000000 in
theorem refuse_any {p T tv E r A s w}(h:PSt p T tv E r A s w) :
  Calls Tryz.prog 101 #[.pointer (some ⟨p,0,none⟩)] w fun e w'=>e=.panicked [{ v:=.iface 77 (.agg #[.int .i64 (look E s 0).pos]),recovered:=false }]∧Below w.heap.size w w':=by
 have HL:=hide (look0_any h)
 have hf1:=field_pos
 generalize look E s 0=t at *
 go_enter Tryz.func101,Tryz.ntmps101
 go_wp2_with (go_at_call 126;refine (uh HL).mono ?_;rintro e w1 ⟨rfl,hb1⟩)
 exact⟨rfl,rfl,hb1⟩
set_option maxHeartbeats 1000000 in
theorem next_any {p T tv E r A s w}(h:PSt p T tv E r A s w) (hne:s.rest≠[]) :
  Calls Tryz.prog 102 #[.pointer (some ⟨p,0,none⟩)] w (Out p T tv E r A w.heap.size 3 s w (next E s) RTok):=by
 obtain⟨t,rest,hrest⟩:∃ t rest,s.rest=t :: rest:=List.exists_cons_of_ne_nil hne
 have hp:=h.lt
 have hrl:=rest_le h
 have hfew:=h.few
 have hl:s.rest.length=rest.length+1:=by rw [hrest];rfl
 have hlook:look E s 0=t:=by simp [look,List.getD,hrest]
 have HL:=hide (look0_any (h.alloc (Obj.cells #[Value.int IntKind.i64 0,Value.string { data:=#[] },Value.int IntKind.i64 0,Value.int IntKind.i64 0] 66)))
 rw [hlook] at HL
 have hnext:next E s=.ok t { s with rest:=rest }:=by simp [next,hlook,hrest]
 have hsuf:rest=T.drop (T.length - rest.length):=by
  have h1:=h.suffix
  have h2:T.length - rest.length=T.length - s.rest.length+1:=by omega
  rw [h2,← List.drop_drop,← h1,hrest]
  rfl
 have HP:=hide h
 have HSUF:=hide hsuf
 have HN:=hide hnext
 have HD:Hid (phi { s with rest:=rest }+3≤phi s):=by
  show s.nodes.length+3 * rest.length+3≤s.nodes.length+3 * s.rest.length
  omega
 have hi0:0≤((T.length - s.rest.length:Nat):Int):=by omega
 have hi1:((T.length - s.rest.length:Nat):Int)≤100000:=by omega
 have HL2:=hide hl
 have HRL:=hide hrl
 clear h hsuf hnext hrest hne hlook hl hrl
 go_enter Tryz.func102,Tryz.ntmps102
 go_wp2_with (go_at_call 126;refine (uh HL).mono ?_;rintro e w1 ⟨rfl,hb1⟩;have hst1:=((uh HP).alloc _).new hb1;obtain⟨v,d0,d1,d2,d3,d4,df⟩:=hst1.cells;have df1:=df 1;have hp1:=hst1.lt;have hsz:w.heap.size<w1.heap.size:=(by have:=hb1.size;rw [szA] at this;omega);obtain⟨x0,x1,x2,x3,y0,y1,y2,y3⟩:=box4 (box_below hb1))
 refine bodyPost_ret (ret_tok (g:=w.heap.size) (a:=.int .i64 t.kind) (b:=.string t.text) (c:=.int .i64 t.num) (d:=.int .i64 t.pos) rfl rfl ?_) rfl ?_
 ·rw [Below.heap_alloc _ _ _ (by simp only [size_set];omega)]
  exact set4 ((heap_set_other (by show w.heap.size≠p;omega)).trans (box_below hb1))
 ·have hnum:((T.length - s.rest.length:Nat):Int)+1=((T.length - rest.length:Nat):Int):=by
   have:=uh HL2;have:=uh HRL;omega
  have ho:Off p w _:=Off.alloc (o:=Obj.cells #[Value.int IntKind.i64 t.kind,Value.string t.text,Value.int IntKind.i64 t.num,Value.int IntKind.i64 t.pos] 66) (Off.set (a:=⟨w.heap.size,3,none⟩) (u:=.int .i64 t.pos) (Off.set (a:=⟨w.heap.size,2,none⟩) (u:=.int .i64 t.num) (Off.set (a:=⟨w.heap.size,1,none⟩) (u:=.string t.text) (Off.set (a:=⟨w.heap.size,0,none⟩) (u:=.int .i64 t.kind) (Off.set (a:=⟨p,1,none⟩) (u:=.int .i64 (((T.length - s.rest.length:Nat):Int)+1)) (Off.below (Off.alloc (Off.refl p w)) hb1) (Or.inl rfl)) (Or.inr (Nat.le_refl _))) (Or.inr (Nat.le_refl _))) (Or.inr (Nat.le_refl _))) (Or.inr (Nat.le_refl _)))
  obtain⟨h1,h2⟩:=(uh HP).moved ho r { s with rest:=rest } (uh HP).room rfl (uh HSUF) (Nat.le_of_add_right_le (uh HD)) (by
   intro v' hv'
   rw [Below.heap_alloc _ _ _ (by simp only [size_set];omega),heap_set_other (by show p≠w.heap.size;omega),heap_set_other (by show p≠w.heap.size;omega),heap_set_other (by show p≠w.heap.size;omega),heap_set_other (by show p≠w.heap.size;omega)]
   rw [block_set (j:=1) ((hb1.block p (by rw [szA];omega)).trans ((Below.heap_alloc _ _ _ hp).trans hv')),hnum]
   rfl)
  exact Out.good (uh HN) rfl h1 h2 (uh HD)
end
section
open Go.RowKit
theorem rest_ne_text {E:Nat}{s:PS}{x:ByteArray}(h:(look E s 0).text=x) (hx:0<x.size):s.rest≠[]:=by
 intro h0
 simp [look,h0] at h
 subst h
 exact absurd hx (by decide)
theorem rest_ne_is {E:Nat}{s:PS}{ws:List ByteArray}(h:isB E s ws=true) (hx:∀ x ∈ ws,0<x.size):s.rest≠[]:=by
 simp only [isB,List.any_eq_true,decide_eq_true_eq] at h
 obtain⟨x,hm,he⟩:=h
 exact rest_ne_text he (hx x hm)
theorem rest_ne_kind {E:Nat}{s:PS}{k:Int}(h:(look E s 0).kind=k) (hk:k≠0):s.rest≠[]:=by
 intro h0
 simp [look,h0] at h
 exact hk h.symm
theorem Fr.below' {p B:Nat}{w w1 w2:World}{c:Int}(h:Fr p B w w1) (hb:Ill c p w1 w2):Ill c p w w2:=⟨h.below.trans hb.below,hb.code⟩
theorem Ill.behind {p:Nat}{w w1 w2:World}{c:Int}(h:Below p w w1) (hb:Ill c p w1 w2):Ill c p w w2:=⟨h.trans hb.below,hb.code⟩
theorem bind_ok {α β:Type}{res:Res β}{m:M α}{f:α→M β}{s s':PS}{a:α}(h:res=M.bind m f s) (hq:m s=.ok a s'):res=f a s':=by rw [h,bind_at,hq];rfl
theorem bind_bad {α β:Type}{res:Res β}{m:M α}{f:α→M β}{s:PS}{c q:Int}(h:res=M.bind m f s) (hq:m s=.bad c q):res=.bad c q:=by rw [h,bind_at,hq];rfl
theorem ite_yes {β:Type}{res:Res β}{b:Bool}{m n:M β}{s:PS}(h:res=(if b=true then m else n) s) (hb:b=true):res=m s:=by rw [h,if_pos hb]
theorem ite_no {β:Type}{res:Res β}{b:Bool}{m n:M β}{s:PS}(h:res=(if b=true then m else n) s) (hb:b=false):res=n s:=by rw [h,if_neg (by rw [hb];decide)]
theorem PSt.setBox {p T tv E r A s w}(h:PSt p T tv E r A s w) {a:Addr}{c:Array Value}{f:Nat × Nat}(ha:w.heap[a.block]? = some (.cells c 66 f)) (ht:∀ k,tv.ownBlock=some k→k≠a.block) (u:Value):PSt p T tv E r A s (w.setCell a u):=by
 obtain⟨v,kvs,hblk,hown,hl,hk⟩:=h.own
 refine⟨h.room,h.suffix,h.few,h.small,h.cap,by rw [size_set];exact h.sep,⟨v,kvs,?_,own_set_ne hown (own_ne hown ha (by decide)) u,hl,fun i n kv hi hj=>⟨own_set_ne (hk i n kv hi hj).1 (own_ne (hk i n kv hi hj).1 ha (by decide)) u,(hk i n kv hi hj).2⟩⟩,own_set_ne h.toks ht u⟩
 rw [heap_set_other];exact hblk
 intro he
 rw [← he,hblk] at ha
 simp at ha
theorem PSt.fill {p T tv E r A s w s0 w2}{r0:Nat}(h0:PSt p T tv E r0 A s0 w) (h:PSt p T tv E r A s w2) {a b c d a' b' c' d':Value}(hb:w2.heap[w.heap.size]? = some (.cells #[a,b,c,d] 66 (0,0))) :
  PSt p T tv E r A s ((((w2.setCell ⟨w.heap.size,0,none⟩ a').setCell ⟨w.heap.size,1,none⟩ b').setCell ⟨w.heap.size,2,none⟩ c').setCell ⟨w.heap.size,3,none⟩ d'):=by
 have ht:∀ k,tv.ownBlock=some k→k≠w.heap.size:=fun k hk=>by
  have:=(h0.toks.lt k hk).2
  omega
 have b1:=block_set (j:=0) (u:=a') hb
 have b2:=block_set (j:=1) (u:=b') b1
 have b3:=block_set (j:=2) (u:=c') b2
 exact (((h.setBox (a:=⟨w.heap.size,0,none⟩) hb ht a').setBox (a:=⟨w.heap.size,1,none⟩) b1 ht b').setBox (a:=⟨w.heap.size,2,none⟩) b2 ht c').setBox (a:=⟨w.heap.size,3,none⟩) b3 ht d'
theorem Fr.fill {p:Nat}{w w2:World}(hf:Fr p w.heap.size w w2) (a' b' c' d':Value):Fr p w.heap.size w ((((w2.setCell ⟨w.heap.size,0,none⟩ a').setCell ⟨w.heap.size,1,none⟩ b').setCell ⟨w.heap.size,2,none⟩ c').setCell ⟨w.heap.size,3,none⟩ d'):=by
 have:=hf.lp
 exact (((hf.set (a:=⟨w.heap.size,0,none⟩) (by show p≤w.heap.size;omega) (Nat.le_refl _) a').set (a:=⟨w.heap.size,1,none⟩) (by show p≤w.heap.size;omega) (Nat.le_refl _) b').set (a:=⟨w.heap.size,2,none⟩) (by show p≤w.heap.size;omega) (Nat.le_refl _) c').set (a:=⟨w.heap.size,3,none⟩) (by show p≤w.heap.size;omega) (Nat.le_refl _) d'
set_option maxHeartbeats 2000000 in
theorem want_any {p T tv E r A s w}(h:PSt p T tv E r A s w) (g c:Nat) (ws:List ByteArray) (hw:Words w g ws) (hl:ws.length≤100) (hx:∀ x ∈ ws,0<x.size) :
  Calls Tryz.prog 68 #[.pointer (some ⟨p,0,none⟩),.slice (some ⟨g,0,none⟩) ws.length c] w (Out p T tv E r A w.heap.size 3 s w (want E ws s) RTok):=by
 have hp:=h.lt
 have HW:=hide (hw.new (blA w (Obj.cells #[Value.int IntKind.i64 0,Value.string { data:=#[] },Value.int IntKind.i64 0,Value.int IntKind.i64 0] 66)))
 have HP:=hide (h.alloc (Obj.cells #[Value.int IntKind.i64 0,Value.string { data:=#[] },Value.int IntKind.i64 0,Value.int IntKind.i64 0] 66))
 have HI:=hide (is_any (uh HP) g c ws (uh HW) hl)
 have HX:=hide hx
 have HH:=hide h
 obtain⟨res,hres⟩:∃ res,res=want E ws s:=⟨_,rfl⟩
 rw [← hres]
 clear hw h hx
 by_cases hy:isB E s ws=true
 ·have hq:want E ws s=next E s:=by simp [want,hy]
  rw [hq] at hres
  have HM:=hide hres
  have hne:=hide (rest_ne_is hy (uh HX))
  rw [hy] at HI
  clear hres hq hy
  generalize ws.length=n at *
  go_enter Tryz.func68,Tryz.ntmps68
  go_wp2_with (first
   | (go_at_call 98;refine (uh HI).mono ?_;rintro e w1 ⟨rfl,hb1⟩;have hst1:=(uh HP).new hb1;have hsz:w.heap.size<w1.heap.size:=(by have:=hb1.size;rw [szA] at this;omega))
   | (go_at_call 102;refine (next_any hst1 (uh hne)).mono ?_;intro e w2 ho2;rcases ho2.elim with⟨a,s2,v,hq2,rfl,hR2,hst2,hf2,hd2⟩ | ⟨c,q,hq2,rfl,hb2⟩;rotate_left;exact⟨rfl,Out.ill ((uh HM).trans hq2) (Ill.behind (((blA w _).mono (Nat.le_of_lt hp)).trans (hb1.mono (by rw [szA];omega))) hb2)⟩;(have HQ2:=hide hq2;have hbx:=hf2.keep w.heap.size _ hsz (box_below hb1) (by simp [PlainObj]);obtain⟨x0,x1,x2,x3,y0,y1,y2,y3⟩:=box4 hbx;have HBX:=hide hbx;clear hbx hq2 ho2;unfold RTok at hR2;subst hR2)))
  refine bodyPost_ret (ret_tok (g:=w.heap.size) (a:=.int .i64 a.kind) (b:=.string a.text) (c:=.int .i64 a.num) (d:=.int .i64 a.pos) rfl rfl (set4 (uh HBX))) rfl ?_
  exact Out.good ((uh HM).trans (uh HQ2)) rfl ((uh HH).fill hst2 (uh HBX)) (Fr.fill (((Fr.of (blA w _) hp).new hb1).step hf2) _ _ _ _) hd2
 ·simp at hy
  have hq:want E ws s=refuse E s:=by simp [want,hy]
  rw [hq] at hres
  have HM:=hide hres
  rw [hy] at HI
  clear hres hq hy
  generalize ws.length=n at *
  go_enter Tryz.func68,Tryz.ntmps68
  go_wp2_with (first
   | (go_at_call 98;refine (uh HI).mono ?_;rintro e w1 ⟨rfl,hb1⟩;have hst1:=(uh HP).new hb1)
   | (go_at_call 101;refine (refuse_any hst1).mono ?_;rintro e w2 ⟨rfl,hb2⟩))
  exact⟨rfl,Out.ill (uh HM) ⟨(((blA w _).mono (Nat.le_of_lt hp)).trans (hb1.mono (by rw [szA];omega))).trans (hb2.mono (Nat.le_of_lt hst1.lt)),Or.inl rfl⟩⟩
end
section
open Go.RowKit
set_option maxHeartbeats 2000000 in
theorem wantKind_any {p T tv E r A s w}(h:PSt p T tv E r A s w) (k:Int) (hk:k≠0) :
  Calls Tryz.prog 144 #[.pointer (some ⟨p,0,none⟩),.int .i64 k] w (Out p T tv E r A w.heap.size 3 s w (wantKind E k s) RTok):=by
 have hp:=h.lt
 have HP:=hide (h.alloc (Obj.cells #[Value.int IntKind.i64 0,Value.string { data:=#[] },Value.int IntKind.i64 0,Value.int IntKind.i64 0] 66))
 have HI:=hide (isKind_any (uh HP) k)
 have HH:=hide h
 obtain⟨res,hres⟩:∃ res,res=wantKind E k s:=⟨_,rfl⟩
 rw [← hres]
 clear h
 by_cases hy:(look E s 0).kind=k
 ·have hq:wantKind E k s=next E s:=by simp [wantKind,hy]
  rw [hq] at hres
  have HM:=hide hres
  have hne:=hide (rest_ne_kind hy hk)
  rw [decide_eq_true hy] at HI
  clear hres hq hy
  go_enter Tryz.func144,Tryz.ntmps144
  go_wp2_with (first
   | (go_at_call 163;refine (uh HI).mono ?_;rintro e w1 ⟨rfl,hb1⟩;have hst1:=(uh HP).new hb1;have hsz:w.heap.size<w1.heap.size:=(by have:=hb1.size;rw [szA] at this;omega))
   | (go_at_call 102;refine (next_any hst1 (uh hne)).mono ?_;intro e w2 ho2;rcases ho2.elim with⟨a,s2,v,hq2,rfl,hR2,hst2,hf2,hd2⟩ | ⟨c,q,hq2,rfl,hb2⟩;rotate_left;exact⟨rfl,Out.ill ((uh HM).trans hq2) (Ill.behind (((blA w _).mono (Nat.le_of_lt hp)).trans (hb1.mono (by rw [szA];omega))) hb2)⟩;(have HQ2:=hide hq2;have hbx:=hf2.keep w.heap.size _ hsz (box_below hb1) (by simp [PlainObj]);obtain⟨x0,x1,x2,x3,y0,y1,y2,y3⟩:=box4 hbx;have HBX:=hide hbx;clear hbx hq2 ho2;unfold RTok at hR2;subst hR2)))
  refine bodyPost_ret (ret_tok (g:=w.heap.size) (a:=.int .i64 a.kind) (b:=.string a.text) (c:=.int .i64 a.num) (d:=.int .i64 a.pos) rfl rfl (set4 (uh HBX))) rfl ?_
  exact Out.good ((uh HM).trans (uh HQ2)) rfl ((uh HH).fill hst2 (uh HBX)) (Fr.fill (((Fr.of (blA w _) hp).new hb1).step hf2) _ _ _ _) hd2
 ·have hq:wantKind E k s=refuse E s:=by simp [wantKind,hy]
  rw [hq] at hres
  have HM:=hide hres
  rw [decide_eq_false hy] at HI
  clear hres hq hy
  go_enter Tryz.func144,Tryz.ntmps144
  go_wp2_with (first
   | (go_at_call 163;refine (uh HI).mono ?_;rintro e w1 ⟨rfl,hb1⟩;have hst1:=(uh HP).new hb1)
   | (go_at_call 101;refine (refuse_any hst1).mono ?_;rintro e w2 ⟨rfl,hb2⟩))
  exact⟨rfl,Out.ill (uh HM) ⟨(((blA w _).mono (Nat.le_of_lt hp)).trans (hb1.mono (by rw [szA];omega))).trans (hb2.mono (Nat.le_of_lt hst1.lt)),Or.inl rfl⟩⟩
set_option maxHeartbeats 2000000 in
theorem wantName_any {p T tv E r A s w}(h:PSt p T tv E r A s w) :
  Calls Tryz.prog 127 #[.pointer (some ⟨p,0,none⟩)] w (Out p T tv E r A w.heap.size 3 s w (wantName E s) RStr):=by
 have hp:=h.lt
 have hf1:=field_text
 obtain⟨res,hres⟩:∃ res,res=wantName E s:=⟨_,rfl⟩
 rw [← hres]
 have HM:=hide hres
 clear hres
 go_enter Tryz.func127,Tryz.ntmps127
 go_wp2_with (go_at_call 144;refine (wantKind_any h 1 (by decide)).mono ?_;intro e w1 ho;rcases ho.elim with⟨a,s1,v,hq,rfl,hR,hst,hf,hd⟩ | ⟨c,q,hq,rfl,hb⟩;rotate_left;exact⟨rfl,Out.ill (bind_bad (uh HM) hq) hb⟩;replace HM:=hide (bind_ok (uh HM) hq);unfold RTok at hR;subst hR;clear ho hq)
 go_returns
 exact Out.good (uh HM) rfl hst hf hd
theorem p_set {w:World}{p:Nat}{tv:Value}{i E d:Int}{v:Value}(h:w.heap[p]? = some (.cells #[tv,.int .i64 i,.int .i64 E,.int .i64 d,v] 81 (0,0))) (d':Int) :
  (w.setCell ⟨p,3,none⟩ (.int .i64 d')).heap[p]? = some (.cells #[tv,.int .i64 i,.int .i64 E,.int .i64 d',v] 81 (0,0)):=by
 rw [block_set (j:=3) h];rfl
theorem PSt.setRoom {p T tv E r A s w}(h:PSt p T tv E r A s w) (r':Nat) (hr:r'≤30) (d:Int) (hd:d=((30 - r':Nat):Int)):PSt p T tv E r' A s (w.setCell ⟨p,3,none⟩ (.int .i64 d))∧Fr p w.heap.size w (w.setCell ⟨p,3,none⟩ (.int .i64 d)):=by
 refine h.moved (Off.set (Off.refl p w) (Or.inl rfl)) r' s hr rfl h.suffix (Nat.le_refl _) ?_
 intro v hv
 rw [p_set hv,hd]
set_option maxHeartbeats 2000000 in
theorem leave_any {p T tv E r A s w}(h:PSt p T tv E r A s w) (hr:r<30) :
  Calls Tryz.prog 165 #[.pointer (some ⟨p,0,none⟩)] w fun e w'=>e=.returned (.tuple #[])∧PSt p T tv E (r+1) A s w'∧Fr p w.heap.size w w':=by
 obtain⟨v,c0,c1,c2,c3,c4,cf⟩:=h.cells
 have hf3:=cf 3
 have hp:=h.lt
 have HS:=hide (h.setRoom (r+1) (by omega) (((30 - r:Nat):Int) - 1) (by omega))
 have hi0:0≤((30 - r:Nat):Int):=by omega
 have hi1:((30 - r:Nat):Int)≤30:=by omega
 clear h
 go_enter Tryz.func165,Tryz.ntmps165
 go_wp2
 go_end0
 exact⟨rfl,(uh HS).1,(uh HS).2⟩
def RUnit {α:Type}(_:α) (v:Value) (_:World):Prop:=v=.tuple #[]
theorem words1 {w:World}{a:ByteArray}{t:TypeId}:Words (w.alloc (.cells #[.string a] t)) w.heap.size [a]:=by
 intro j hj
 match j,hj with
 | 0,_=>simp [go_sem]
theorem words2 {w:World}{a b:ByteArray}{t:TypeId}:Words (w.alloc (.cells #[.string a,.string b] t)) w.heap.size [a,b]:=by
 intro j hj
 match j,hj with
 | 0,_=>simp [go_sem]
 | 1,_=>simp [go_sem]
theorem words3 {w:World}{a b c:ByteArray}{t:TypeId}:Words (w.alloc (.cells #[.string a,.string b,.string c] t)) w.heap.size [a,b,c]:=by
 intro j hj
 match j,hj with
 | 0,_=>simp [go_sem]
 | 1,_=>simp [go_sem]
 | 2,_=>simp [go_sem]
theorem words5 {w:World}{a b c d e:ByteArray}{t:TypeId}:Words (w.alloc (.cells #[.string a,.string b,.string c,.string d,.string e] t)) w.heap.size [a,b,c,d,e]:=by
 intro j hj
 match j,hj with
 | 0,_=>simp [go_sem]
 | 1,_=>simp [go_sem]
 | 2,_=>simp [go_sem]
 | 3,_=>simp [go_sem]
 | 4,_=>simp [go_sem]
theorem Out.from {α:Type}{p:Nat}{T:List Tok}{tv:Value}{E r:Nat}{A:Nat→Prop}{c:Nat}{s:PS}{w:World}{o:Obj}{res:Res α}{R:α→Value→World→Prop}{e:Ending}{w':World}(hp:p<w.heap.size) (h:Out p T tv E r A (w.alloc o).heap.size c s (w.alloc o) res R e w'):Out p T tv E r A w.heap.size c s w res R e w':=by
 cases res using Res.parts with
 | ok a s'=>obtain⟨v,h1,h2,h3,h4,h5⟩:=h;exact⟨v,h1,h2,h3,(Fr.of (blA w o) hp).step h4,h5⟩
 | bad c q=>exact⟨h.1,Ill.behind ((blA w o).mono (Nat.le_of_lt hp)) h.2⟩
theorem want1 {p T tv E r A s w}(h:PSt p T tv E r A s w) {a:ByteArray}{t:TypeId}{c:Nat}(hx:0<a.size) :
  Calls Tryz.prog 68 #[.pointer (some ⟨p,0,none⟩),.slice (some ⟨w.heap.size,0,none⟩) 1 c] (w.alloc (.cells #[.string a] t)) (Out p T tv E r A w.heap.size 3 s w (want E [a] s) RTok) :=
 (want_any (h.alloc _) w.heap.size c [a] words1 (by simp) (by simpa using hx)).mono fun _ _ ho=>Out.from h.lt ho
theorem want2 {p T tv E r A s w}(h:PSt p T tv E r A s w) {a b:ByteArray}{t:TypeId}{c:Nat}(hx:0<a.size∧0<b.size) :
  Calls Tryz.prog 68 #[.pointer (some ⟨p,0,none⟩),.slice (some ⟨w.heap.size,0,none⟩) 2 c] (w.alloc (.cells #[.string a,.string b] t)) (Out p T tv E r A w.heap.size 3 s w (want E [a,b] s) RTok) :=
 (want_any (h.alloc _) w.heap.size c [a,b] words2 (by simp) (by simpa using hx)).mono fun _ _ ho=>Out.from h.lt ho
theorem is1 {p T tv E r A s w}(h:PSt p T tv E r A s w) {a:ByteArray}{t:TypeId}{c:Nat} :
  Calls Tryz.prog 98 #[.pointer (some ⟨p,0,none⟩),.slice (some ⟨w.heap.size,0,none⟩) 1 c] (w.alloc (.cells #[.string a] t)) fun e w'=>e=.returned (.bool (isB E s [a]))∧Below w.heap.size w w' :=
 (is_any (h.alloc _) w.heap.size c [a] words1 (by simp)).mono fun _ _ ho=>⟨ho.1,(blA w _).trans (ho.2.mono (by rw [szA];omega))⟩
theorem is2 {p T tv E r A s w}(h:PSt p T tv E r A s w) {a b:ByteArray}{t:TypeId}{c:Nat} :
  Calls Tryz.prog 98 #[.pointer (some ⟨p,0,none⟩),.slice (some ⟨w.heap.size,0,none⟩) 2 c] (w.alloc (.cells #[.string a,.string b] t)) fun e w'=>e=.returned (.bool (isB E s [a,b]))∧Below w.heap.size w w' :=
 (is_any (h.alloc _) w.heap.size c [a,b] words2 (by simp)).mono fun _ _ ho=>⟨ho.1,(blA w _).trans (ho.2.mono (by rw [szA];omega))⟩
theorem is5 {p T tv E r A s w}(h:PSt p T tv E r A s w) {a b x y z:ByteArray}{t:TypeId}{c:Nat} :
  Calls Tryz.prog 98 #[.pointer (some ⟨p,0,none⟩),.slice (some ⟨w.heap.size,0,none⟩) 5 c] (w.alloc (.cells #[.string a,.string b,.string x,.string y,.string z] t)) fun e w'=>e=.returned (.bool (isB E s [a,b,x,y,z]))∧Below w.heap.size w w' :=
 (is_any (h.alloc _) w.heap.size c [a,b,x,y,z] words5 (by simp)).mono fun _ _ ho=>⟨ho.1,(blA w _).trans (ho.2.mono (by rw [szA];omega))⟩
set_option maxHeartbeats 2000000 in
theorem shut_any {p T tv E r A s w}(h:PSt p T tv E r A s w) (hr:r<30) (a:ByteArray) (hx:0<a.size) :
  Calls Tryz.prog 148 #[.pointer (some ⟨p,0,none⟩),.string a] w (Out p T tv E (r+1) A w.heap.size 3 s w (want E [a] s) RUnit):=by
 have hp:=h.lt
 obtain⟨res,hres⟩:∃ res,res=want E [a] s:=⟨_,rfl⟩
 rw [← hres]
 have HM:=hide hres
 clear hres
 go_enter Tryz.func148,Tryz.ntmps148
 go_wp2_with (first
  | (go_at_call 68;refine (want1 h hx).mono ?_;intro e w1 ho;rcases ho.elim with⟨a,s1,v,hq,rfl,hR,hst,hf,hd⟩ | ⟨c,q,hq,rfl,hb⟩;rotate_left;exact⟨rfl,Out.ill ((uh HM).trans hq) hb⟩;replace HM:=hide ((uh HM).trans hq);clear ho hq)
  | (go_at_call 165;refine (leave_any hst hr).mono ?_;rintro e w2 ⟨rfl,hst2,hf2⟩))
 go_end0
 exact Out.good (uh HM) rfl hst2 (hf.step hf2) hd
end
section
open Go.RowKit
def OutO (p:Nat) (T:List Tok) (tv:Value) (E r:Nat) (A:Nat→Prop) (s:PS) (w:World) (res:Res Tok) (e:Ending) (w':World):Prop :=
 (∃ r' a s',r=r'+1∧res=.ok a s'∧e=.returned (.agg #[.int .i64 a.kind,.string a.text,.int .i64 a.num,.int .i64 a.pos])∧PSt p T tv E r' A s' w'∧Fr p w.heap.size w w'∧phi s'+3≤phi s) ∨
 (∃ c q,res=.bad c q∧e=.panicked [{ v:=.iface (ft c) (.agg #[.int .i64 q]),recovered:=false }]∧Ill c p w w')
theorem opens_zero {E:Nat}{ws:List ByteArray}{s s':PS}{a:Tok}(h:want E ws s=.ok a s'):opens E 0 ws s=.bad 4 a.pos:=by
 unfold opens;rw [bind_at,h];rfl
theorem opens_succ {E r:Nat}{ws:List ByteArray}{s s':PS}{a:Tok}(h:want E ws s=.ok a s'):opens E (r+1) ws s=.ok a s':=by
 unfold opens;rw [bind_at,h];rfl
theorem opens_bad {E r:Nat}{ws:List ByteArray}{s:PS}{c q:Int}(h:want E ws s=.bad c q):opens E r ws s=.bad c q:=by
 unfold opens;rw [bind_at,h];rfl
set_option maxHeartbeats 2000000 in
theorem open_any {p T tv E r A s w}(h:PSt p T tv E r A s w) (g c:Nat) (ws:List ByteArray) (hw:Words w g ws) (hl:ws.length≤100) (hx:∀ x ∈ ws,0<x.size) :
  Calls Tryz.prog 146 #[.pointer (some ⟨p,0,none⟩),.slice (some ⟨g,0,none⟩) ws.length c] w (OutO p T tv E r A s w (opens E r ws s)):=by
 have hp:=h.lt
 have HW:=hide (hw.new (blA w (Obj.cells #[Value.int IntKind.i64 0,Value.string { data:=#[] },Value.int IntKind.i64 0,Value.int IntKind.i64 0] 66)))
 have HP:=hide (h.alloc (Obj.cells #[Value.int IntKind.i64 0,Value.string { data:=#[] },Value.int IntKind.i64 0,Value.int IntKind.i64 0] 66))
 have HI:=hide (want_any (uh HP) g c ws (uh HW) hl hx)
 have HH:=hide h
 have hroom:=h.room
 obtain⟨res,hres⟩:∃ res,res=opens E r ws s:=⟨_,rfl⟩
 rw [← hres]
 have HM:=hide hres
 clear hw h hx hres
 generalize ws.length=n at *
 cases r with
 | zero =>
  go_enter Tryz.func146,Tryz.ntmps146
  go_wp2_with (go_at_call 68;refine (uh HI).mono ?_;intro e w1 ho;rcases ho.elim with⟨a,s1,v,hq,rfl,hR,hst,hf,hd⟩ | ⟨c,q,hq,rfl,hb⟩;rotate_left;exact⟨rfl,Or.inr ⟨c,q,(uh HM).trans (opens_bad hq),rfl,Ill.behind ((blA w _).mono (Nat.le_of_lt hp)) hb⟩⟩;replace HM:=hide ((uh HM).trans (opens_zero hq));unfold RTok at hR;subst hR;obtain⟨v,d0,d1,d2,d3,d4,df⟩:=hst.cells;simp only [Nat.sub_zero] at d3;have hp1:=hst.lt;clear ho hq)
  exact⟨rfl,Or.inr ⟨4,a.pos,uh HM,rfl,⟨(((blA w _).mono (Nat.le_of_lt hp)).trans hf.below).alloc (Nat.le_of_lt hp1) _,Or.inr (Or.inl rfl)⟩⟩⟩
 | succ r =>
  have hi0:0≤((30 - (r+1):Nat):Int):=by omega
  have hi1:((30 - (r+1):Nat):Int)<30:=by omega
  have hi2:¬ ((30 - (r+1):Nat):Int)=30:=by omega
  have hi3:((30 - (r+1):Nat):Int)+1=((30 - r:Nat):Int):=by omega
  go_enter Tryz.func146,Tryz.ntmps146
  go_wp2_with (go_at_call 68;refine (uh HI).mono ?_;intro e w1 ho;rcases ho.elim with⟨a,s1,v,hq,rfl,hR,hst,hf,hd⟩ | ⟨c,q,hq,rfl,hb⟩;rotate_left;exact⟨rfl,Or.inr ⟨c,q,(uh HM).trans (opens_bad hq),rfl,Ill.behind ((blA w _).mono (Nat.le_of_lt hp)) hb⟩⟩;replace HM:=hide ((uh HM).trans (opens_succ hq));unfold RTok at hR;subst hR;obtain⟨v,d0,d1,d2,d3,d4,df⟩:=hst.cells;have df3:=df 3;have hp1:=hst.lt;have hsz:w.heap.size<w1.heap.size:=(by have:=hf.size;rw [szA] at this;omega);have hbx:=box_fr hf (by rw [szA];omega) (by simp [PlainObj]);obtain⟨x0,x1,x2,x3,y0,y1,y2,y3⟩:=box4 hbx;have HBX:=hide hbx;clear hbx ho hq)
  refine bodyPost_ret (ret_tok (g:=w.heap.size) (a:=.int .i64 a.kind) (b:=.string a.text) (c:=.int .i64 a.num) (d:=.int .i64 a.pos) rfl rfl ?_) rfl ?_
  ·rw [Below.heap_alloc _ _ _ (by simp only [size_set];omega)]
   exact set4 ((heap_set_other (by show w.heap.size≠p;omega)).trans (uh HBX))
  ·obtain⟨g1,g2⟩:=hst.setRoom r (by omega) (((29 - r:Nat):Int)+1) (by omega)
   exact Or.inl ⟨r,a,s1,rfl,uh HM,rfl,((uh HH).fill g1 ((heap_set_other (by show w.heap.size≠p;omega)).trans (uh HBX))).alloc _,(Fr.fill (((Fr.of (blA w _) hp).step hf).step g2) _ _ _ _).new (blA _ _),hd⟩
theorem OutO.from {p:Nat}{T:List Tok}{tv:Value}{E r:Nat}{A:Nat→Prop}{s:PS}{w:World}{o:Obj}{res:Res Tok}{e:Ending}{w':World}(hp:p<w.heap.size) (h:OutO p T tv E r A s (w.alloc o) res e w'):OutO p T tv E r A s w res e w':=by
 rcases h with⟨r',a,s',h1,h2,h3,h4,h5,h6⟩ | ⟨c,q,h1,h2,h3⟩
 ·exact Or.inl ⟨r',a,s',h1,h2,h3,h4,(Fr.of (blA w o) hp).step h5,h6⟩
 ·exact Or.inr ⟨c,q,h1,h2,Ill.behind ((blA w o).mono (Nat.le_of_lt hp)) h3⟩
theorem open1 {p T tv E r A s w}(h:PSt p T tv E r A s w) {a:ByteArray}{t:TypeId}{c:Nat}(hx:0<a.size) :
  Calls Tryz.prog 146 #[.pointer (some ⟨p,0,none⟩),.slice (some ⟨w.heap.size,0,none⟩) 1 c] (w.alloc (.cells #[.string a] t)) (OutO p T tv E r A s w (opens E r [a] s)) :=
 (open_any (h.alloc _) w.heap.size c [a] words1 (by simp) (by simpa using hx)).mono fun _ _ ho=>OutO.from h.lt ho
theorem open3 {p T tv E r A s w}(h:PSt p T tv E r A s w) {a b d:ByteArray}{t:TypeId}{c:Nat}(hx:0<a.size∧0<b.size∧0<d.size) :
  Calls Tryz.prog 146 #[.pointer (some ⟨p,0,none⟩),.slice (some ⟨w.heap.size,0,none⟩) 3 c] (w.alloc (.cells #[.string a,.string b,.string d] t)) (OutO p T tv E r A s w (opens E r [a,b,d] s)) :=
 (open_any (h.alloc _) w.heap.size c [a,b,d] words3 (by simp) (by simpa using hx)).mono fun _ _ ho=>OutO.from h.lt ho
end
end Go.Proofs.YtdemnolanlfblaaGreatDoor
