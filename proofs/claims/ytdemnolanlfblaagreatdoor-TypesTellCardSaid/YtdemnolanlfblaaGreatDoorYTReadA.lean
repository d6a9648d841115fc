import Derived.Deep.OwnRows
import Derived.Test.YtdemnolanlfblaaGreatDoorYTTell
import Derived.Test.YtdemnolanlfblaaGreatDoorYRKind
import Derived.Test.YtdemnolanlfblaaGreatDoorYRSame
import Derived.Test.YtdemnolanlfblaaGreatDoorYTTellB
set_option linter.all false
namespace Go.Proofs.YtdemnolanlfblaaGreatDoor
section
open Go.RowKit
theorem forest_count {ns:List Nd}{R:List Nat}(h:Forest ns R):(ns.map fun n=>n.kids.length).sum+R.length=ns.length:=by
 induction h using Forest.made with
 | nil=>rfl
 | put ns R n h ih =>
  simp only [List.map_append,List.sum_append,List.map_cons,List.map_nil,List.sum_cons,List.sum_nil,List.length_append,List.length_cons,List.length_nil] at ih ⊢
  omega
theorem sum_ge {f:Nd→Nat}:∀ (ns:List Nd) (n:Nd),n ∈ ns→f n≤(ns.map f).sum
 | [],_,h=>by cases h
 | m :: ns,n,h=>by
  simp only [List.map_cons,List.sum_cons]
  rcases List.mem_cons.1 h with rfl | h
  ·omega
  ·have:=sum_ge (f:=f) ns n h
   omega
theorem told1_len (ns:List Nd) (typ:ByteArray) (n:Nd):(told1 ns typ n).length≤n.kids.length+1:=by
 unfold told1
 split
 ·split
  ·split <;> simp
  ·simp
 ·split
  ·simp
  ·simp
theorem told_len (ns:List Nd) (typ:ByteArray):∀ l:List Nd,(l.flatMap (told1 ns typ)).length≤(l.map fun n=>n.kids.length).sum+l.length
 | []=>by simp
 | n :: l=>by
  simp only [List.flatMap_cons,List.length_append,List.map_cons,List.sum_cons,List.length_cons]
  have h1:=told1_len ns typ n
  have h2:=told_len ns typ l
  omega
def Named (t:Tok):Prop:=t.kind=1→t.text≠⟨#[]⟩
theorem ext_full (s:ByteArray) (i n:Nat) (hi:i<s.size) (hn:1≤n):s.extract i (i+n)≠⟨#[]⟩:=by
 intro h
 have:=congrArg ByteArray.size h
 rw [ByteArray.size_extract] at this
 have e:(⟨#[]⟩:ByteArray).size=0:=rfl
 omega
theorem ending_named (o:Bool) (i:Nat):∀ t ∈ ending o i,Named t:=by
 intro t ht
 unfold ending at ht
 split at ht
 ·simp only [List.mem_singleton] at ht
  subst ht
  intro h
  cases h
 ·simp at ht
theorem step_named {s:ByteArray}{i:Nat}{o:Bool}(hi:i<s.size):∀ t ∈ (stepS s i o).toks,Named t:=by
 unfold stepS
 split
 ·exact ending_named o i
 split
 ·intro t ht;simp at ht
 split
 ·intro t ht;simp at ht
 split
 ·rename_i hd
  intro t ht
  have hn:=spanN_pos digitB s i hi hd
  unfold numOut at ht
  split at ht
  ·simp at ht
  ·simp only [List.mem_singleton] at ht
   subst ht
   exact fun _=>ext_full s i _ hi hn
 split
 ·rename_i hl
  intro t ht
  have hp:partB (at' s i)=true:=by
   unfold letterB at hl
   unfold partB
   simp only [decide_eq_true_eq] at hl ⊢
   omega
  have hn:=spanN_pos partB s i hi hp
  simp only [nameOut,List.mem_singleton] at ht
  subst ht
  exact fun _=>ext_full s i _ hi hn
 ·intro t ht
  unfold signOut at ht
  split at ht
  ·simp at ht
  ·rename_i hn
   simp only [List.mem_singleton] at ht
   subst ht
   exact fun _=>ext_full s i _ hi (by omega)
theorem scanGo_named:∀ (f:Nat) (s:ByteArray) (i:Nat) (o:Bool) (acc:List Tok),(∀ t ∈ acc,Named t)→∀ t ∈ (scanGo f s i o acc).2.2,Named t
 | 0,s,i,o,acc,_=>by intro t ht;simp [scanGo] at ht
 | f+1,s,i,o,acc,ha=>by
  unfold scanGo
  by_cases h1:i<s.size
  ·rw [if_pos h1]
   by_cases h2:(stepS s i o).code=0
   ·rw [if_pos h2]
    refine scanGo_named f s _ _ _ fun t ht=>?_
    rcases List.mem_append.1 ht with h | h
    ·exact ha t h
    ·exact step_named h1 t h
   ·rw [if_neg h2];intro t ht;simp at ht
  ·rw [if_neg h1]
   intro t ht
   rcases List.mem_append.1 ht with h | h
   ·exact ha t h
   ·exact ending_named o i t h
theorem scan_named (s:ByteArray):∀ t ∈ (scan s).2.2,Named t:=by
 unfold scan
 split
 ·intro t ht;simp at ht
 ·exact scanGo_named _ _ _ _ _ (by intro t ht;simp at ht)
theorem nsOk_of {E:Nat}{T:List Tok}{n:Nat}{ks:List Nat}{st:PS}{pos:Int}(hT:∀ t ∈ T,t.text.size≤6001) (hN:∀ t ∈ T,t.kind=1→t.text≠⟨#[]⟩) (h:progGo E (decl E 30) n [] ⟨T,[]⟩=.ok ks st) (hl:st.nodes.length+1≤1200):NsOk (st.nodes++[⟨15,pos,0,⟨#[]⟩,ks⟩])∧InvK (st.nodes++[⟨15,pos,0,⟨#[]⟩,ks⟩]):=by
 obtain⟨hF,hx⟩:=prog_forest (pos:=pos) hT h
 have hlen:(st.nodes++[(⟨15,pos,0,⟨#[]⟩,ks⟩:Nd)]).length≤1200:=by simp;omega
 have htx:∀ m ∈ st.nodes++[(⟨15,pos,0,⟨#[]⟩,ks⟩:Nd)],m.text.size≤6001:=by
  intro m hm
  rcases List.mem_append.1 hm with h1 | h1
  ·exact hx m h1
  ·simp at h1
   subst h1
   exact Nat.zero_le _
 have hc:=forest_count hF
 have hk:=tt_small hF htx hlen
 refine⟨⟨(prog_shape h).1,by omega,hlen,fun m hm=>?_,fun m hm=>Nat.le_trans (htx m hm) (by omega),hk,fun typ=>?_⟩,prog_kinds hN h⟩
 ·have:=sum_ge (f:=fun n=>n.kids.length) _ m hm
  omega
 ·unfold toldAll
  have:=told_len (st.nodes++[(⟨15,pos,0,⟨#[]⟩,ks⟩:Nd)]) typ (st.nodes++[(⟨15,pos,0,⟨#[]⟩,ks⟩:Nd)])
  omega
theorem parse_ok {s:ByteArray}(hp:Parsed s):NsOk (parse s).2.2∧InvK (parse s).2.2∧(parse s).1=0∧(parse s).2.1=0∧NsOk (rparse s).2.2:=by
 obtain⟨hc,k,st',hq⟩:=hp
 unfold parse rparse
 rw [if_pos hc,if_pos hc,hq]
 cases h:progGo s.size (decl s.size 30) (3 * (scan s).2.2.length+1) [] ⟨(scan s).2.2,[]⟩ using Res.parts with
 | bad c q =>
  rw [program_bad h] at hq
  cases hq
 | ok ks st =>
  rw [program_ok h] at hq
  by_cases hb:st.nodes.length+1≤1200
  ·rw [if_pos (by simp;omega)] at hq
   cases hq
   have h1:=nsOk_of (pos:=firstPos (scan s).2.2) (scan_short s) (scan_named s) h hb
   have h2:=nsOk_of (pos:=(look s.size (⟨(scan s).2.2,[]⟩:PS) 0).pos) (scan_short s) (scan_named s) h hb
   refine⟨h1.1,h1.2,rfl,rfl,?_⟩
   simp only [fold_ok]
   rw [if_pos (by simp;omega)]
   exact h2.1
  ·rw [if_neg (by simp;omega)] at hq
   cases hq
end
section
open Go.RowKit
def declT (ns:List Nd) (i:Nat) (key:ByteArray):Int:=(ns.take i).foldl (fun d n=>max d (decl1 n key)) 0
def toldT (ns:List Nd) (i:Nat) (key:ByteArray):List ByteArray:=(ns.take i).flatMap (told1 ns key)
theorem declT_succ {ns:List Nd}{i:Nat}{n:Nd}(h:ns[i]? = some n) (key:ByteArray):declT ns (i+1) key=max (declT ns i key) (decl1 n key):=by
 unfold declT
 rw [List.take_add_one,h]
 simp
theorem toldT_succ {ns:List Nd}{i:Nat}{n:Nd}(h:ns[i]? = some n) (key:ByteArray):toldT ns (i+1) key=toldT ns i key++told1 ns key n:=by
 unfold toldT
 rw [List.take_add_one,h]
 simp
theorem decl1_small (n:Nd) (key:ByteArray):0≤decl1 n key∧decl1 n key≤100:=by
 unfold decl1
 split
 ·omega
 ·split <;> omega
theorem declT_small (ns:List Nd) (i:Nat) (key:ByteArray):0≤declT ns i key∧declT ns i key≤100:=by
 unfold declT
 have:∀ (l:List Nd) (d:Int),0≤d∧d≤100→0≤l.foldl (fun d n=>max d (decl1 n key)) d∧l.foldl (fun d n=>max d (decl1 n key)) d≤100:=by
  intro l
  induction l with
  | nil=>intro d h;exact h
  | cons n l ih =>
   intro d h
   have:=decl1_small n key
   exact ih (max d (decl1 n key)) (by omega)
 exact this _ 0 (by omega)
theorem made_one (z:Value) (n:Nat):(madeCells #[z] n).toList=List.replicate n z:=by
 unfold madeCells
 apply List.ext_getElem
 ·simp
 ·intro i h1 h2
  simp [Nat.mod_one]
theorem NodesAt.low {w w':World}{B:Nat}{v:Value}{ns:List Nd}(h:NodesAt w B v ns) (hk:∀ g,g<w.heap.size→w'.heap[g]? = w.heap[g]?):NodesAt w' B v ns:=by
 obtain⟨kvs,h1,h2,h3⟩:=h
 exact⟨kvs,own_keep h1 fun g hg=>hk g (h1.lt g hg).2,h2,fun i n kv hi hj=>own_keep (h3 i n kv hi hj) fun g hg=>hk g (World.ownsRow.lt (h3 i n kv hi hj) g hg).2⟩
theorem TxtsAt.set {w:World}{X g n c i:Nat}{ts:List ByteArray}(h:TxtsAt w X (.slice (some ⟨g,0,none⟩) n c) ts) (x:ByteArray):TxtsAt (w.setCell ⟨g,i,none⟩ (.string x)) X (.slice (some ⟨g,0,none⟩) n c) (ts.set i x):=by
 rcases h.2 with⟨h1,_⟩ | ⟨g',cap,cur,h1,hb,hh,hcap,hmax,hcs,htk⟩
 ·cases h1
 ·simp only [Value.slice.injEq,Option.some.injEq,Addr.mk.injEq] at h1
  obtain⟨⟨rfl,_⟩,rfl,rfl⟩:=h1
  refine⟨by simp,Or.inr ⟨g,c,_,by simp,hb,block_set hh,by simpa using hcap,hmax,by simpa using hcs,?_⟩⟩
  rw [Array.toList_setIfInBounds,List.length_set,List.take_set,htk,List.map_set]
theorem TxtsAt.free {w:World}{X g n c:Nat}{ts:List ByteArray}(h:TxtsAt w X (.slice (some ⟨g,0,none⟩) n c) ts) (j:Nat):w.frozen? ⟨g,j,none⟩=false:=by
 rcases h.2 with⟨h1,_⟩ | ⟨g',cap,cur,h1,hb,hh,_⟩
 ·cases h1
 ·simp only [Value.slice.injEq,Option.some.injEq,Addr.mk.injEq] at h1
  obtain⟨⟨rfl,_⟩,_,_⟩:=h1
  simp [World.frozen?,hh]
theorem TabAt.keepB {w w':World}{B b n:Nat}{F:ByteArray→Ent}(h:TabAt w B b n F) (hk:∀ g,g<w.heap.size→(g=b∨B≤g)→w'.heap[g]? = w.heap[g]?):TabAt w' B b n F:=by
 obtain⟨D,⟨es,clock,hb,hF,hs,hD⟩,hat⟩:=h.own
 refine⟨h.lt,⟨D,⟨es,clock,?_,hF,hs,hD⟩,hat⟩,fun k=>(h.ents k).keep fun i g hi hg=>hk g ((h.ents k).from i g hi hg).2 (Or.inr ((h.ents k).from i g hi hg).1),h.apart⟩
 rw [hk b (Array.getElem?_eq_some_iff.1 hb).1 (Or.inl rfl)]
 exact hb
def sortT (l:List ByteArray):List ByteArray:=((l.map fun x=>x.data.toList).mergeSort fun x y=>decide (x≤y)).map fun x=>⟨x.toArray⟩
structure ReadSt (w1:World) (nv:Value) (ns:List Nd) (i:Nat) (wr:World):Prop where
 size:w1.heap.size+4≤wr.heap.size
 os:wr.os=w1.os
 tape:wr.tape=w1.tape
 output:wr.output=w1.output
 low:∀ j,j<w1.heap.size→wr.heap[j]? = w1.heap[j]?
 tex:∃ ts,TxtsAt wr w1.heap.size (.slice (some ⟨w1.heap.size+1,0,none⟩) ns.length ns.length) ts∧Tx ns i ts∧∀ x ∈ ts,x.size≤10000000
 box:BoxAt wr (w1.heap.size+1+1+1) [nv,.slice (some ⟨w1.heap.size+1,0,none⟩) ns.length ns.length,.map (some (w1.heap.size+1+1))] 45
 tab:∃ F,TabAt wr (w1.heap.size+4) (w1.heap.size+1+1) i F∧∀ key,(F key).decl=declT ns i key∧(F key).told=toldT ns i key
theorem ReadSt.new {w1 wr w':World}{nv:Value}{ns:List Nd}{i:Nat}(h:ReadSt w1 nv ns i wr) (hb:Below wr.heap.size wr w'):ReadSt w1 nv ns i w':=by
 obtain⟨ts,t1,t2,t3⟩:=h.tex
 obtain⟨F,f1,f2⟩:=h.tab
 have hs:=h.size
 exact⟨Nat.le_trans hs hb.size,hb.os.trans h.os,hb.tape.trans h.tape,hb.output.trans h.output,fun j hj=>(hb.block j (by omega)).trans (h.low j hj),⟨ts,t1.below hb,t2,t3⟩,h.box.new hb,⟨F,f1.below hb,f2⟩⟩
theorem ReadSt.begin {w1:World}{nv:Value}{ns:List Nd}{o:Obj}(hn:ns.length≤1200):ReadSt w1 nv ns 0 ((((w1.alloc o).alloc (.cells (madeCells #[.string ⟨#[]⟩] ns.length) 9)).alloc (.map #[] 0)).alloc (.cells #[nv,.slice (some ⟨w1.heap.size+1,0,none⟩) ns.length ns.length,.map (some (w1.heap.size+1+1))] 45)):=by
 have hb:Below w1.heap.size w1 ((((w1.alloc o).alloc (.cells (madeCells #[.string ⟨#[]⟩] ns.length) 9)).alloc (.map #[] 0)).alloc (.cells #[nv,.slice (some ⟨w1.heap.size+1,0,none⟩) ns.length ns.length,.map (some (w1.heap.size+1+1))] 45)):=balloc (balloc (balloc (blA _ _)))
 refine⟨by simp only [szA];omega,rfl,rfl,rfl,fun j hj=>hb.block j hj,⟨List.replicate ns.length ⟨#[]⟩,?_,⟨by simp,fun i hi=>by omega⟩,fun x hx=>by rw [List.eq_of_mem_replicate hx];exact Nat.zero_le _⟩,?_,⟨fun _=>Ent.zero,?_,fun key=>⟨rfl,rfl⟩⟩⟩
 ·have h1:((w1.alloc o).alloc (.cells (madeCells #[.string ⟨#[]⟩] ns.length) 9)).heap[w1.heap.size+1]? = some (.cells (madeCells #[.string ⟨#[]⟩] ns.length) 9 (0,0)):=by
   have:=heap_alloc_new (w1.alloc o) (.cells (madeCells #[.string ⟨#[]⟩] ns.length) 9)
   rw [szA] at this
   exact this
  have h2:TxtsAt ((w1.alloc o).alloc (.cells (madeCells #[.string ⟨#[]⟩] ns.length) 9)) w1.heap.size (.slice (some ⟨w1.heap.size+1,0,none⟩) ns.length ns.length) (List.replicate ns.length ⟨#[]⟩):=by
   refine⟨by simp,Or.inr ⟨w1.heap.size+1,ns.length,_,by simp,by omega,h1,by simp,by unfold maxLen;omega,by simp [size_madeCells],?_⟩⟩
   rw [made_one]
   simp
  exact (h2.below (blA _ _)).below (blA _ _)
 ·have:=BoxAt.made (((w1.alloc o).alloc (.cells (madeCells #[.string ⟨#[]⟩] ns.length) 9)).alloc (.map #[] 0)) [nv,.slice (some ⟨w1.heap.size+1,0,none⟩) ns.length ns.length,.map (some (w1.heap.size+1+1))] 45
  simp only [szA] at this
  exact this
 ·have h1:=TabAt.made ((w1.alloc o).alloc (.cells (madeCells #[.string ⟨#[]⟩] ns.length) 9))
  simp only [szA] at h1
  exact (h1.raise (B':=w1.heap.size+4) (by omega) fun _=>rfl).below (blA _ _)
theorem ReadSt.text {w1 wr:World}{nv:Value}{ns:List Nd}{i:Nat}{n:Nd}(h:ReadSt w1 nv ns i wr) (hn:ns[i]? = some n) (hx:(xt ns i).size≤10000000) :
  ∃ ts F,TxtsAt (wr.setCell ⟨w1.heap.size+1,i,none⟩ (.string (xt ns i))) w1.heap.size (.slice (some ⟨w1.heap.size+1,0,none⟩) ns.length ns.length) ts∧Tx ns (i+1) ts∧(∀ x ∈ ts,x.size≤10000000)∧BoxAt (wr.setCell ⟨w1.heap.size+1,i,none⟩ (.string (xt ns i))) (w1.heap.size+1+1+1) [nv,.slice (some ⟨w1.heap.size+1,0,none⟩) ns.length ns.length,.map (some (w1.heap.size+1+1))] 45
   ∧ TabAt (wr.setCell ⟨w1.heap.size+1,i,none⟩ (.string (xt ns i))) (w1.heap.size+4) (w1.heap.size+1+1) i F∧(∀ key,(F key).decl=declT ns i key∧(F key).told=toldT ns i key)∧∀ j,j<w1.heap.size→(wr.setCell ⟨w1.heap.size+1,i,none⟩ (.string (xt ns i))).heap[j]? = w1.heap[j]?:=by
 obtain⟨ts,t1,t2,t3⟩:=h.tex
 obtain⟨F,f1,f2⟩:=h.tab
 have hil:i<ns.length:=(List.getElem?_eq_some_iff.1 hn).1
 have hset:∀ g,g≠w1.heap.size+1→(wr.setCell ⟨w1.heap.size+1,i,none⟩ (.string (xt ns i))).heap[g]? = wr.heap[g]?:=fun g hg=>Below.heap_setCell _ _ _ _ (fun e=>hg (by first | exact e | exact e.symm))
 refine⟨_,F,t1.set (xt ns i),⟨by rw [List.length_set];exact t2.len,fun j hj=>?_⟩,fun x hx'=>?_,h.box.setOther (by show w1.heap.size+1+1+1≠w1.heap.size+1;omega) _,f1.keepB fun g hg hg2=>hset g (by omega),f2,fun j hj=>(hset j (by omega)).trans (h.low j hj)⟩
 ·by_cases hji:j=i
  ·subst hji
   rw [List.getElem?_set_self (by rw [t2.len];exact hil)]
  ·rw [List.getElem?_set_ne (fun e=>hji e.symm)]
   exact t2.at' j (by omega)
 ·rcases List.mem_or_eq_of_mem_set hx' with h1 | h1
  ·exact t3 x h1
  ·rw [h1];exact hx
theorem below_frozen {W w1:World}{g:Nat}(hb:Below W.heap.size W w1) (h:g<W.heap.size) (j:Nat):w1.frozen? ⟨g,j,none⟩=W.frozen? ⟨g,j,none⟩:=hb.frozen (p:=⟨g,j,none⟩) h
theorem below1d {w w1:World}{o1:Obj}(hb1:Below (w.alloc o1).drew.heap.size (w.alloc o1).drew w1):Below w.heap.size w w1:=by
 refine ((blA w o1).drew).trans (hb1.mono ?_)
 show _≤(w.alloc o1).heap.size
 rw [szA]
 omega
theorem NodesAt.at_low {w w':World}{B n0 cap:Nat}{a:Option Addr}{ns:List Nd}(h:NodesAt w B (.slice a n0 cap) ns) (hl:∀ g,g<w.heap.size→w'.heap[g]? = w.heap[g]?) {k:Nat}{n:Nd}(hk:ns[k]? = some n) :
  ∃ g kv,a=some ⟨g,0,none⟩∧B≤g∧w'.cell? ⟨g,k * 5,none⟩=some (.int .i64 n.kind)∧w'.cell? ⟨g,k * 5+1,none⟩=some (.int .i64 n.pos)∧w'.cell? ⟨g,k * 5+2,none⟩=some (.int .i64 n.num)∧w'.cell? ⟨g,k * 5+3,none⟩=some (.string n.text)∧w'.cell? ⟨g,k * 5+4,none⟩=some kv∧Ints w B kv n.kids:=by
 obtain⟨g,kv,h1,h2,c0,c1,c2,c3,c4,hI⟩:=h.at hk
 have hg:=World.block_lt_of_cell? _ _ c0
 have hc:∀ j,w'.cell? ⟨g,j,none⟩=w.cell? ⟨g,j,none⟩:=fun j=>World.cell?_of_block (hl g hg)
 exact⟨g,kv,h1,h2,(hc _).trans c0,(hc _).trans c1,(hc _).trans c2,(hc _).trans c3,(hc _).trans c4,hI⟩
theorem ReadSt.next {w1 w2 w3:World}{nv:Value}{ns:List Nd}{i:Nat}{n:Nd}{ts:List ByteArray}{F:ByteArray→Ent}(h:ReadSt w1 nv ns i w2) (hn:ns[i]? = some n)
  (t1:TxtsAt (w2.setCell ⟨w1.heap.size+1,i,none⟩ (.string (xt ns i))) w1.heap.size (.slice (some ⟨w1.heap.size+1,0,none⟩) ns.length ns.length) ts) (t2:Tx ns (i+1) ts) (t3:∀ x ∈ ts,x.size≤10000000) (hB:BoxAt (w2.setCell ⟨w1.heap.size+1,i,none⟩ (.string (xt ns i))) (w1.heap.size+1+1+1) [nv,.slice (some ⟨w1.heap.size+1,0,none⟩) ns.length ns.length,.map (some (w1.heap.size+1+1))] 45)
  (hF:∀ key,(F key).decl=declT ns i key∧(F key).told=toldT ns i key) (hlow:∀ j,j<w1.heap.size→(w2.setCell ⟨w1.heap.size+1,i,none⟩ (.string (xt ns i))).heap[j]? = w1.heap[j]?) (hL:Learnt ns n (w1.heap.size+4) (w1.heap.size+1+1) i F (w2.setCell ⟨w1.heap.size+1,i,none⟩ (.string (xt ns i))) w3):ReadSt w1 nv ns (i+1) w3:=by
 obtain⟨F',f1,f2,hf⟩:=hL
 have hs:=h.size
 have hs2:=hf.size
 rw [size_set] at hs2
 refine⟨by omega,hf.os.trans h.os,hf.tape.trans h.tape,hf.output.trans h.output,fun j hj=>(hf.block j (by omega) (by omega)).trans (hlow j hj),⟨ts,own_keep t1 fun g hg=>?_,t2,t3⟩,?_,⟨F',f1,fun key=>?_⟩⟩
 ·have:g=w1.heap.size+1:=by simpa [Value.ownBlock] using hg.symm
  subst this
  exact hf.block _ (by omega) (by omega)
 ·unfold BoxAt
  rw [hf.block _ (by omega) (by omega)]
  exact hB
 ·rw [declT_succ hn,toldT_succ hn,(f2 key).1,(f2 key).2,(hF key).1,(hF key).2]
  exact⟨rfl,rfl⟩
def ReadOut (w:World) (ns:List Nd) (e:Ending) (w':World):Prop:=∃ nv xv b B n F X,e=.returned (.tuple #[.agg #[nv,xv,.map (some b)],.agg #[.int .i64 0,.int .i64 0]])∧NodesAt w' X nv ns∧(∃ ts,TxtsAt w' X xv ts∧Tx ns ns.length ts)∧TabAt w' B b n F∧(∀ key:ByteArray,key.size≤maxLen→(F key).decl=declT ns ns.length key∧(F key).told=sortT (toldAll ns key))∧Below w.heap.size w w'∧w.heap.size≤X∧w.heap.size≤B∧w.heap.size≤b∧n≤1200
end
end Go.Proofs.YtdemnolanlfblaaGreatDoor
