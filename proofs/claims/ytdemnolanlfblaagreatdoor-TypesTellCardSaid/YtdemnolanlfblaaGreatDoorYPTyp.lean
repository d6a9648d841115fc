import Derived.ArgAppend
import Derived.Laws.OwnMore
import Derived.OwnWalk
import Derived.Deep.LoopGhost
import Derived.Test.YtdemnolanlfblaaGreatDoorYPOpen
set_option linter.all false
namespace Go.Proofs.YtdemnolanlfblaaGreatDoor
section
open Go.RowKit
theorem Tryz.infoNode:(Tryz.prog.info? 36).map (fun i=>(i.zero,i.size,i.bytes))=some (some (.agg #[.int .i64 0,.int .i64 0,.int .i64 0,.string ⟨#[]⟩,.slice none 0 0]),5,64):=by kernel_rfl
theorem new5 {w:World}{m:Nat}(hm:m=w.heap.size) (a b c d f:Value) (t:TypeId):∀ j u,[a,b,c,d,f][j]? = some u→(w.alloc (.cells #[a,b,c,d,f] t)).cell? ((⟨m,0,none⟩:Addr).add j)=some u:=by
 intro j u hj
 subst hm
 match j,hj with
 | 0,hj=>simp at hj;subst hj;simp [Addr.add,go_sem]
 | 1,hj=>simp at hj;subst hj;simp [Addr.add,go_sem]
 | 2,hj=>simp at hj;subst hj;simp [Addr.add,go_sem]
 | 3,hj=>simp at hj;subst hj;simp [Addr.add,go_sem]
 | 4,hj=>simp at hj;subst hj;simp [Addr.add,go_sem]
theorem ones5 (k n q:Int) (x:ByteArray) (a:Option Addr) (l c:Nat):∀ u ∈ [Value.int .i64 k,.int .i64 n,.int .i64 q,.string x,.slice a l c],u.oneCell'=true:=by
 intro u hu
 simp at hu
 rcases hu with rfl | rfl | rfl | rfl | rfl <;> rfl
theorem ncells_snoc (ns:List Nd) (kvs:List Value) (n:Nd) (kv:Value) (h:kvs.length=ns.length):ncells (ns++[n]) (kvs++[kv])=ncells ns kvs++n.cells kv:=by
 unfold ncells
 rw [List.zip_append h.symm]
 simp
def roomBlock:Value→Option Nat
 | .slice (some a) n cap=>if n+1≤cap then some a.block else none
 | _=>none
theorem roomBlock_own {v:Value}{k:Nat}(h:roomBlock v=some k):v.ownBlock=some k:=by
 unfold roomBlock at h
 split at h
 ·split at h
  ·simpa [Value.ownBlock] using h
  ·cases h
 ·cases h
theorem step_append_room {P:Program}{ops:Array Oper}{o:Oper}{a:Act}{w:World}{K:Act→World→Prop}{Q:Exit→Act→World→Prop}{E:Prop}
  (hg:o.guard=none) (s x:Operand) (t:TypeId) (hop:o.op=Op.call { callee:=Callee.builtin Builtin.append,args:=#[s,x],argTypes:=#[t,t] })
  (base:Nat) (e:TypeId) (i:TypeInfo) (z:Value) (size bytes:Nat) (h1:P.underlying t=some (.slice e)) (h2:P.info? e=some i) (h3:i.zero=some z) (h4:i.size=size) (h5:i.bytes=bytes) (h6:z.cells.size=size) (h7:0<size)
  (v:Value) (n:Nat) (xs:List Value) (hs:a.eval s=v) (hown:w.ownsRow base e size v n xs)
  (ad:Addr) (c:Nat) (news:List Value) (hx:a.eval x=.slice (some ad) 1 c) (hn:news.length=1 * size) (hc:∀ j u,news[j]? = some u→w.cell? (ad.add j)=some u) (h1c:∀ u ∈ news,u.oneCell'=true)
  (b1:n+1≤maxLen) (b2:(n+1) * bytes≤140737488355328) (hb:base≤w.heap.size)
  (hK:∀ v' w',w'.ownsRow base e size v' (n+1) (xs++news)→w.grownBy w' (roomBlock v)→(v'.ownBlock=v.ownBlock∨∀ k,v'.ownBlock=some k→w.heap.size≤k)→K (a.put o.dst v') w') :
  if Region.wanted o (yielded ops a.tmps)=true then Oper.wp P o a w K Q else E:=by
 have hw:Region.wanted o (yielded ops a.tmps)=true:=by simp [Region.wanted,hg]
 rw [if_pos hw]
 have hall:∃ v' w',(Builtin.append_ #[t,t] o.type #[v,.slice (some ad) 1 c]).run P w=.ok v' w'∧w'.ownsRow base e size v' (n+1) (xs++news)∧w.grownBy w' (roomBlock v)∧(v'.ownBlock=v.ownBlock∨∀ k,v'.ownBlock=some k→w.heap.size≤k):=by
  rcases hown.2 with⟨rfl,hn0⟩ | ⟨g,cap,cur,rfl,hbg,hgg,hle,hmax,hsz,htk⟩
  ·obtain⟨v',w',hrun,r1,r2,_⟩:=run_append_own (P:=P) w w.heap.size t o.type e i z size bytes h1 h2 h3 h4 h5 h6 h7 _ n xs ⟨hown.1,Or.inl ⟨rfl,hn0⟩⟩ ad 1 c news hn hc h1c b1 b2 (Nat.le_refl _)
   refine⟨v',w',hrun,?_,r2,Or.inr fun k hk=>(r1.lt k hk).1⟩
   refine⟨r1.1,?_⟩
   rcases r1.2 with q | ⟨g',cap',cur',q1,q2,q3⟩
   ·exact Or.inl q
   ·exact Or.inr ⟨g',cap',cur',q1,by omega,q3⟩
  ·by_cases hfit:n+1≤cap
   ·obtain⟨w',hrun,r1,r2⟩:=run_append_fits (P:=P) w base t o.type e i size h1 h2 h4 g n cap xs hown ad 1 c news hn hc h1c hfit
    exact⟨_,w',hrun,r1,by simpa [roomBlock,hfit] using r2,Or.inl rfl⟩
   ·obtain⟨v',w',hrun,r1,r2⟩:=run_append_arg_grows (P:=P) w t o.type e i z size bytes h1 h2 h3 h4 h5 h6 h7 ⟨g,0,none⟩ n cap xs hown.1 (World.ownsRow.cells hown rfl) ad 1 c news hn hc (by omega) b1 b2
    refine⟨v',w',hrun,?_,by simpa [roomBlock,hfit] using r2,Or.inr fun k hk=>(r1.lt k hk).1⟩
    refine⟨r1.1,?_⟩
    rcases r1.2 with q | ⟨g',cap',cur',q1,q2,q3⟩
    ·exact Or.inl q
    ·exact Or.inr ⟨g',cap',cur',q1,by omega,q3⟩
 obtain⟨v',w',hrun,r1,r2,r3⟩:=hall
 unfold Oper.wp
 simp [execOp,hop,resolve,invoke,builtin,hs,hx,hrun,Result.andThen]
 exact hK v' w' r1 r2 r3
theorem nappended {p:Nat}{w w1:World}{c:Array Value}{v:Value}{n:Nat}{xs:List Value}(hblk:w.heap[p]? = some (.cells c 81 (0,0))) (hown:w.ownsRow (p+1) 36 5 v n xs) (h0:n=0→v=.slice none 0 0) (o1 o2:Obj) (hg:((w.alloc o1).alloc o2).grownBy w1 (roomBlock v)) :
  w1.heap[p]? = some (.cells c 81 (0,0))∧Fr p w.heap.size w w1∧w.heap.size+2≤w1.heap.size:=by
 have hlt:p<w.heap.size:=(Array.getElem?_eq_some_iff.1 hblk).1
 have hle:w.heap.size+2≤w1.heap.size:=by have:=hg.size;rw [szA,szA] at this;omega
 have hk:∀ (k:Nat) (o:Obj),k<w.heap.size→w.heap[k]? = some o→some k≠roomBlock v→w1.heap[k]? = some o:=by
  intro k o hk ho hne
  rw [hg.block k (by rw [szA,szA];omega) hne,Below.heap_alloc _ _ _ (by rw [szA];omega),Below.heap_alloc _ _ _ hk]
  exact ho
 have hpl:∀ (k:Nat) (o:Obj),w.heap[k]? = some o→PlainObj o→some k≠roomBlock v:=by
  intro k o ho hq he
  have hv:=roomBlock_own he.symm
  rcases hown.2 with⟨rfl,_⟩ | ⟨g,cap,cur,rfl,hbg,hgg,hle',hmax,hsz,htk⟩
  ·cases hv
  ·simp [Value.ownBlock] at hv
   subst hv
   rw [hgg] at ho
   simp only [Option.some.injEq] at ho
   subst ho
   have h5:=hq.2 rfl
   have hcap:cap=1:=by omega
   unfold roomBlock at he
   by_cases hn1:n+1≤cap
   ·have hn0:n=0:=by omega
    have:=h0 hn0
    cases this
   ·simp [hn1] at he
 refine⟨hk p _ hlt hblk ?_,⟨Nat.le_refl _,hlt,?_,?_⟩,hle⟩
 ·intro he
  have hv:=roomBlock_own he.symm
  have:=(hown.lt p hv).1
  omega
 ·refine (((Below.refl p w).alloc (by omega) o1).alloc (by rw [szA];omega) o2).grown hg (by rw [szA,szA];omega) ?_
  intro k hk
  have:=(hown.lt k (roomBlock_own hk)).1
  omega
 ·intro k o hkk ho hq
  exact hk k o hkk ho (hpl k o ho hq)
theorem p_set4 {w:World}{p:Nat}{a b c d v:Value}{t:TypeId}(h:w.heap[p]? = some (.cells #[a,b,c,d,v] t (0,0))) (v':Value) :
  (w.setCell ⟨p,4,none⟩ v').heap[p]? = some (.cells #[a,b,c,d,v'] t (0,0)):=by
 rw [block_set (j:=4) h];rfl
theorem cells5 {w:World}{p:Nat}{a b c d v:Value}{t:TypeId}(h:w.heap[p]? = some (.cells #[a,b,c,d,v] t (0,0))):w.cell? ⟨p,4,none⟩=some v∧w.frozen? ⟨p,4,none⟩=false:=by
 simp [World.cell?,World.frozen?,h]
theorem own_fr {w w':World}{p b e z:Nat}{v:Value}{n:Nat}{xs:List Value}(h:w.ownsRow b e z v n xs) (hf:Fr p w.heap.size w w') (h1:e≠81) (h2:e≠36):w'.ownsRow b e z v n xs:=by
 refine⟨h.1,?_⟩
 rcases h.2 with h3 | ⟨g,cap,cur,hv,hg,hh,rr⟩
 ·exact Or.inl h3
 ·exact Or.inr ⟨g,cap,cur,hv,hg,hf.keep g _ (Array.getElem?_eq_some_iff.1 hh).1 hh ⟨h1,fun he=>absurd he h2⟩,rr⟩
theorem own_len {w:World}{b e z:Nat}{v:Value}{n:Nat}{xs:List Value}(h:w.ownsRow b e z v n xs):∃ a c,v=.slice a n c:=by
 rcases h.2 with⟨rfl,rfl⟩ | ⟨g,cap,cur,rfl,_⟩
 ·exact⟨_,_,rfl⟩
 ·exact⟨_,_,rfl⟩
theorem Fr.setP {p B:Nat}{w w1:World}(h:Fr p B w w1) {c:Array Value}{f:Nat × Nat}(hblk:w.heap[p]? = some (.cells c 81 f)) (j:Nat) (u:Value):Fr p B w (w1.setCell ⟨p,j,none⟩ u):=by
 refine⟨h.le,h.lp,h.below.setCell (p:=⟨p,j,none⟩) (Nat.le_refl _) u,fun k o hk ho hq=>?_⟩
 by_cases hkp:k=p
 ·subst hkp
  rw [hblk] at ho
  simp only [Option.some.injEq] at ho
  subst ho
  simp [PlainObj] at hq
 ·rw [heap_set_other hkp];exact h.keep k o hk ho hq
theorem PSt.putted {p T tv E r A s w w1}(n:Nd) (h:PSt p T tv E r A s w) (hf:Fr p w.heap.size w w1) (hcap:phi { s with nodes:=s.nodes++[n] }≤900000) {v v':Value}{kvs:List Value}
  (hblk:w1.heap[p]? = some (.cells #[tv,.int .i64 ((T.length - s.rest.length:Nat):Int),.int .i64 E,.int .i64 ((30 - r:Nat):Int),v] 81 (0,0)))
  (kv:Value) (hkl:kvs.length=s.nodes.length∧(s.nodes = []→v=.slice none 0 0)∧∀ k,v.ownBlock=some k→¬ A k) (hv:v'.ownBlock=v.ownBlock∨∀ k,v'.ownBlock=some k→w.heap.size≤k) (hks:∀ (i:Nat) (n:Nd) (kv:Value),s.nodes[i]? = some n→kvs[i]? = some kv→Ints w (p+1) kv n.kids∧∀ k,kv.ownBlock=some k→¬ A k) (hk:Ints w (p+1) kv n.kids) (hkA:∀ k,kv.ownBlock=some k→¬ A k)
  (hown:w1.ownsRow (p+1) 36 5 v' (s.nodes.length+1) (ncells s.nodes kvs++n.cells kv)) :
  PSt p T tv E r A { s with nodes:=s.nodes++[n] } (w1.setCell ⟨p,4,none⟩ v'):=by
 have hkeep:∀ {u:Value}{l:List Nat},Ints w (p+1) u l→Ints (w1.setCell ⟨p,4,none⟩ v') (p+1) u l:=by
  intro u l hu
  exact ownsRow_setCell_below (hu.fr hf (fun k hk=>hu.lt k hk)) (by show p<p+1;omega) v'
 refine⟨h.room,h.suffix,h.few,h.small,hcap,fun k hk=>by rw [size_set];exact Nat.lt_of_lt_of_le (h.sep k hk) hf.size,⟨v',kvs++[kv],p_set4 hblk v',?_,⟨by simp [hkl.1],by intro h;simp at h,fun k hk hA=>hv.elim (fun hv=>hkl.2.2 k (by rw [← hv];exact hk) hA) fun hv=>by have h1:=hv k hk;have h2:=h.sep k hA;omega⟩,?_⟩,?_⟩
 ·have h2:=ownsRow_setCell_below hown (a:=⟨p,4,none⟩) (by show p<p+1;omega) v'
  show World.ownsRow _ _ _ _ _ (s.nodes++[n]).length (ncells (s.nodes++[n]) (kvs++[kv]))
  rw [ncells_snoc _ _ _ _ hkl.1]
  simpa using h2
 ·intro i m u hi hj
  simp only [] at hi
  rw [List.getElem?_append] at hi hj
  rw [hkl.1] at hj
  split at hi
  ·rename_i hlt
   rw [if_pos hlt] at hj
   exact⟨hkeep (hks i m u hi hj).1,(hks i m u hi hj).2⟩
  ·rename_i hlt
   rw [if_neg hlt] at hj
   have h0:i - s.nodes.length=0:=by
    have:=(List.getElem?_eq_some_iff.1 hi).1
    simp at this
    omega
   rw [h0] at hi hj
   simp at hi hj
   subst hi hj
   exact⟨hkeep hk,hkA⟩
 ·have ht:=own_fr h.toks hf (by decide) (by decide)
  exact own_set_ne ht (own_ne ht hblk (by decide)) v'
def OutP (p:Nat) (T:List Tok) (tv:Value) (E r:Nat) (A:Nat→Prop) (s:PS) (w:World) (res:Res Nat) (e:Ending) (w':World):Prop :=
 (∃ (k:Nat) (s':PS),res=.ok k s'∧e=.returned (.int .i64 (k:Int))∧PSt p T tv E r A s' w'∧Fr p w.heap.size w w'∧phi s'=phi s+1)∨False
set_option maxHeartbeats 1000000 in
theorem nput_any {p T tv E r A s w}(h:PSt p T tv E r A s w) (hc:phi s+1≤900000) (k n q:Int) (x:ByteArray) (kv:Value) (ks:List Nat) (hk:Ints w (p+1) kv ks) (hkA:∀ k,kv.ownBlock=some k→¬ A k) :
  Calls Tryz.prog 69 #[.pointer (some ⟨p,0,none⟩),.agg #[.int .i64 k,.int .i64 q,.int .i64 n,.string x,.slice none 0 0],kv] w (OutP p T tv E r A s w (put ⟨k,q,n,x,ks⟩ s)):=by
 have hp:=h.lt
 have hl:s.nodes.length≤900000:=by unfold phi at hc;omega
 have hcap:phi { s with nodes:=s.nodes++[⟨k,q,n,x,ks⟩] } = phi s+1:=by unfold phi;simp;omega
 have HCAP:=hide hcap
 clear hcap
 obtain⟨v,kvs,hblk,hown,hkl,hks⟩:=h.own
 obtain⟨i0,hi0,hz0,hz1,hz2⟩:=info_parts Tryz.infoNode
 obtain⟨ka,kn,kc,rfl⟩:=own_form hk
 have c4:w.cell? ⟨p,4,none⟩=some v:=by simp [World.cell?,hblk]
 have hb1:s.nodes.length+1≤maxLen:=by unfold maxLen;omega
 have hb2:(s.nodes.length+1) * 64≤140737488355328:=by omega
 have hb3:p+1≤w.heap.size+1+1:=by omega
 have HBK:=hide hblk
 have HKS:=hide hks
 have HKL:=hide hkl
 have HH:=hide h
 have HK:=hide hk
 have HKA:=hide hkA
 clear h hblk hks hkl hk hkA
 go_enter Tryz.func69,Tryz.ntmps69
 go_wp2
 go_region_law (refine step_append_room rfl (.tmp 13) (.tmp 15) 31 rfl (p+1) 36 i0 _ 5 64 Tryz.underlying31 hi0 hz0 hz1 hz2 rfl (by decide) v s.nodes.length (ncells s.nodes kvs) (by simp [Act.eval]) (by exact ((hown.alloc _).alloc _)) ⟨w.heap.size+1,0,none⟩ 1 [.int .i64 k,.int .i64 q,.int .i64 n,.string x,.slice ka kn kc] (by simp [Act.eval]) rfl (by exact new5 (by simp) _ _ _ _ _ _) (ones5 k q n x ka kn kc) hb1 hb2 (by simpa using hb3) ?_;intro v1 w1 hown1 hgrow1 hv1;replace hv1:_∨∀ k,v1.ownBlock=some k→w.heap.size≤k:=hv1.imp id (fun hh k hk=>by have:=hh k hk;simp at this;omega);have HV1:=hide hv1;clear hv1;obtain⟨hB1,hB2,hB3⟩:=nappended (uh HBK) hown (fun hn=>(uh HKL).2.1 (List.length_eq_zero_iff.1 hn)) _ _ ⟨hgrow1.os,hgrow1.tape,hgrow1.output,hgrow1.size,hgrow1.block⟩;obtain⟨c4',f4'⟩:=cells5 hB1;have HO:=hide hown1;have HB1:=hide hB1;clear hown1 hgrow1 hB1;obtain⟨va,vc,rfl⟩:=own_len (uh HO))
 all_goals
  have hst2:=PSt.putted ⟨k,q,n,x,ks⟩ (uh HH) hB2 (by rw [uh HCAP];exact hc) (uh HB1) (.slice ka kn kc) (uh HKL) (uh HV1) (uh HKS) (uh HK) (uh HKA) (uh HO)
  have hf2:=hB2.setP (uh HBK) 4 (.slice va (s.nodes.length+1) vc)
  have hc2:=cells5 (p_set4 (uh HB1) (.slice va (s.nodes.length+1) vc))
  have HQ:Hid ((s.nodes.length:Int)+1 - 1=(s.nodes.length:Int)):=by show _=_;omega
  clear HB1 HO hB2 hB3 c4' f4'
  generalize w1.setCell ⟨p,4,none⟩ (Value.slice va (s.nodes.length+1) vc)=w2 at *
  obtain⟨c4',f4'⟩:=hc2
  have hz:0≤(s.nodes.length:Int)∧(s.nodes.length:Int)≤1000000:=by omega
  go_wp2
  go_ret
  exact Or.inl ⟨s.nodes.length,_,rfl,rfl,hst2,hf2,uh HCAP⟩
end
section
open Go.RowKit
theorem ints_new {w:World}{B:Nat}(hB:B≤w.heap.size) (ks:List Nat) (hl:ks.length≤100):Ints (w.alloc (.cells (ivals ks).toArray 3)) B (.slice (some ⟨w.heap.size,0,none⟩) ks.length ks.length) ks:=by
 refine⟨by simp [ivals],Or.inr ⟨w.heap.size,ks.length,(ivals ks).toArray,rfl,hB,heap_alloc_new w _,Nat.le_refl _,by unfold maxLen;omega,by simp [ivals],by simp only [Nat.mul_one];exact List.take_of_length_le (by simp [ivals])⟩⟩
theorem OutP.from {p:Nat}{T:List Tok}{tv:Value}{E r:Nat}{A:Nat→Prop}{s:PS}{w:World}{o:Obj}{res:Res Nat}{e:Ending}{w':World}(hp:p<w.heap.size) (h:OutP p T tv E r A s (w.alloc o) res e w'):OutP p T tv E r A s w res e w':=by
 rcases h with⟨k,s',h1,h2,h3,h4,h5⟩ | h
 ·exact Or.inl ⟨k,s',h1,h2,h3,(Fr.of (blA w o) hp).step h4,h5⟩
 ·exact Or.inr h
theorem put0 {p T tv E r A s w}(h:PSt p T tv E r A s w) (hc:phi s+1≤900000) {k n q:Int}{x:ByteArray} :
  Calls Tryz.prog 69 #[.pointer (some ⟨p,0,none⟩),.agg #[.int .i64 k,.int .i64 q,.int .i64 n,.string x,.slice none 0 0],.slice none 0 0] w (OutP p T tv E r A s w (put ⟨k,q,n,x,[]⟩ s)) :=
 nput_any h hc k n q x (.slice none 0 0) [] (World.ownsRow_nil _ _ _ _) (by intro k hk;cases hk)
theorem put1 {p T tv E r A s w}(h:PSt p T tv E r A s w) (hc:phi s+1≤900000) {k n q:Int}{x:ByteArray}{a:Nat} :
  Calls Tryz.prog 69 #[.pointer (some ⟨p,0,none⟩),.agg #[.int .i64 k,.int .i64 q,.int .i64 n,.string x,.slice none 0 0],.slice (some ⟨w.heap.size,0,none⟩) 1 1] (w.alloc (.cells #[.int .i64 (a:Int)] 3)) (OutP p T tv E r A s w (put ⟨k,q,n,x,[a]⟩ s)) :=
 (nput_any (h.alloc _) hc k n q x _ [a] (ints_new h.lt [a] (by simp)) (fun k hk hA=>by simp [Value.ownBlock] at hk;have:=h.sep k hA;omega)).mono fun _ _ ho=>OutP.from h.lt ho
theorem put2 {p T tv E r A s w}(h:PSt p T tv E r A s w) (hc:phi s+1≤900000) {k n q:Int}{x:ByteArray}{a b:Nat} :
  Calls Tryz.prog 69 #[.pointer (some ⟨p,0,none⟩),.agg #[.int .i64 k,.int .i64 q,.int .i64 n,.string x,.slice none 0 0],.slice (some ⟨w.heap.size,0,none⟩) 2 2] (w.alloc (.cells #[.int .i64 (a:Int),.int .i64 (b:Int)] 3)) (OutP p T tv E r A s w (put ⟨k,q,n,x,[a,b]⟩ s)) :=
 (nput_any (h.alloc _) hc k n q x _ [a,b] (ints_new h.lt [a,b] (by simp)) (fun k hk hA=>by simp [Value.ownBlock] at hk;have:=h.sep k hA;omega)).mono fun _ _ ho=>OutP.from h.lt ho
theorem put3 {p T tv E r A s w}(h:PSt p T tv E r A s w) (hc:phi s+1≤900000) {k n q:Int}{x:ByteArray}{a b c:Nat} :
  Calls Tryz.prog 69 #[.pointer (some ⟨p,0,none⟩),.agg #[.int .i64 k,.int .i64 q,.int .i64 n,.string x,.slice none 0 0],.slice (some ⟨w.heap.size,0,none⟩) 3 3] (w.alloc (.cells #[.int .i64 (a:Int),.int .i64 (b:Int),.int .i64 (c:Int)] 3)) (OutP p T tv E r A s w (put ⟨k,q,n,x,[a,b,c]⟩ s)) :=
 (nput_any (h.alloc _) hc k n q x _ [a,b,c] (ints_new h.lt [a,b,c] (by simp)) (fun k hk hA=>by simp [Value.ownBlock] at hk;have:=h.sep k hA;omega)).mono fun _ _ ho=>OutP.from h.lt ho
def OutB (b:Bool) (w:World) (e:Ending) (w':World):Prop:=∃ y,e=.returned (.bool y)∧b=y∧Below w.heap.size w w'
theorem is1b {p T tv E r A s w}(h:PSt p T tv E r A s w) {a:ByteArray}{t:TypeId}{c:Nat} :
  Calls Tryz.prog 98 #[.pointer (some ⟨p,0,none⟩),.slice (some ⟨w.heap.size,0,none⟩) 1 c] (w.alloc (.cells #[.string a] t)) (OutB (isB E s [a]) w):=(is1 h).mono fun _ _ ho=>⟨_,ho.1,rfl,ho.2⟩
theorem is2b {p T tv E r A s w}(h:PSt p T tv E r A s w) {a b:ByteArray}{t:TypeId}{c:Nat} :
  Calls Tryz.prog 98 #[.pointer (some ⟨p,0,none⟩),.slice (some ⟨w.heap.size,0,none⟩) 2 c] (w.alloc (.cells #[.string a,.string b] t)) (OutB (isB E s [a,b]) w):=(is2 h).mono fun _ _ ho=>⟨_,ho.1,rfl,ho.2⟩
theorem is5b {p T tv E r A s w}(h:PSt p T tv E r A s w) {a b x y z:ByteArray}{t:TypeId}{c:Nat} :
  Calls Tryz.prog 98 #[.pointer (some ⟨p,0,none⟩),.slice (some ⟨w.heap.size,0,none⟩) 5 c] (w.alloc (.cells #[.string a,.string b,.string x,.string y,.string z] t)) (OutB (isB E s [a,b,x,y,z]) w):=(is5 h).mono fun _ _ ho=>⟨_,ho.1,rfl,ho.2⟩
theorem isKindb {p T tv E r A s w}(h:PSt p T tv E r A s w) {k:Int} :
  Calls Tryz.prog 163 #[.pointer (some ⟨p,0,none⟩),.int .i64 k] w (OutB (decide ((look E s 0).kind=k)) w):=(isKind_any h k).mono fun _ _ ho=>⟨_,ho.1,rfl,ho.2⟩
theorem bind_is {β:Type}{res:Res β}{E:Nat}{ws:List ByteArray}{f:Bool→M β}{s:PS}{y:Bool}(h:res=M.bind (is E ws) f s) (hy:isB E s ws=y):res=f y s:=by rw [h,← hy];rfl
theorem bind_isKind {β:Type}{res:Res β}{E:Nat}{k:Int}{f:Bool→M β}{s:PS}{y:Bool}(h:res=M.bind (isKind E k) f s) (hy:decide ((look E s 0).kind=k)=y):res=f y s:=by rw [h,← hy];rfl
theorem bind_look {β:Type}{res:Res β}{E k:Nat}{f:Tok→M β}{s:PS}(h:res=M.bind (looking E k) f s):res=f (look E s k) s:=h
def Reads (p:Nat) (T:List Tok) (tv:Value) (E r:Nat) (A:Nat→Prop) (c F:Nat) (m:M Nat):Prop:=∀ s w,PSt p T tv E r A s w→Calls Tryz.prog F #[.pointer (some ⟨p,0,none⟩)] w (Out p T tv E r A w.heap.size c s w (m s) RNat)
end
section
open Go.RowKit
theorem Tryz.infoInt:(Tryz.prog.info? 3).map (fun i=>(i.zero,i.size,i.bytes))=some (some (.int .i64 0),1,8):=by kernel_rfl
theorem own_lower {w:World}{b b' e z:Nat}{v:Value}{n:Nat}{xs:List Value}(h:w.ownsRow b e z v n xs) (hb:b'≤b):w.ownsRow b' e z v n xs:=by
 refine⟨h.1,?_⟩
 rcases h.2 with h2 | ⟨g,cap,cur,hv,hg,hh,r⟩
 ·exact Or.inl h2
 ·exact Or.inr ⟨g,cap,cur,hv,by omega,hh,r⟩
theorem wpList_iapp {w:World}{ops:Array Oper}{rest:List Oper}{o:Oper}{a:Act}{Q:Exit→Act→World→Prop}
  (hg:o.guard=none) (s x:Operand) (hop:o.op=Op.call { callee:=Callee.builtin Builtin.append,args:=#[s,x],argTypes:=#[34,34] })
  (B:Nat) (v:Value) (ks:List Nat) (hs:a.eval s=v) (hI:Ints w B v ks) (g:Nat) (k:Nat) (hx:a.eval x=.slice (some ⟨g,0,none⟩) 1 1) (hc:w.cell? ⟨g,0,none⟩=some (.int .i64 (k:Int)))
  (hl:ks.length≤1000000) (hB:B≤w.heap.size)
  (hK:∀ v' w',Ints w' B v' (ks++[k])→w.grownBy w' v.ownBlock→(v'.ownBlock=v.ownBlock∨∀ j,v'.ownBlock=some j→w.heap.size≤j)→wpList Tryz.prog ops Q rest (a.put o.dst v') w') :
  wpList Tryz.prog ops Q (o :: rest) a w:=by
 obtain⟨i0,hi0,hz0,hz1,hz2⟩:=info_parts Tryz.infoInt
 have hcells:∀ j u,[Value.int .i64 (k:Int)][j]? = some u→w.cell? ((⟨g,0,none⟩:Addr).add j)=some u:=by
  intro j u hj
  match j,hj with
  | 0,hj=>simp at hj;subst hj;exact hc
 have hones:∀ u ∈ [Value.int .i64 (k:Int)],u.oneCell'=true:=by
  intro u hu;simp at hu;subst hu;rfl
 have hval:ivals (ks++[k])=ivals ks++[Value.int .i64 (k:Int)]:=by simp [ivals]
 have hlen:(ivals ks).length=ks.length * 1:=by simp [ivals]
 rcases hI.2 with⟨hv,hn⟩ | ⟨b,cap,cur,hv,hb,hh,hcap,hmax,hcs,htk⟩
 ·refine wpList_append_grows w hg s x 34 hop 3 i0 _ 1 8 Tryz.underlying34 hi0 hz0 hz1 hz2 rfl (by decide) none 0 0 [] (hs.trans hv) (fun _=>⟨rfl,rfl⟩) rfl (by intro b hb;cases hb) ⟨g,0,none⟩ 1 1 [.int .i64 (k:Int)] hx rfl hcells hones (by omega) (by unfold maxLen;omega) (by omega) ?_
  intro v' w' h1 h2
  have hks:ks = []:=List.length_eq_zero_iff.1 hn
  refine hK v' w' ?_ (by rw [hv];exact h2) (Or.inr fun j hj=>(h1.lt j hj).1)
  subst hks
  exact own_lower h1 hB
 ·by_cases hfit:ks.length+1≤cap
  ·refine wpList_append_fits w hg s x 34 hop B 3 i0 1 Tryz.underlying34 hi0 hz1 b ks.length cap (ivals ks) (hs.trans hv) (by rw [← hv];exact hI) ⟨g,0,none⟩ 1 1 [.int .i64 (k:Int)] hx rfl hcells hones hfit ?_
   intro w' h1 h2
   refine hK _ w' ?_ (by rw [hv];exact h2) (Or.inl (by rw [hv];rfl))
   unfold Ints
   rw [hval]
   simpa using h1
  ·refine wpList_append_grows w hg s x 34 hop 3 i0 _ 1 8 Tryz.underlying34 hi0 hz0 hz1 hz2 rfl (by decide) (some ⟨b,0,none⟩) ks.length cap (ivals ks) (hs.trans hv) (by intro h;cases h) hlen (by intro b' hb';simp only [Option.some.injEq] at hb';subst hb';exact World.ownsRow.cells hI (by rw [hv];rfl)) ⟨g,0,none⟩ 1 1 [.int .i64 (k:Int)] hx rfl hcells hones (by omega) (by unfold maxLen;omega) (by omega) ?_
   intro v' w' h1 h2
   refine hK v' w' ?_ ⟨h2.os,h2.tape,h2.output,h2.size,fun j hj _=>h2.block j hj (by intro h;cases h)⟩ (Or.inr fun j hj=>(h1.lt j hj).1)
   unfold Ints
   rw [hval]
   have:=own_lower h1 hB
   simpa using this
def Au (A:Nat→Prop) (v:Value):Nat→Prop:=fun k=>A k∨v.ownBlock=some k
theorem PSt.weak {p T tv E r s w}{A A':Nat→Prop}(h:PSt p T tv E r A' s w) (hA:∀ k,A k→A' k):PSt p T tv E r A s w:=by
 obtain⟨v,kvs,hblk,hown,hl,hk⟩:=h.own
 exact⟨h.room,h.suffix,h.few,h.small,h.cap,fun k hk=>h.sep k (hA k hk),⟨v,kvs,hblk,hown,⟨hl.1,hl.2.1,fun k hkk hAk=>hl.2.2 k hkk (hA k hAk)⟩,fun i n kv hi hj=>⟨(hk i n kv hi hj).1,fun k hkk hAk=>(hk i n kv hi hj).2 k hkk (hA k hAk)⟩⟩,h.toks⟩
theorem PSt.unlist {p T tv E r A s w}{v:Value}(h:PSt p T tv E r (Au A v) s w):PSt p T tv E r A s w:=h.weak fun _ hk=>Or.inl hk
theorem PSt.empty {p T tv E r A s w}(h:PSt p T tv E r A s w):PSt p T tv E r (Au A (.slice none 0 0)) s w:=h.weak fun _ hk=>hk.elim id fun he=>by cases he
theorem PSt.iapp {p T tv E r A s w}{B:Nat}{v v1:Value}{ks ks1:List Nat}{w4:World}{o:Obj}(h:PSt p T tv E r (Au A v) s w) (hI:Ints w B v ks) (hg:(w.alloc o).grownBy w4 v.ownBlock) (hv:v1.ownBlock=v.ownBlock∨∀ k,v1.ownBlock=some k→w.heap.size≤k) (hI1:Ints w4 B v1 ks1) :
  PSt p T tv E r (Au A v1) s w4:=by
 obtain⟨u,kvs,hblk,hown,hl,hk⟩:=h.own
 have hsz:w.heap.size≤w4.heap.size:=by have:=hg.size;rw [szA] at this;omega
 have hkeep:∀ (k:Nat) (ob:Obj),w.heap[k]? = some ob→v.ownBlock≠some k→w4.heap[k]? = some ob:=by
  intro k ob hob hne
  have hlt:=(Array.getElem?_eq_some_iff.1 hob).1
  rw [hg.block k (by rw [szA];omega) (Ne.symm hne),Below.heap_alloc _ _ _ hlt];exact hob
 have hrow:∀ {b e z:Nat}{u:Value}{n:Nat}{xs:List Value},w.ownsRow b e z u n xs→(∀ k,u.ownBlock=some k→v.ownBlock≠some k)→w4.ownsRow b e z u n xs:=by
  intro b e z u n xs hr hne
  refine⟨hr.1,?_⟩
  rcases hr.2 with h2 | ⟨g,cap,cur,hvv,hgg,hh,rr⟩
  ·exact Or.inl h2
  ·exact Or.inr ⟨g,cap,cur,hvv,hgg,hkeep g _ hh (hne g (by rw [hvv];rfl)),rr⟩
 have hty:∀ {b e z:Nat}{u:Value}{n:Nat}{xs:List Value},w.ownsRow b e z u n xs→e≠3→∀ k,u.ownBlock=some k→v.ownBlock≠some k:=by
  intro b e z u n xs hr hne k hk hvk
  obtain⟨c1,h1⟩:=own_type hr hk
  obtain⟨c2,h2⟩:=own_type hI hvk
  rw [h1] at h2
  simp at h2
  exact hne h2.2
 have hpv:v.ownBlock≠some p:=by
  intro hvp
  obtain⟨c2,h2⟩:=own_type hI hvp
  rw [hblk] at h2
  simp at h2
 refine⟨h.room,h.suffix,h.few,h.small,h.cap,?_,⟨u,kvs,hkeep p _ hblk hpv,hrow hown (hty hown (by decide)),⟨hl.1,hl.2.1,fun k hkk hAk=>?_⟩,fun i n kv hi hj=>?_⟩,hrow h.toks (hty h.toks (by decide))⟩
 ·intro k hAk
  rcases hAk with hA | hA
  ·exact Nat.lt_of_lt_of_le (h.sep k (Or.inl hA)) hsz
  ·exact hI1.lt k hA
 ·rcases hAk with hA | hA
  ·exact hl.2.2 k hkk (Or.inl hA)
  ·rcases hv with hv | hv
   ·exact hl.2.2 k hkk (Or.inr (by rw [← hv];exact hA))
   ·have h1:=hv k hA
    have h2:=(hown.lt k hkk).2
    omega
 ·obtain⟨q1,q2⟩:=hk i n kv hi hj
  refine⟨hrow q1 fun k hkk hvk=>q2 k hkk (Or.inr hvk),fun k hkk hAk=>?_⟩
  rcases hAk with hA | hA
  ·exact q2 k hkk (Or.inl hA)
  ·rcases hv with hv | hv
   ·exact q2 k hkk (Or.inr (by rw [← hv];exact hA))
   ·have h1:=hv k hA
    have h2:=q1.lt k hkk
    omega
theorem Fr.iapp {p B:Nat}{w0 w w4:World}{v:Value}{ks:List Nat}{o:Obj}(hf:Fr p B w0 w) (hI:Ints w B v ks) (hpB:p<B) (hg:(w.alloc o).grownBy w4 v.ownBlock):Fr p B w0 w4:=by
 have hsz:=hg.size
 rw [szA] at hsz
 have hle:=hf.le
 have hs:=hf.size
 have hb:∀ k,v.ownBlock=some k→B≤k:=fun k hk=>(World.ownsRow.lt hI k hk).1
 refine⟨hf.le,hf.lp,(hf.below.alloc (by have:=hf.lp;omega) o).grown hg (by rw [szA];have:=hf.lp;omega) (fun k hk=>by have:=hb k hk;omega),fun k ob hk hob hq=>?_⟩
 rw [hg.block k (by rw [szA];omega) (fun he=>by have:=hb k he.symm;omega),Below.heap_alloc _ _ _ (by omega)]
 exact hf.keep k ob hk hob hq
def OutL (p:Nat) (T:List Tok) (tv:Value) (E r:Nat) (A:Nat→Prop) (B c L:Nat) (s:PS) (w:World) (res:Res (List Nat)) (e:Ending) (w':World):Prop :=
 (∃ ks s' v,res=.ok ks s'∧e=.returned v∧Ints w' B v ks∧PSt p T tv E r (Au A v) s' w'∧Fr p B w w'∧phi s'+c≤phi s∧ks.length≤L) ∨
 (∃ c q,res=.bad c q∧e=.panicked [{ v:=.iface (ft c) (.agg #[.int .i64 q]),recovered:=false }]∧Ill c p w w')
theorem Reads.mono {p T tv E r A F m}{c c':Nat}(h:Reads p T tv E r A c F m) (hc:c'≤c):Reads p T tv E r A c' F m:=by
 intro s w hs
 refine (h s w hs).mono ?_
 intro e w' ho
 rcases ho.elim with⟨a,s1,v,hq,rfl,hR,hst,hf,hd⟩ | ⟨c,q,hq,rfl,hb⟩
 ·exact Out.good hq hR hst hf (by omega)
 ·exact Out.ill hq hb
end
section
open Go.RowKit
set_option maxHeartbeats 4000000 in
theorem pointer_any {p T tv E r A s w}(h:PSt p T tv E r A s w) :
  Calls Tryz.prog 149 #[.pointer (some ⟨p,0,none⟩)] w (Out p T tv E r A w.heap.size 2 s w (pointer E s) RNat):=by
 have hp:=h.lt
 have hroom:=h.room
 have hcap:=h.cap
 obtain⟨res,hres⟩:∃ res,res=pointer E s:=⟨_,rfl⟩
 rw [← hres]
 unfold pointer at hres
 have HM:=hide hres
 have hf:=Fr.refl (p:=p) (Nat.le_refl w.heap.size) hp
 have hst:=h
 clear h hres
 have hff1:=field_text
 have hff2:=field_pos
 have hff3:=field_kind
 have hff4:=field_num
 go_enter Tryz.func149,Tryz.ntmps149
 go_wp2_with (first
  | (go_at_call_of 68 (1:Nat);refine (want1 hst (by decide)).mono ?_;clear hst;intro e w1 ho;rcases ho.elim with⟨a,s1,v,hq,rfl,hR,hst,hf1,hd⟩ | ⟨c,q,hq,rfl,hb⟩;rotate_left;(first | exact⟨rfl,Out.ill (bind_bad (uh HM) hq) (hf.below' hb)⟩ | exact⟨rfl,Out.ill ((uh HM).trans hq) (hf.below' hb)⟩);(first | (replace HM:=hide (bind_ok (uh HM) hq)) | (replace HM:=hide ((uh HM).trans hq)));replace hf:=hf.step hf1;unfold RTok at hR;subst hR;clear ho hf1 hq)
          | (go_at_call_of 68 (2:Nat);refine (want2 hst (by decide)).mono ?_;clear hst;intro e w1 ho;rcases ho.elim with⟨a,s1,v,hq,rfl,hR,hst,hf1,hd⟩ | ⟨c,q,hq,rfl,hb⟩;rotate_left;(first | exact⟨rfl,Out.ill (bind_bad (uh HM) hq) (hf.below' hb)⟩ | exact⟨rfl,Out.ill ((uh HM).trans hq) (hf.below' hb)⟩);(first | (replace HM:=hide (bind_ok (uh HM) hq)) | (replace HM:=hide ((uh HM).trans hq)));replace hf:=hf.step hf1;unfold RTok at hR;subst hR;clear ho hf1 hq)
          | (go_at_call 144;refine (wantKind_any hst _ (by decide)).mono ?_;clear hst;intro e w1 ho;rcases ho.elim with⟨a,s1,v,hq,rfl,hR,hst,hf1,hd⟩ | ⟨c,q,hq,rfl,hb⟩;rotate_left;(first | exact⟨rfl,Out.ill (bind_bad (uh HM) hq) (hf.below' hb)⟩ | exact⟨rfl,Out.ill ((uh HM).trans hq) (hf.below' hb)⟩);(first | (replace HM:=hide (bind_ok (uh HM) hq)) | (replace HM:=hide ((uh HM).trans hq)));replace hf:=hf.step hf1;unfold RTok at hR;subst hR;clear ho hf1 hq)
          | (go_at_call 127;refine (wantName_any hst).mono ?_;clear hst;intro e w1 ho;rcases ho.elim with⟨a,s1,v,hq,rfl,hR,hst,hf1,hd⟩ | ⟨c,q,hq,rfl,hb⟩;rotate_left;(first | exact⟨rfl,Out.ill (bind_bad (uh HM) hq) (hf.below' hb)⟩ | exact⟨rfl,Out.ill ((uh HM).trans hq) (hf.below' hb)⟩);(first | (replace HM:=hide (bind_ok (uh HM) hq)) | (replace HM:=hide ((uh HM).trans hq)));replace hf:=hf.step hf1;unfold RStr at hR;subst hR;clear ho hf1 hq)
          | (go_at_call 102;refine (next_any hst (uh hne)).mono ?_;clear hst;intro e w1 ho;rcases ho.elim with⟨a,s1,v,hq,rfl,hR,hst,hf1,hd⟩ | ⟨c,q,hq,rfl,hb⟩;rotate_left;(first | exact⟨rfl,Out.ill (bind_bad (uh HM) hq) (hf.below' hb)⟩ | exact⟨rfl,Out.ill ((uh HM).trans hq) (hf.below' hb)⟩);(first | (replace HM:=hide (bind_ok (uh HM) hq)) | (replace HM:=hide ((uh HM).trans hq)));replace hf:=hf.step hf1;unfold RTok at hR;subst hR;clear ho hf1 hq)
          | (go_at_call 148;refine (shut_any hst (by omega) _ (by decide)).mono ?_;clear hst;intro e w1 ho;rcases ho.elim with⟨a,s1,v,hq,rfl,hR,hst,hf1,hd⟩ | ⟨c,q,hq,rfl,hb⟩;rotate_left;(first | exact⟨rfl,Out.ill (bind_bad (uh HM) hq) (hf.below' hb)⟩ | exact⟨rfl,Out.ill ((uh HM).trans hq) (hf.below' hb)⟩);(first | (replace HM:=hide (bind_ok (uh HM) hq)) | (replace HM:=hide ((uh HM).trans hq)));replace hf:=hf.step hf1;unfold RUnit at hR;subst hR;clear ho hf1 hq)
          | (go_at_call_of 98 (1:Nat);refine (is1b hst).mono ?_;rintro e w1 ⟨y,rfl,hy,hb1⟩;replace hst:=hst.new hb1;replace hf:=hf.new hb1;replace HM:=hide (bind_is (uh HM) hy);clear hb1;cases y;(try (replace HM:=hide (ite_no (uh HM) rfl)));rotate_left;(try (replace HM:=hide (ite_yes (uh HM) rfl)));(try (have hne:=hide (rest_ne_is hy (by decide))));(try (clear hy));rotate_left;(try (clear hy)))
          | (go_at_call_of 98 (2:Nat);refine (is2b hst).mono ?_;rintro e w1 ⟨y,rfl,hy,hb1⟩;replace hst:=hst.new hb1;replace hf:=hf.new hb1;replace HM:=hide (bind_is (uh HM) hy);clear hb1;cases y;(try (replace HM:=hide (ite_no (uh HM) rfl)));rotate_left;(try (replace HM:=hide (ite_yes (uh HM) rfl)));(try (have hne:=hide (rest_ne_is hy (by decide))));(try (clear hy));rotate_left;(try (clear hy)))
          | (go_at_call_of 98 (5:Nat);refine (is5b hst).mono ?_;rintro e w1 ⟨y,rfl,hy,hb1⟩;replace hst:=hst.new hb1;replace hf:=hf.new hb1;replace HM:=hide (bind_is (uh HM) hy);clear hb1;cases y;(try (replace HM:=hide (ite_no (uh HM) rfl)));rotate_left;(try (replace HM:=hide (ite_yes (uh HM) rfl)));(skip);(try (clear hy));rotate_left;(try (clear hy)))
          | (go_at_call 163;refine (isKindb hst).mono ?_;rintro e w1 ⟨y,rfl,hy,hb1⟩;replace hst:=hst.new hb1;replace hf:=hf.new hb1;replace HM:=hide (bind_isKind (uh HM) hy);clear hb1;cases y;(try (replace HM:=hide (ite_no (uh HM) rfl)));rotate_left;(try (replace HM:=hide (ite_yes (uh HM) rfl)));(try (have hne:=hide (rest_ne_kind (of_decide_eq_true hy) (by decide))));(try (clear hy));rotate_left;(try (clear hy)))
          | (go_at_call 126;refine (look0_any hst).mono ?_;rintro e w1 ⟨rfl,hb1⟩;replace hst:=hst.new hb1;replace hf:=hf.new hb1;replace HM:=hide (bind_look (uh HM));clear hb1)
          | (go_at_call_of 146 (1:Nat);refine (open1 hst (by decide)).mono ?_;clear hst;intro e w1 ho;rcases ho with⟨r',a,s1,rfl,hq,rfl,hst,hf1,hd⟩ | ⟨c,q,hq,rfl,hb⟩;rotate_left;exact⟨rfl,Out.ill (bind_bad (uh HM) hq) (hf.below' hb)⟩;replace HM:=hide (bind_ok (uh HM) hq);replace hf:=hf.step hf1;clear hf1 hq)
          | (go_at_call_of 146 (3:Nat);refine (open3 hst (by decide)).mono ?_;clear hst;intro e w1 ho;rcases ho with⟨r',a,s1,rfl,hq,rfl,hst,hf1,hd⟩ | ⟨c,q,hq,rfl,hb⟩;rotate_left;exact⟨rfl,Out.ill (bind_bad (uh HM) hq) (hf.below' hb)⟩;replace HM:=hide (bind_ok (uh HM) hq);replace hf:=hf.step hf1;clear hf1 hq)
          | (go_at_call_of 69 (1:Nat);refine (put1 hst (by omega)).mono ?_;clear hst;intro e w1 ho;rcases ho with⟨k,s1,hq,rfl,hst,hf1,hd⟩ | hfalse;rotate_left;exact hfalse.elim;(first | (replace HM:=hide (bind_ok (uh HM) hq)) | (replace HM:=hide ((uh HM).trans hq)));replace hf:=hf.step hf1;clear hf1 hq)
          | (go_at_call_of 69 (2:Nat);refine (put2 hst (by omega)).mono ?_;clear hst;intro e w1 ho;rcases ho with⟨k,s1,hq,rfl,hst,hf1,hd⟩ | hfalse;rotate_left;exact hfalse.elim;(first | (replace HM:=hide (bind_ok (uh HM) hq)) | (replace HM:=hide ((uh HM).trans hq)));replace hf:=hf.step hf1;clear hf1 hq)
          | (go_at_call_of 69 (3:Nat);refine (put3 hst (by omega)).mono ?_;clear hst;intro e w1 ho;rcases ho with⟨k,s1,hq,rfl,hst,hf1,hd⟩ | hfalse;rotate_left;exact hfalse.elim;(first | (replace HM:=hide (bind_ok (uh HM) hq)) | (replace HM:=hide ((uh HM).trans hq)));replace hf:=hf.step hf1;clear hf1 hq)
          | (go_at_call 69;refine (put0 hst (by omega)).mono ?_;clear hst;intro e w1 ho;rcases ho with⟨k,s1,hq,rfl,hst,hf1,hd⟩ | hfalse;rotate_left;exact hfalse.elim;(first | (replace HM:=hide (bind_ok (uh HM) hq)) | (replace HM:=hide ((uh HM).trans hq)));replace hf:=hf.step hf1;clear hf1 hq)
          | (go_at_call 165;refine (leave_any hst (by omega)).mono ?_;clear hst;rintro e w1 ⟨rfl,hst,hf1⟩;(try (replace hI:=own_fr hI hf1 (by decide) (by decide)));replace hf:=hf.step hf1;clear hf1))
 go_returns
 exact Out.good (uh HM) rfl hst hf (by omega)
set_option maxHeartbeats 4000000 in
theorem typed_any {p T tv E r A s w}(h:PSt p T tv E r A s w) (ty:M Nat) (hty:Reads p T tv E r A 2 164 ty) (kind:Int) :
  Calls Tryz.prog 145 #[.pointer (some ⟨p,0,none⟩),.int .i64 kind] w (Out p T tv E r A w.heap.size 2 s w (typed E ty kind s) RNat):=by
 have hp:=h.lt
 have hroom:=h.room
 have hcap:=h.cap
 obtain⟨res,hres⟩:∃ res,res=typed E ty kind s:=⟨_,rfl⟩
 rw [← hres]
 unfold typed at hres
 have HM:=hide hres
 have hf:=Fr.refl (p:=p) (Nat.le_refl w.heap.size) hp
 have hst:=h
 clear h hres
 have hff1:=field_text
 have hff2:=field_pos
 have hff3:=field_kind
 have hff4:=field_num
 go_enter Tryz.func145,Tryz.ntmps145
 go_wp2_with (first
  | (go_at_call 144;refine (wantKind_any hst _ (by decide)).mono ?_;clear hst;intro e w1 ho;rcases ho.elim with⟨a,s1,v,hq,rfl,hR,hst,hf1,hd⟩ | ⟨c,q,hq,rfl,hb⟩;rotate_left;(first | exact⟨rfl,Out.ill (bind_bad (uh HM) hq) (hf.below' hb)⟩ | exact⟨rfl,Out.ill ((uh HM).trans hq) (hf.below' hb)⟩);(first | (replace HM:=hide (bind_ok (uh HM) hq)) | (replace HM:=hide ((uh HM).trans hq)));replace hf:=hf.step hf1;unfold RTok at hR;subst hR;clear ho hf1 hq))
 go_region_with (first
  | (go_at_call 164;refine (hty _ _ ((hst.alloc _).drew)).mono ?_;intro e w2 ho;rcases ho.elim with⟨k1,s2,v,hq,rfl,hR,hst2,hf2,hd2⟩ | ⟨c,q,hq,rfl,hb⟩;rotate_left;exact⟨rfl,Out.ill (bind_bad (uh HM) hq) (((hf.new (blA _ _)).new (below_drew _)).below' hb)⟩;have HM2:=hide (bind_ok (uh HM) hq);have hfb:=((hf.new (blA _ _)).new (below_drew _)).step hf2;have hbx:=hf2.keep _ _ (by show _<(World.alloc _ _).heap.size;rw [szA];omega) (heap_alloc_new _ _) (by simp [PlainObj]);obtain⟨x0,x1,x2,x3,y0,y1,y2,y3⟩:=box4 hbx;have hsz2:=World.block_lt_of_cell? _ _ x0;simp only [] at hsz2;unfold RNat at hR;subst hR;clear ho hq hbx hf2)
  | (go_at_call 69;refine (put1 hst2 (by omega)).mono ?_;intro e w3 ho;rcases ho with⟨k2,s3,hq,rfl,hst3,hf3,hd3⟩ | hfalse;rotate_left;exact hfalse.elim;(first | (have HM3:=hide (bind_ok (uh HM2) hq)) | (have HM3:=hide ((uh HM2).trans hq)));have hfc:=hfb.step hf3;clear hf3 hq))
 all_goals
  go_wp2
  go_returns
  exact Out.good (uh HM3) rfl hst3 hfc (by omega)
end
end Go.Proofs.YtdemnolanlfblaaGreatDoor
