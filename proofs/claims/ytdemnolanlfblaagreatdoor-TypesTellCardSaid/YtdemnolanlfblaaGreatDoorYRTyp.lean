import Derived.Test.YtdemnolanlfblaaGreatDoorYRTakeC
import Derived.Test.YtdemnolanlfblaaGreatDoorYPTypB
import Derived.Test.YtdemnolanlfblaaGreatDoorZRefNum
set_option linter.all false
namespace Go.Proofs.YtdemnolanlfblaaGreatDoor
section
open Go.RowKit
theorem rappended {p:Nat}{w w1:World}{c:Array Value}{v:Value}{n:Nat}{xs:List Value}(hblk:w.heap[p]? = some (.cells c 57 (0,0))) (hown:w.ownsRow (p+1) 36 5 v n xs) (h0:n=0→v=.slice none 0 0) (o1 o2:Obj) (hg:((w.alloc o1).alloc o2).grownBy w1 (roomBlock v)) :
  w1.heap[p]? = some (.cells c 57 (0,0))∧RFr p w.heap.size w w1∧w.heap.size+2≤w1.heap.size:=by
 have hlt:p<w.heap.size:=(Array.getElem?_eq_some_iff.1 hblk).1
 have hle:w.heap.size+2≤w1.heap.size:=by have:=hg.size;rw [szA,szA] at this;omega
 have hk:∀ (k:Nat) (o:Obj),k<w.heap.size→w.heap[k]? = some o→some k≠roomBlock v→w1.heap[k]? = some o:=by
  intro k o hk ho hne
  rw [hg.block k (by rw [szA,szA];omega) hne,Below.heap_alloc _ _ _ (by rw [szA];omega),Below.heap_alloc _ _ _ hk]
  exact ho
 have hpl:∀ (k:Nat) (o:Obj),w.heap[k]? = some o→RPlain o→some k≠roomBlock v:=by
  intro k o ho hq he
  have hv:=roomBlock_own he.symm
  rcases hown.2 with⟨rfl,_⟩ | ⟨g,cap,cur,rfl,hbg,hgg,hle',hmax,hsz,htk⟩
  ·cases hv
  ·simp [Value.ownBlock] at hv
   subst hv
   rw [hgg] at ho
   simp only [Option.some.injEq] at ho
   subst ho
   have h5:=hq.2 rfl
   have hcap:cap=1:=by omega
   unfold roomBlock at he
   by_cases hn1:n+1≤cap
   ·have hn0:n=0:=by omega
    have:=h0 hn0
    cases this
   ·simp [hn1] at he
 refine⟨hk p _ hlt hblk ?_,⟨Nat.le_refl _,hlt,?_,?_⟩,hle⟩
 ·intro he
  have hv:=roomBlock_own he.symm
  have:=(hown.lt p hv).1
  omega
 ·refine (((Below.refl p w).alloc (by omega) o1).alloc (by rw [szA];omega) o2).grown hg (by rw [szA,szA];omega) ?_
  intro k hk
  have:=(hown.lt k (roomBlock_own hk)).1
  omega
 ·intro k o hkk ho hq
  exact hk k o hkk ho (hpl k o ho hq)
theorem r_set4 {w:World}{p:Nat}{X:ByteArray}{tv:Value}{i d c q:Int}{b:Bool}{v:Value}(h:w.heap[p]? = some (.cells (rcells X tv i d v c q b) 57 (0,0))) (v':Value) :
  (w.setCell ⟨p,4,none⟩ v').heap[p]? = some (.cells (rcells X tv i d v' c q b) 57 (0,0)):=by
 rw [block_set (j:=4) h];rfl
theorem r_cell4 {w:World}{p:Nat}{X:ByteArray}{tv:Value}{i d c q:Int}{b:Bool}{v:Value}(h:w.heap[p]? = some (.cells (rcells X tv i d v c q b) 57 (0,0))):w.cell? ⟨p,4,none⟩=some v∧w.frozen? ⟨p,4,none⟩=false:=by
 simp [World.cell?,World.frozen?,h,rcells]
theorem own_rfr {w w':World}{p b e z:Nat}{v:Value}{n:Nat}{xs:List Value}(h:w.ownsRow b e z v n xs) (hf:RFr p w.heap.size w w') (h1:e≠57) (h2:e≠36):w'.ownsRow b e z v n xs:=by
 refine⟨h.1,?_⟩
 rcases h.2 with h3 | ⟨g,cap,cur,hv,hg,hh,rr⟩
 ·exact Or.inl h3
 ·exact Or.inr ⟨g,cap,cur,hv,hg,hf.keep g _ (Array.getElem?_eq_some_iff.1 hh).1 hh ⟨h1,fun he=>absurd he h2⟩,rr⟩
theorem RFr.setP {p B:Nat}{w w1:World}(h:RFr p B w w1) {c:Array Value}{f:Nat × Nat}(hblk:w.heap[p]? = some (.cells c 57 f)) (j:Nat) (u:Value):RFr p B w (w1.setCell ⟨p,j,none⟩ u):=by
 refine⟨h.le,h.lp,h.below.setCell (p:=⟨p,j,none⟩) (Nat.le_refl _) u,fun k o hk ho hq=>?_⟩
 by_cases hkp:k=p
 ·subst hkp
  rw [hblk] at ho
  simp only [Option.some.injEq] at ho
  subst ho
  simp [RPlain] at hq
 ·rw [heap_set_other hkp];exact h.keep k o hk ho hq
theorem RSt.putted {p X T tv r A s w w1}(n:Nd) (h:RSt p X T tv r A s w) (hf:RFr p w.heap.size w w1) (hcap:phi { s with nodes:=s.nodes++[n] }≤900000) {v v':Value}{kvs:List Value}
  (hblk:w1.heap[p]? = some (.cells (rcells X tv ((T.length - s.rest.length:Nat):Int) ((30 - r:Nat):Int) v 0 0 false) 57 (0,0)))
  (kv:Value) (hkl:kvs.length=s.nodes.length∧(s.nodes = []→v=.slice none 0 0)∧∀ k,v.ownBlock=some k→¬ A k) (hv:v'.ownBlock=v.ownBlock∨∀ k,v'.ownBlock=some k→w.heap.size≤k) (hks:∀ (i:Nat) (n:Nd) (kv:Value),s.nodes[i]? = some n→kvs[i]? = some kv→Ints w (p+1) kv n.kids∧∀ k,kv.ownBlock=some k→¬ A k) (hk:Ints w (p+1) kv n.kids) (hkA:∀ k,kv.ownBlock=some k→¬ A k)
  (hown:w1.ownsRow (p+1) 36 5 v' (s.nodes.length+1) (ncells s.nodes kvs++n.cells kv)) :
  RSt p X T tv r A { s with nodes:=s.nodes++[n] } (w1.setCell ⟨p,4,none⟩ v'):=by
 have hkeep:∀ {u:Value}{l:List Nat},Ints w (p+1) u l→Ints (w1.setCell ⟨p,4,none⟩ v') (p+1) u l:=by
  intro u l hu
  exact ownsRow_setCell_below (own_rfr hu hf (by decide) (by decide)) (by show p<p+1;omega) v'
 refine⟨h.room,h.suffix,h.few,h.small,h.good,hcap,fun k hk=>by rw [size_set];exact Nat.lt_of_lt_of_le (h.sep k hk) hf.size,⟨v',kvs++[kv],r_set4 hblk v',?_,⟨by simp [hkl.1],by intro h;simp at h,fun k hk hA=>hv.elim (fun hv=>hkl.2.2 k (by rw [← hv];exact hk) hA) fun hv=>by have h1:=hv k hk;have h2:=h.sep k hA;omega⟩,?_⟩,?_⟩
 ·have h2:=ownsRow_setCell_below hown (a:=⟨p,4,none⟩) (by show p<p+1;omega) v'
  show World.ownsRow _ _ _ _ _ (s.nodes++[n]).length (ncells (s.nodes++[n]) (kvs++[kv]))
  rw [ncells_snoc _ _ _ _ hkl.1]
  simpa using h2
 ·intro i m u hi hj
  simp only [] at hi
  rw [List.getElem?_append] at hi hj
  rw [hkl.1] at hj
  split at hi
  ·rename_i hlt
   rw [if_pos hlt] at hj
   exact⟨hkeep (hks i m u hi hj).1,(hks i m u hi hj).2⟩
  ·rename_i hlt
   rw [if_neg hlt] at hj
   have h0:i - s.nodes.length=0:=by
    have:=(List.getElem?_eq_some_iff.1 hi).1
    simp at this
    omega
   rw [h0] at hi hj
   simp at hi hj
   subst hi hj
   exact⟨hkeep hk,hkA⟩
 ·have ht:=own_rfr h.toks hf (by decide) (by decide)
  exact own_set_ne ht (own_ne ht hblk (by decide)) v'
set_option maxHeartbeats 1000000 in
theorem rput_ok {p X T tv r A s w}(h:RSt p X T tv r A s w) (hc:phi s+1≤900000) (k n q:Int) (x:ByteArray) (kv:Value) (ks:List Nat) (hk:Ints w (p+1) kv ks) (hkA:∀ k,kv.ownBlock=some k→¬ A k) :
  Calls Tryz.prog 38 #[.pointer (some ⟨p,0,none⟩),.agg #[.int .i64 k,.int .i64 q,.int .i64 n,.string x,kv]] w fun e w'=>∃ s',put ⟨k,q,n,x,ks⟩ s=.ok s.nodes.length s'∧e=.returned (.int .i64 (s.nodes.length:Int))∧RSt p X T tv r A s' w'∧RFr p w.heap.size w w'∧phi s'=phi s+1:=by
 have hp:=h.lt
 have hl:s.nodes.length≤900000:=by unfold phi at hc;omega
 have hcap:phi { s with nodes:=s.nodes++[⟨k,q,n,x,ks⟩] } = phi s+1:=by unfold phi;simp;omega
 have HCAP:=hide hcap
 clear hcap
 obtain⟨v,kvs,hblk,hown,hkl,hks⟩:=h.own
 obtain⟨i0,hi0,hz0,hz1,hz2⟩:=info_parts Tryz.infoNode
 obtain⟨ka,kn,kc,rfl⟩:=own_form hk
 obtain⟨c4,f4⟩:=r_cell4 hblk
 have hb1:s.nodes.length+1≤maxLen:=by unfold maxLen;omega
 have hb2:(s.nodes.length+1) * 64≤140737488355328:=by omega
 have hb3:p+1≤w.heap.size+1+1:=by omega
 have HBK:=hide hblk
 have HKS:=hide hks
 have HKL:=hide hkl
 have HH:=hide h
 have HK:=hide hk
 have HKA:=hide hkA
 clear h hblk hks hkl hk hkA
 go_enter Tryz.func38,Tryz.ntmps38
 go_wp2
 go_region_law (refine step_append_room rfl (.tmp 9) (.tmp 11) 31 rfl (p+1) 36 i0 _ 5 64 Tryz.underlying31 hi0 hz0 hz1 hz2 rfl (by decide) v s.nodes.length (ncells s.nodes kvs) (by simp [Act.eval]) (by exact ((hown.alloc _).alloc _)) ⟨w.heap.size+1,0,none⟩ 1 [.int .i64 k,.int .i64 q,.int .i64 n,.string x,.slice ka kn kc] (by simp [Act.eval]) rfl (by exact new5 (by simp) _ _ _ _ _ _) (ones5 k q n x ka kn kc) hb1 hb2 (by simpa using hb3) ?_;intro v1 w1 hown1 hgrow1 hv1;replace hv1:_∨∀ k,v1.ownBlock=some k→w.heap.size≤k:=hv1.imp id (fun hh k hk=>by have:=hh k hk;simp at this;omega);have HV1:=hide hv1;clear hv1;obtain⟨hB1,hB2,hB3⟩:=rappended (uh HBK) hown (fun hn=>(uh HKL).2.1 (List.length_eq_zero_iff.1 hn)) _ _ ⟨hgrow1.os,hgrow1.tape,hgrow1.output,hgrow1.size,hgrow1.block⟩;obtain⟨c4',f4'⟩:=r_cell4 hB1;have HO:=hide hown1;have HB1:=hide hB1;clear hown1 hgrow1 hB1;obtain⟨va,vc,rfl⟩:=own_len (uh HO))
 all_goals
  have hst2:=RSt.putted ⟨k,q,n,x,ks⟩ (uh HH) hB2 (by rw [uh HCAP];exact hc) (uh HB1) (.slice ka kn kc) (uh HKL) (uh HV1) (uh HKS) (uh HK) (uh HKA) (uh HO)
  have hf2:=hB2.setP (uh HBK) 4 (.slice va (s.nodes.length+1) vc)
  have hc2:=r_cell4 (r_set4 (uh HB1) (.slice va (s.nodes.length+1) vc))
  have HQ:Hid ((s.nodes.length:Int)+1 - 1=(s.nodes.length:Int)):=by show _=_;omega
  clear HB1 HO hB2 hB3 c4' f4'
  generalize w1.setCell ⟨p,4,none⟩ (Value.slice va (s.nodes.length+1) vc)=w2 at *
  obtain⟨c4',f4'⟩:=hc2
  have hz:0≤(s.nodes.length:Int)∧(s.nodes.length:Int)≤1000000:=by omega
  go_wp2
  go_ret
  exact⟨_,rfl,rfl,hst2,hf2,uh HCAP⟩
set_option maxHeartbeats 1000000 in
theorem rput_bad {p X T tv c q N A w}(h:RBad p X T tv c q N A w) (hN:N≤2000000) (k n q':Int) (x:ByteArray) (ka:Option Addr) (kn kc:Nat) :
  Calls Tryz.prog 38 #[.pointer (some ⟨p,0,none⟩),.agg #[.int .i64 k,.int .i64 q',.int .i64 n,.string x,.slice ka kn kc]] w (WOut p X T tv w.heap.size c q (N+1) A w BNat):=by
 obtain⟨d,h⟩:=h
 have hp:=h.lt
 obtain⟨v,m,xs,hblk,hown,hm,h0⟩:=h.own
 obtain⟨i0,hi0,hz0,hz1,hz2⟩:=info_parts Tryz.infoNode
 obtain⟨c4,f4⟩:=r_cell4 hblk
 have hb1:m+1≤maxLen:=by unfold maxLen;omega
 have hb2:(m+1) * 64≤140737488355328:=by omega
 have hb3:p+1≤w.heap.size+1+1:=by omega
 have HBK:=hide hblk
 have HH:=hide h
 have H0:=hide h0
 clear h hblk h0
 go_enter Tryz.func38,Tryz.ntmps38
 go_wp2
 go_region_law (refine step_append_room rfl (.tmp 9) (.tmp 11) 31 rfl (p+1) 36 i0 _ 5 64 Tryz.underlying31 hi0 hz0 hz1 hz2 rfl (by decide) v m xs (by simp [Act.eval]) (by exact ((hown.alloc _).alloc _)) ⟨w.heap.size+1,0,none⟩ 1 [.int .i64 k,.int .i64 q',.int .i64 n,.string x,.slice ka kn kc] (by simp [Act.eval]) rfl (by exact new5 (by simp) _ _ _ _ _ _) (ones5 k q' n x ka kn kc) hb1 hb2 (by simpa using hb3) ?_;intro v1 w1 hown1 hgrow1 hv1;replace hv1:_∨∀ k,v1.ownBlock=some k→w.heap.size≤k:=hv1.imp id (fun hh k hk=>by have:=hh k hk;simp at this;omega);have HV1:=hide hv1;obtain⟨hB1,hB2,hB3⟩:=rappended (uh HBK) hown (uh H0).1 _ _ ⟨hgrow1.os,hgrow1.tape,hgrow1.output,hgrow1.size,hgrow1.block⟩;obtain⟨c4',f4'⟩:=r_cell4 hB1;have HO:=hide hown1;have HB1:=hide hB1;clear hown1 hgrow1 hB1 hv1;obtain⟨va,vc,rfl⟩:=own_len (uh HO))
 all_goals
  have hst2:RBad p X T tv c q (N+1) A (w1.setCell ⟨p,4,none⟩ (.slice va (m+1) vc)):=by
   have ht:=own_rfr (uh HH).toks hB2 (by decide) (by decide)
   exact⟨d,(uh HH).few,(uh HH).small,⟨_,m+1,_,r_set4 (uh HB1) _,ownsRow_setCell_below (uh HO) (a:=⟨p,4,none⟩) (by show p<p+1;omega) _,by omega,(by intro h;omega),fun k hk hA=>(uh HV1).elim (fun e=>(uh H0).2 k (by rw [← e];exact hk) hA) fun e=>by have h1:=e k hk;have h2:=(uh HH).sep k hA;omega⟩,(fun k hA=>by rw [size_set];have h2:=(uh HH).sep k hA;omega),own_set_ne ht (own_ne ht (uh HB1) (by decide)) _⟩
  have hf2:=hB2.setP (uh HBK) 4 (.slice va (m+1) vc)
  have hc2:=r_cell4 (r_set4 (uh HB1) (.slice va (m+1) vc))
  clear HB1 HO hB2 hB3 c4' f4'
  generalize w1.setCell ⟨p,4,none⟩ (Value.slice va (m+1) vc)=w2 at *
  obtain⟨c4',f4'⟩:=hc2
  have hz:0≤(m:Int)∧(m:Int)≤2000001:=by omega
  have HQ:Hid ((m:Int)+1 - 1=(m:Int)):=by show _=_;omega
  go_wp2
  go_ret
  first
   | exact⟨_,rfl,⟨m,rfl⟩,hst2,hf2⟩
   | exact⟨_,rfl,⟨m,by rw [uh HQ]⟩,hst2,hf2⟩
end
section
open Go.RowKit
def kwB (x:ByteArray):Bool:=kws.any (fun y=>decide (y=x)) && decide (x≠⟨#[]⟩)
theorem kw_mem {x:ByteArray}(h:kwB x=true):x ∈ kws∧x≠⟨#[]⟩:=by
 unfold kwB at h
 simp only [Bool.and_eq_true,List.any_eq_true,decide_eq_true_eq] at h
 obtain⟨⟨y,hy,rfl⟩,h0⟩:=h
 exact⟨hy,h0⟩
theorem risb {p X T tv r A s w}(h:RSt p X T tv r A s w) (x:ByteArray) (hx:kwB x=true) :
  Calls Tryz.prog 57 #[.pointer (some ⟨p,0,none⟩),.string x] w (OutB (isB X.size s [x]) w):=(ris_ok h x (kw_mem hx).1 (kw_mem hx).2).mono fun _ _ ho=>⟨_,ho.1,rfl,ho.2⟩
theorem rtookb {p X T tv r A s w}(h:RSt p X T tv r A s w) (x:ByteArray) (hx:kwB x=true):Calls Tryz.prog 54 #[.pointer (some ⟨p,0,none⟩),.string x] w (ROutK p X T tv r A s w x):=rtook_ok h x (kw_mem hx).1 (kw_mem hx).2
theorem rtakeb {p X T tv r A s w}(h:RSt p X T tv r A s w) (x:ByteArray) (hx:kwB x=true):Calls Tryz.prog 37 #[.pointer (some ⟨p,0,none⟩),.string x] w (ROut p X T tv r A w.heap.size 3 (phi s) s w (want X.size [x] s) RPos BInt):=rtake_ok h x (kw_mem hx).1 (kw_mem hx).2
theorem renterb {p X T tv r A s w}(h:RSt p X T tv r A s w) (x:ByteArray) (hx:kwB x=true):Calls Tryz.prog 56 #[.pointer (some ⟨p,0,none⟩),.string x] w (ROutO p X T tv r A s w (opens X.size r [x] s)):=renter_ok h x (kw_mem hx).1 (kw_mem hx).2
theorem rleaveb {p X T tv r A s w}(h:RSt p X T tv r A s w) (hr:r+1≤30) (x:ByteArray) (hx:kwB x=true):Calls Tryz.prog 60 #[.pointer (some ⟨p,0,none⟩),.string x] w (ROut p X T tv (r+1) A w.heap.size 3 (phi s) s w (want X.size [x] s) (fun _ v _=>v=.tuple #[]) BUnit):=rleave_ok h hr x (kw_mem hx).1 (kw_mem hx).2
theorem bind_next {β:Type}{res:Res β}{E:Nat}{f:Tok→M β}{s:PS}(h:res=M.bind (next E) f s):res=f (look E s 0) { s with rest:=s.rest.tail }:=h
theorem bt4 {w:World}{k:Nat}{a b c d:Value}{t:TypeId}(h:BoxAt w k [a,b,c,d] t):w.cell? ⟨k,0,none⟩=some a∧w.cell? ⟨k,1,none⟩=some b∧w.cell? ⟨k,2,none⟩=some c∧w.cell? ⟨k,3,none⟩=some d∧k<w.heap.size:=by
 refine⟨?_,?_,?_,?_,h.lt⟩
 all_goals rw [h.cell];rfl
theorem bn5 {w:World}{k:Nat}{a b c d e:Value}{t:TypeId}(h:BoxAt w k [a,b,c,d,e] t):w.cell? ⟨k,0,none⟩=some a∧w.cell? ⟨k,1,none⟩=some b∧w.cell? ⟨k,2,none⟩=some c∧w.cell? ⟨k,3,none⟩=some d∧w.cell? ⟨k,4,none⟩=some e∧w.frozen? ⟨k,0,none⟩=false∧w.frozen? ⟨k,1,none⟩=false∧w.frozen? ⟨k,2,none⟩=false∧w.frozen? ⟨k,3,none⟩=false∧w.frozen? ⟨k,4,none⟩=false∧k<w.heap.size:=by
 refine⟨?_,?_,?_,?_,?_,h.free 0,h.free 1,h.free 2,h.free 3,h.free 4,h.lt⟩
 all_goals rw [h.cell];rfl
theorem BoxAt.tk {w w1:World}{p k:Nat}{c:List Value}(h:BoxAt w k c 66) (hf:RFr p w.heap.size w w1):BoxAt w1 k c 66:=h.fr hf h.lt (by decide) (fun e=>absurd e (by decide))
theorem BoxAt.nd {w w1:World}{p k:Nat}{a b c d e:Value}(h:BoxAt w k [a,b,c,d,e] 36) (hf:RFr p w.heap.size w w1):BoxAt w1 k [a,b,c,d,e] 36:=h.fr hf h.lt (by decide) (fun _=>rfl)
def ROutP (p:Nat) (X:ByteArray) (T:List Tok) (tv:Value) (r:Nat) (A:Nat→Prop) (s:PS) (w:World) (n:Nd) (e:Ending) (w':World):Prop :=
 ∃ (k:Nat) (s':PS),put n s=.ok k s'∧e=.returned (.int .i64 (k:Int))∧RSt p X T tv r A s' w'∧RFr p w.heap.size w w'∧phi s'=phi s+1
theorem ROutP.from {p X T tv r A s w n e w'}{o:Obj}(hp:p<w.heap.size) (h:ROutP p X T tv r A s (w.alloc o) n e w'):ROutP p X T tv r A s w n e w':=by
 obtain⟨k,s',h1,h2,h3,h4,h5⟩:=h
 exact⟨k,s',h1,h2,h3,(RFr.of (blA w o) hp).step h4,h5⟩
theorem rputK {p X T tv r A s w}(h:RSt p X T tv r A s w) (hc:phi s+1≤900000) {k n q:Int}{x:ByteArray}{kv:Value}{ks:List Nat}(hk:Ints w (p+1) kv ks) (hkA:∀ k,kv.ownBlock=some k→¬ A k) :
  Calls Tryz.prog 38 #[.pointer (some ⟨p,0,none⟩),.agg #[.int .i64 k,.int .i64 q,.int .i64 n,.string x,kv]] w (ROutP p X T tv r A s w ⟨k,q,n,x,ks⟩) :=
 (rput_ok h hc k n q x kv ks hk hkA).mono fun _ _ ⟨s',h1,h2,h3,h4,h5⟩=>⟨_,s',h1,h2,h3,h4,h5⟩
set_option maxHeartbeats 1000000 in
theorem rwithK {p X T tv r A s w}(h:RSt p X T tv r A s w) (hc:phi s+1≤900000) {k q:Int}{kv:Value}{ks:List Nat}(hk:Ints w (p+1) kv ks) (hkA:∀ k,kv.ownBlock=some k→¬ A k) :
  Calls Tryz.prog 113 #[.pointer (some ⟨p,0,none⟩),.int .i64 k,.int .i64 q,kv] w (ROutP p X T tv r A s w ⟨k,q,0,⟨#[]⟩,ks⟩):=by
 have HP:=hide (rputK h hc (k:=k) (q:=q) (n:=0) (x:=⟨#[]⟩) hk hkA)
 obtain⟨ka,kn,kc,rfl⟩:=own_form hk
 clear h hk hkA
 go_enter Tryz.func113,Tryz.ntmps113
 go_wp2_with (go_at_call 38;refine (uh HP).mono ?_;rintro e w1 ⟨k,s1,hq,rfl,hst,hf1,hd⟩)
 go_returns
 exact⟨k,s1,hq,rfl,hst,hf1,hd⟩
theorem rwith_bad {p X T tv c q N A w}(h:RBad p X T tv c q N A w) (hN:N≤2000000) (k q':Int) (ka:Option Addr) (kn kc:Nat) :
  Calls Tryz.prog 113 #[.pointer (some ⟨p,0,none⟩),.int .i64 k,.int .i64 q',.slice ka kn kc] w (WOut p X T tv w.heap.size c q (N+1) A w BNat):=by
 have HP:=hide (rput_bad h hN k 0 q' ⟨#[]⟩ ka kn kc)
 clear h
 go_enter Tryz.func113,Tryz.ntmps113
 go_wp2_with (go_at_call 38;refine (uh HP).mono ?_;rintro e w1 ⟨v,rfl,⟨kb,rfl⟩,hbd,hf1⟩)
 go_returns
 exact⟨_,rfl,⟨kb,rfl⟩,hbd,hf1⟩
section
variable {p:Nat}{X:ByteArray}{T:List Tok}{tv:Value}{r:Nat}{A:Nat→Prop}{s:PS}{w:World}
theorem fresh_not {o:Obj}{n c:Nat}(h:RSt p X T tv r A s w):∀ k,(Value.slice (some ⟨w.heap.size,0,none⟩) n c).ownBlock=some k→¬ A k:=fun k hk hA=>by simp [Value.ownBlock] at hk;have:=h.sep k hA;omega
theorem rput0 (h:RSt p X T tv r A s w) (hc:phi s+1≤900000) {k n q:Int}{x:ByteArray} :
  Calls Tryz.prog 38 #[.pointer (some ⟨p,0,none⟩),.agg #[.int .i64 k,.int .i64 q,.int .i64 n,.string x,.slice none 0 0]] w (ROutP p X T tv r A s w ⟨k,q,n,x,[]⟩) :=
 rputK h hc (World.ownsRow_nil _ _ _ _) (by intro k hk;cases hk)
theorem rput1 (h:RSt p X T tv r A s w) (hc:phi s+1≤900000) {m:Nat}(hm:m=w.heap.size) {k n q:Int}{x:ByteArray}{a:Nat} :
  Calls Tryz.prog 38 #[.pointer (some ⟨p,0,none⟩),.agg #[.int .i64 k,.int .i64 q,.int .i64 n,.string x,.slice (some ⟨m,0,none⟩) 1 1]] (w.alloc (.cells #[.int .i64 (a:Int)] 3)) (ROutP p X T tv r A s w ⟨k,q,n,x,[a]⟩):=by
 subst hm
 exact (rputK (h.alloc _) hc (ints_new h.lt [a] (by simp)) (fresh_not (o:=.cells #[] 0 (0,0)) h)).mono fun _ _ ho=>ho.from h.lt
theorem rput2 (h:RSt p X T tv r A s w) (hc:phi s+1≤900000) {m:Nat}(hm:m=w.heap.size) {k n q:Int}{x:ByteArray}{a b:Nat} :
  Calls Tryz.prog 38 #[.pointer (some ⟨p,0,none⟩),.agg #[.int .i64 k,.int .i64 q,.int .i64 n,.string x,.slice (some ⟨m,0,none⟩) 2 2]] (w.alloc (.cells #[.int .i64 (a:Int),.int .i64 (b:Int)] 3)) (ROutP p X T tv r A s w ⟨k,q,n,x,[a,b]⟩):=by
 subst hm
 exact (rputK (h.alloc _) hc (ints_new h.lt [a,b] (by simp)) (fresh_not (o:=.cells #[] 0 (0,0)) h)).mono fun _ _ ho=>ho.from h.lt
theorem rwith0 (h:RSt p X T tv r A s w) (hc:phi s+1≤900000) {k q:Int} :
  Calls Tryz.prog 113 #[.pointer (some ⟨p,0,none⟩),.int .i64 k,.int .i64 q,.slice none 0 0] w (ROutP p X T tv r A s w ⟨k,q,0,⟨#[]⟩,[]⟩) :=
 rwithK h hc (World.ownsRow_nil _ _ _ _) (by intro k hk;cases hk)
theorem rwith1 (h:RSt p X T tv r A s w) (hc:phi s+1≤900000) {m:Nat}(hm:m=w.heap.size) {k q:Int}{a:Nat} :
  Calls Tryz.prog 113 #[.pointer (some ⟨p,0,none⟩),.int .i64 k,.int .i64 q,.slice (some ⟨m,0,none⟩) 1 1] (w.alloc (.cells #[.int .i64 (a:Int)] 3)) (ROutP p X T tv r A s w ⟨k,q,0,⟨#[]⟩,[a]⟩):=by
 subst hm
 exact (rwithK (h.alloc _) hc (ints_new h.lt [a] (by simp)) (fresh_not (o:=.cells #[] 0 (0,0)) h)).mono fun _ _ ho=>ho.from h.lt
theorem rwith2 (h:RSt p X T tv r A s w) (hc:phi s+1≤900000) {m:Nat}(hm:m=w.heap.size) {k q:Int}{a b:Nat} :
  Calls Tryz.prog 113 #[.pointer (some ⟨p,0,none⟩),.int .i64 k,.int .i64 q,.slice (some ⟨m,0,none⟩) 2 2] (w.alloc (.cells #[.int .i64 (a:Int),.int .i64 (b:Int)] 3)) (ROutP p X T tv r A s w ⟨k,q,0,⟨#[]⟩,[a,b]⟩):=by
 subst hm
 exact (rwithK (h.alloc _) hc (ints_new h.lt [a,b] (by simp)) (fresh_not (o:=.cells #[] 0 (0,0)) h)).mono fun _ _ ho=>ho.from h.lt
end
def beginsT (E:Nat) (s:PS):Bool:=isB E s [⟨#[105,110,116]⟩,⟨#[98,111,111,108]⟩,⟨#[99,104,97,110]⟩,⟨#[102,117,110,99]⟩,⟨#[42]⟩] || decide ((look E s 0).kind=1)
def tyL:List (List UInt8):=[[105,110,116],[98,111,111,108],[99,104,97,110],[102,117,110,99],[42]]
theorem has_isB (E:Nat) (s:PS):hasB tyL (look E s 0).text=isB E s [⟨#[105,110,116]⟩,⟨#[98,111,111,108]⟩,⟨#[99,104,97,110]⟩,⟨#[102,117,110,99]⟩,⟨#[42]⟩]:=by
 unfold hasB isB tyL
 rw [Bool.eq_iff_iff]
 simp only [List.contains_iff_mem,List.any_eq_true,decide_eq_true_eq,List.mem_cons,List.not_mem_nil,or_false,exists_eq_or_imp,exists_eq_left]
 simp only [ByteArray.toList_eq]
 generalize (look E s 0).text=x
 rcases x with⟨⟨l⟩⟩
 simp
set_option maxHeartbeats 1000000 in
theorem rbegins_ok {p X T tv r A s w}(h:RSt p X T tv r A s w) :
  Calls Tryz.prog 87 #[.pointer (some ⟨p,0,none⟩)] w (OutB (beginsT X.size s) w):=by
 have HL:=hide (rnow_ok h)
 have HB:Hid (beginsT X.size s=(hasB tyL (look X.size s 0).text || decide ((look X.size s 0).kind=1))):=by show _=_;rw [has_isB];rfl
 clear h
 generalize beginsT X.size s=bb at *
 generalize look X.size s 0=t at *
 generalize hy:hasB tyL t.text=y at *
 have HY:=hide hy
 clear hy
 go_enter Tryz.func87,Tryz.ntmps87
 go_wp2_with (first
  | (go_at_call 35;refine (uh HL).mono ?_;rintro e w1 ⟨rfl,hb1⟩;have hsz:=hb1.size)
  | (go_at_call 34;refine (has_any (w1.heap.size+1) tyL t.text _ (by first | exact heap_alloc2_new w1 _ _ | (unfold Strs;simp [tyL];done)) (by decide)).mono ?_;rintro e w2 ⟨rfl,rfl⟩;rw [uh HY];cases y))
 all_goals
  go_returns
  refine⟨_,rfl,?_,((hb1.alloc hb1.size _).alloc (by simp;omega) _)⟩
  rw [uh HB]
  first
   | (simp_all;done)
   | (simp_all;rw [Bool.eq_iff_iff];simp)
theorem rbegins_bad {p X T tv c q N A w}(h:RBad p X T tv c q N A w) :
  Calls Tryz.prog 87 #[.pointer (some ⟨p,0,none⟩)] w fun e w'=>e=.returned (.bool false)∧Below w.heap.size w w':=by
 have HL:=hide (rnow_bad h)
 have hy:hasB tyL ⟨#[]⟩=false:=by unfold hasB tyL;rw [ByteArray.toList_eq];rfl
 clear h
 go_enter Tryz.func87,Tryz.ntmps87
 go_wp2_with (first
  | (go_at_call 35;refine (uh HL).mono ?_;rintro e w1 ⟨rfl,hb1⟩;have hsz:=hb1.size)
  | (go_at_call 34;refine (has_any (w1.heap.size+1) tyL ⟨#[]⟩ _ (by first | exact heap_alloc2_new w1 _ _ | (unfold Strs;simp [tyL];done)) (by decide)).mono ?_;rintro e w2 ⟨rfl,rfl⟩;rw [hy]))
 all_goals
  go_returns
  exact⟨rfl,((hb1.alloc hb1.size _).alloc (by simp;omega) _)⟩
end
section
open Go.RowKit
theorem RSt.unlist {p X T tv r A s w}{v:Value}(h:RSt p X T tv r (Au A v) s w):RSt p X T tv r A s w:=h.weak fun _ hk=>Or.inl hk
theorem RSt.empty {p X T tv r A s w}(h:RSt p X T tv r A s w):RSt p X T tv r (Au A (.slice none 0 0)) s w:=h.weak fun _ hk=>hk.elim id fun he=>by cases he
theorem RSt.iapp {p X T tv r A s w}{B:Nat}{v v1:Value}{ks ks1:List Nat}{w4:World}{o:Obj}(h:RSt p X T tv r (Au A v) s w) (hI:Ints w B v ks) (hg:(w.alloc o).grownBy w4 v.ownBlock) (hv:v1.ownBlock=v.ownBlock∨∀ k,v1.ownBlock=some k→w.heap.size≤k) (hI1:Ints w4 B v1 ks1) :
  RSt p X T tv r (Au A v1) s w4:=by
 obtain⟨u,kvs,hblk,hown,hl,hk⟩:=h.own
 have hsz:w.heap.size≤w4.heap.size:=by have:=hg.size;rw [szA] at this;omega
 have hkeep:∀ (k:Nat) (ob:Obj),w.heap[k]? = some ob→v.ownBlock≠some k→w4.heap[k]? = some ob:=by
  intro k ob hob hne
  have hlt:=(Array.getElem?_eq_some_iff.1 hob).1
  rw [hg.block k (by rw [szA];omega) (Ne.symm hne),Below.heap_alloc _ _ _ hlt];exact hob
 have hrow:∀ {b e z:Nat}{u:Value}{n:Nat}{xs:List Value},w.ownsRow b e z u n xs→(∀ k,u.ownBlock=some k→v.ownBlock≠some k)→w4.ownsRow b e z u n xs:=by
  intro b e z u n xs hr hne
  refine⟨hr.1,?_⟩
  rcases hr.2 with h2 | ⟨g,cap,cur,hvv,hgg,hh,rr⟩
  ·exact Or.inl h2
  ·exact Or.inr ⟨g,cap,cur,hvv,hgg,hkeep g _ hh (hne g (by rw [hvv];rfl)),rr⟩
 have hty:∀ {b e z:Nat}{u:Value}{n:Nat}{xs:List Value},w.ownsRow b e z u n xs→e≠3→∀ k,u.ownBlock=some k→v.ownBlock≠some k:=by
  intro b e z u n xs hr hne k hk hvk
  obtain⟨c1,h1⟩:=own_type hr hk
  obtain⟨c2,h2⟩:=own_type hI hvk
  rw [h1] at h2
  simp at h2
  exact hne h2.2
 have hpv:v.ownBlock≠some p:=by
  intro hvp
  obtain⟨c2,h2⟩:=own_type hI hvp
  rw [hblk] at h2
  simp at h2
 refine⟨h.room,h.suffix,h.few,h.small,h.good,h.cap,?_,⟨u,kvs,hkeep p _ hblk hpv,hrow hown (hty hown (by decide)),⟨hl.1,hl.2.1,fun k hkk hAk=>?_⟩,fun i n kv hi hj=>?_⟩,hrow h.toks (hty h.toks (by decide))⟩
 ·intro k hAk
  rcases hAk with hA | hA
  ·exact Nat.lt_of_lt_of_le (h.sep k (Or.inl hA)) hsz
  ·exact hI1.lt k hA
 ·rcases hAk with hA | hA
  ·exact hl.2.2 k hkk (Or.inl hA)
  ·rcases hv with hv | hv
   ·exact hl.2.2 k hkk (Or.inr (by rw [← hv];exact hA))
   ·have h1:=hv k hA
    have h2:=(hown.lt k hkk).2
    omega
 ·obtain⟨q1,q2⟩:=hk i n kv hi hj
  refine⟨hrow q1 fun k hkk hvk=>q2 k hkk (Or.inr hvk),fun k hkk hAk=>?_⟩
  rcases hAk with hA | hA
  ·exact q2 k hkk (Or.inl hA)
  ·rcases hv with hv | hv
   ·exact q2 k hkk (Or.inr (by rw [← hv];exact hA))
   ·have h1:=hv k hA
    have h2:=q1.lt k hkk
    omega
theorem RBad.iapp {p X T tv c q N A w}{B:Nat}{v:Value}{ks:List Nat}{w4:World}{o:Obj}(h:RBad p X T tv c q N A w) (hI:Ints w B v ks) (hg:(w.alloc o).grownBy w4 v.ownBlock):RBad p X T tv c q N A w4:=by
 obtain⟨d,h⟩:=h
 obtain⟨u,n,xs,hblk,hown,hn,h0⟩:=h.own
 have hkeep:∀ (k:Nat) (ob:Obj),w.heap[k]? = some ob→v.ownBlock≠some k→w4.heap[k]? = some ob:=by
  intro k ob hob hne
  have hlt:=(Array.getElem?_eq_some_iff.1 hob).1
  rw [hg.block k (by rw [szA];omega) (Ne.symm hne),Below.heap_alloc _ _ _ hlt];exact hob
 have hrow:∀ {b e z:Nat}{u:Value}{n:Nat}{xs:List Value},w.ownsRow b e z u n xs→e≠3→w4.ownsRow b e z u n xs:=by
  intro b e z u n xs hr hne
  refine⟨hr.1,?_⟩
  rcases hr.2 with h2 | ⟨g,cap,cur,hvv,hgg,hh,rr⟩
  ·exact Or.inl h2
  ·refine Or.inr ⟨g,cap,cur,hvv,hgg,hkeep g _ hh fun hvk=>?_,rr⟩
   obtain⟨c2,h2⟩:=own_type hI hvk
   rw [hh] at h2
   simp at h2
   exact hne h2.2
 refine⟨d,h.few,h.small,⟨u,n,xs,hkeep p _ hblk fun hvp=>?_,hrow hown (by decide),hn,h0⟩,fun k hA=>by have h1:=h.sep k hA;have h2:=hg.size;rw [szA] at h2;omega,hrow h.toks (by decide)⟩
 obtain⟨c2,h2⟩:=own_type hI hvp
 rw [hblk] at h2
 simp at h2
theorem RFr.iapp {p B:Nat}{w0 w w4:World}{v:Value}{ks:List Nat}{o:Obj}(hf:RFr p B w0 w) (hI:Ints w B v ks) (hpB:p<B) (hg:(w.alloc o).grownBy w4 v.ownBlock):RFr p B w0 w4:=by
 have hsz:=hg.size
 rw [szA] at hsz
 have hle:=hf.le
 have hs:=hf.size
 have hb:∀ k,v.ownBlock=some k→B≤k:=fun k hk=>(World.ownsRow.lt hI k hk).1
 refine⟨hf.le,hf.lp,(hf.below.alloc (by have:=hf.lp;omega) o).grown hg (by rw [szA];have:=hf.lp;omega) (fun k hk=>by have:=hb k hk;omega),fun k ob hk hob hq=>?_⟩
 rw [hg.block k (by rw [szA];omega) (fun he=>by have:=hb k he.symm;omega),Below.heap_alloc _ _ _ (by omega)]
 exact hf.keep k ob hk hob hq
theorem RBad.weak {p X T tv c q N w}{A A':Nat→Prop}(h:RBad p X T tv c q N A' w) (hA:∀ k,A k→A' k):RBad p X T tv c q N A w:=by
 obtain⟨d,h⟩:=h
 obtain⟨v,n,xs,hblk,hown,hn,h0⟩:=h.own
 exact⟨d,h.few,h.small,⟨v,n,xs,hblk,hown,hn,h0.1,fun k hk hAk=>h0.2 k hk (hA k hAk)⟩,fun k hk=>h.sep k (hA k hk),h.toks⟩
theorem RBad.unlist {p X T tv c q N A w}{v:Value}(h:RBad p X T tv c q N (Au A v) w):RBad p X T tv c q N A w:=h.weak fun _ hk=>Or.inl hk
theorem RBad.unbox {p X T tv c q N A w}{g:Nat}(h:RBad p X T tv c q N (Ab A g) w):RBad p X T tv c q N A w:=h.weak fun _ hk=>Or.inl hk
theorem RBad.box {p X T tv c q N A w}(h:RBad p X T tv c q N A w) (o:Obj):RBad p X T tv c q N (Ab A w.heap.size) (w.alloc o):=by
 obtain⟨d,h1⟩:=h.alloc o
 obtain⟨d2,h⟩:=h
 obtain⟨v,n,xs,hblk,hown,hn,h0⟩:=h.own
 have hlt:=h.lt
 obtain⟨v1,n1,xs1,hblk1,_⟩:=h1.own
 refine⟨d2,h.few,h.small,⟨v,n,xs,?_,hown.alloc _,hn,h0.1,fun k hk hAk=>?_⟩,?_,h1.toks⟩
 ·rw [Below.heap_alloc _ _ _ hlt];exact hblk
 ·rcases hAk with hA | hA
  ·exact h0.2 k hk hA
  ·have:=(hown.lt k hk).2
   omega
 ·intro k hAk
  rcases hAk with hA | hA
  ·exact h1.sep k hA
  ·rw [szA];omega
theorem RBad.setApart {p X T tv c q N A w}(h:RBad p X T tv c q N A w) {a:Addr}{cc:Array Value}{f:Nat × Nat}(ha:w.heap[a.block]? = some (.cells cc 36 f)) (hA:A a.block) (u:Value):RBad p X T tv c q N A (w.setCell a u):=by
 obtain⟨d,h⟩:=h
 obtain⟨v,n,xs,hblk,hown,hn,h0⟩:=h.own
 refine⟨d,h.few,h.small,⟨v,n,xs,?_,own_set_ne hown (fun k hkk he=>h0.2 k hkk (by rw [he];exact hA)) u,hn,h0⟩,by rw [size_set];exact h.sep,own_set_ne h.toks (own_ne h.toks ha (by decide)) u⟩
 rw [heap_set_other];exact hblk
 intro he
 rw [← he,hblk] at ha
 simp at ha
def ROutL (p:Nat) (X:ByteArray) (T:List Tok) (tv:Value) (r:Nat) (A:Nat→Prop) (B d N L:Nat) (s:PS) (w:World) (res:Res (List Nat)) (e:Ending) (w':World):Prop :=
 (∃ ks s' v,res=.ok ks s'∧e=.returned v∧Ints w' B v ks∧RSt p X T tv r (Au A v) s' w'∧RFr p B w w'∧phi s'+d≤phi s∧ks.length≤L) ∨
 (∃ c q ks v,res=.bad c q∧e=.returned v∧Ints w' B v ks∧RBad p X T tv c q N A w'∧RFr p B w w'∧ks.length≤L)
def RReads (p:Nat) (X:ByteArray) (T:List Tok) (tv:Value) (r:Nat) (A:Nat→Prop) (d K F:Nat) (args:Array Value) (m:M Nat):Prop:=∀ s w,RSt p X T tv r A s w→Calls Tryz.prog F args w (ROut p X T tv r A w.heap.size d (phi s+100 * r+K) s w (m s) RNat BNat)
set_option maxHeartbeats 2000000 in
theorem rpointer_ok {p X T tv r A s w}(h:RSt p X T tv r A s w) :
  Calls Tryz.prog 61 #[.pointer (some ⟨p,0,none⟩)] w (ROut p X T tv r A w.heap.size 2 (phi s+1) s w (pointer X.size s) RNat BNat):=by
 have hp:=h.lt
 have hroom:=h.room
 have hcap:=h.cap
 obtain⟨res,hres⟩:∃ res,res=pointer X.size s:=⟨_,rfl⟩
 rw [← hres]
 unfold pointer at hres
 have HM:=hide hres
 have hf:=RFr.refl (p:=p) (Nat.le_refl w.heap.size) hp
 have hst:=h
 clear h hres
 go_enter Tryz.func61,Tryz.ntmps61
 go_wp2_with (first
  | (go_at_call 37;refine (rtakeb hst _ (by decide)).mono ?_;intro e w1 ho;clear hst;rcases ho with⟨a,s1,v,hq,rfl,hR,hst,hf1,hd⟩ | ⟨c,q,v,hq,rfl,hR,hbd,hf1⟩;((first | (replace HM:=hide (bind_ok (uh HM) hq)) | (replace HM:=hide ((uh HM).trans hq)));replace hf:=hf.step hf1;unfold RPos at hR;subst hR;clear hf1 hq);rotate_left;((first | (replace HM:=hide (bind_bad (uh HM) hq)) | (replace HM:=hide ((uh HM).trans hq)));replace hf:=hf.step hf1;obtain⟨kb,rfl⟩:=hR;clear hf1 hq);rotate_left)
          | (go_at_call 37;refine (rtake_bad hbd _).mono ?_;clear hbd;rintro e w1 ⟨v,rfl,hR,hbd,hf1⟩;replace hf:=hf.step hf1;obtain⟨kb,rfl⟩:=hR;clear hf1)
  | (go_at_call 55;refine (rname_ok hst).mono ?_;intro e w1 ho;clear hst;rcases ho with⟨a,s1,v,hq,rfl,hR,hst,hf1,hd⟩ | ⟨c,q,v,hq,rfl,hR,hbd,hf1⟩;((first | (replace HM:=hide (bind_ok (uh HM) hq)) | (replace HM:=hide ((uh HM).trans hq)));replace hf:=hf.step hf1;unfold RStr at hR;subst hR;clear hf1 hq);rotate_left;((first | (replace HM:=hide (bind_bad (uh HM) hq)) | (replace HM:=hide ((uh HM).trans hq)));replace hf:=hf.step hf1;obtain⟨kb,rfl⟩:=hR;clear hf1 hq);rotate_left)
          | (go_at_call 55;refine (rname_bad hbd).mono ?_;clear hbd;rintro e w1 ⟨v,rfl,hR,hbd,hf1⟩;replace hf:=hf.step hf1;obtain⟨kb,rfl⟩:=hR;clear hf1)
  | (go_at_call 38;refine (rput0 hst (by omega)).mono ?_;intro e w1 ho;clear hst;obtain⟨k,s1,hq,rfl,hst,hf1,hd⟩:=ho;(first | (replace HM:=hide (bind_ok (uh HM) hq)) | (replace HM:=hide ((uh HM).trans hq)));replace hf:=hf.step hf1;clear hf1 hq)
          | (go_at_call 38;have hlt5:=hbd.lt;refine (rput_bad hbd (by omega) _ _ _ _ _ _ _).mono ?_;clear hbd;rintro e w1 ⟨v,rfl,hR,hbd,hf1⟩; replace hf:=hf.step hf1;obtain⟨kb,rfl⟩:=hR;clear hf1 hlt5))
 all_goals
  go_returns
  first
   | exact Or.inl ⟨_,_,_,uh HM,rfl,rfl,hst,hf,by omega⟩
   | exact Or.inr ⟨_,_,_,uh HM,rfl,⟨_,rfl⟩,hbd.more (by omega),hf⟩
end
end Go.Proofs.YtdemnolanlfblaaGreatDoor
