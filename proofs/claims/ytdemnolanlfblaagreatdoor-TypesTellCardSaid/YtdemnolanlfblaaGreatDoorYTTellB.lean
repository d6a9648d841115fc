import Derived.Test.YtdemnolanlfblaaGreatDoorYTAddB
import Derived.Test.YtdemnolanlfblaaGreatDoorYTTell
set_option linter.all false
namespace Go.Proofs.YtdemnolanlfblaaGreatDoor
section
open Go.RowKit
theorem BoxAt.tfr {w w':World}{k b:Nat}{c:List Value}{t:TypeId}{E:Ent}(h:BoxAt w k c t) (hf:TFr b E w w') (hb:k≠b) (hr:∀ i,i<3→(E.row i).ownBlock≠some k):BoxAt w' k c t:=by
 unfold BoxAt
 rw [hf.keep k h.lt hb hr]
 exact h
def decl1 (n:Nd) (key:ByteArray):Int:=if n.kind=10∧⟨#[42]⟩++n.text=key then 10 else if n.kind=12∧n.text=key then 12 else 0
structure LFr (B b:Nat) (w w':World):Prop where
 os:w'.os=w.os
 tape:w'.tape=w.tape
 output:w'.output=w.output
 size:w.heap.size≤w'.heap.size
 block:∀ j,j<B→j≠b→w'.heap[j]? = w.heap[j]?
theorem LFr.of {B b:Nat}{w w1 w2:World}{E:Ent}{L:Nat}(hb:Below w.heap.size w w1) (hB:B≤w.heap.size) (hf:TFr b E w1 w2) (hE:EntAt w1 B L E):LFr B b w w2 :=
 ⟨hf.os.trans hb.os,hf.tape.trans hb.tape,hf.output.trans hb.output,Nat.le_trans hb.size hf.size,fun j hj hjb=>(hf.keep j (by have:=hb.size;omega) hjb fun i hi e=>by have:=hE.from i j hi e;omega).trans (hb.block j (by omega))⟩
theorem LFr.new {B b:Nat}{w w1:World}(hb:Below w.heap.size w w1) (hB:B≤w.heap.size):LFr B b w w1:=⟨hb.os,hb.tape,hb.output,hb.size,fun j hj _=>hb.block j (by omega)⟩
theorem toldM_msig {ns:List Nd}{k:Nat}{n:Nd}{ts:List ByteArray}(hO:NsOk ns) (hK:InvK ns) (hn:ns[k]? = some n) (hT:Tx ns (k+1) ts) (h12:n.kind=12):toldM ts (n.kids.map (memOf ns))=n.kids.map (msig ns):=by
 unfold toldM
 rw [List.map_map]
 apply List.map_congr_left
 intro j hj
 have hok:=hO.inv k n hn
 obtain⟨m,hm,hml⟩:=hok.iface (Or.inr h12) j hj
 obtain⟨b,hmb⟩:∃ b,m.kids = [b]:=List.length_eq_one_iff.1 hml
 have hjk:=hok.kids j hj
 have hbj:=(hO.inv j m hm).kids b (by simp [hmb])
 obtain⟨m',hm',hnp⟩:=(hK k n hn).iface h12 j hj
 rw [hm] at hm'
 cases hm'
 have hx:=xt_nopar (hnp b (by simp [hmb]))
 have e1:memOf ns j=(m.text,b):=by simp [memOf,hm,hmb]
 have e2:msig ns j=told ns m.text b:=by unfold msig;rw [hm];simp only [];rw [hmb]
 simp only [Function.comp_apply]
 rw [e1,e2]
 show m.text++⟨#[32]⟩++(ts[b]?).getD ⟨#[]⟩=told ns m.text b
 rw [hT.at' b (by omega),hx]
 rfl
theorem mems_one (w:World) (x:ByteArray) (b:Nat):MemsAt (w.alloc (.cells #[.string x,.int .i64 (b:Int)] 86)) w.heap.size (.slice (some ⟨w.heap.size,0,none⟩) 1 1) [(x,b)]:=by
 refine⟨rfl,Or.inr ⟨w.heap.size,1,_,rfl,Nat.le_refl _,heap_alloc_new w _,by simp,by simp [maxLen],by simp,by simp [mcells]⟩⟩
section
variable {w:World}{B b c X:Nat}{F:ByteArray→Ent}{nv xv kv:Value}{ns:List Nd}{ts:List ByteArray}{k:Nat}{n:Nd}
theorem below2d {w w1:World}{o1 o2:Obj}(hb1:Below ((w.alloc o1).alloc o2).drew.heap.size ((w.alloc o1).alloc o2).drew w1):Below w.heap.size w w1:=by
 refine ((balloc (blA w o1)).drew).trans (hb1.mono ?_)
 show _≤((w.alloc o1).alloc o2).heap.size
 rw [szA,szA]
 omega
theorem le2d (w:World) (o1 o2:Obj):w.heap.size≤((w.alloc o1).alloc o2).drew.heap.size+1:=by
 show _≤((w.alloc o1).alloc o2).heap.size+1
 rw [szA,szA]
 omega
def Learnt (ns:List Nd) (n:Nd) (B b c:Nat) (F:ByteArray→Ent) (w w':World):Prop:=∃ F',TabAt w' B b (c+1) F'∧(∀ key,(F' key).decl=max (F key).decl (decl1 n key)∧(F' key).told=(F key).told++told1 ns key n)∧LFr B b w w'
theorem learnt_of {w1 w2:World}{key:ByteArray}{E:Ent}{d:Int}{l:List ByteArray}(hT:TabAt w2 B b (c+1) (setF F key E)) (hd:E.decl=max (F key).decl d) (ht:E.told=(F key).told++l) (hb:Below w.heap.size w w1) (hB:B≤w.heap.size) (hf:TFr b (F key) w1 w2) (hT1:TabAt w1 B b c F) (hF:∀ x,0≤(F x).decl)
  (h1:decl1 n key=d) (h2:told1 ns key n=l) (h3:∀ x,x≠key→decl1 n x=0∧told1 ns x n = []):Learnt ns n B b c F w w2:=by
 refine⟨_,hT,fun x=>?_,LFr.of hb hB hf (hT1.ents key)⟩
 unfold setF
 by_cases hx:x=key
 ·rw [if_pos hx,hx,h1,h2]
  exact⟨hd,ht⟩
 ·rw [if_neg hx,(h3 x hx).1,(h3 x hx).2,List.append_nil]
  refine⟨?_,rfl⟩
  have:=hF x
  omega
set_option maxHeartbeats 16000000 in
set_option maxRecDepth 100000 in
theorem learn_struct (hT:TabAt w B b c F) (hc:c≤1200) (hN:NodesAt w X nv ns) (hX:TxtsAt w X xv ts) (hXB:∀ g,xv.ownBlock=some g→g<B) (hO:NsOk ns) (hn:ns[k]? = some n) (hTx:Tx ns (k+1) ts) (hts:∀ x ∈ ts,x.size≤10000000) (hI:Ints w X kv n.kids) (hB:B≤w.heap.size) (hF:∀ x,0≤(F x).decl∧(F x).decl≤100) (h10:n.kind=10) :
  Calls Tryz.prog 21 #[.agg #[nv,xv,.map (some b)],.agg #[.int .i64 n.kind,.int .i64 n.pos,.int .i64 n.num,.string n.text,kv]] w fun e w'=>e=.returned (.tuple #[])∧Learnt ns n B b c F w w':=by
 have hkl:k<ns.length:=(List.getElem?_eq_some_iff.1 hn).1
 have hnt:=hO.texts n (List.mem_of_getElem? hn)
 have hnw:=hO.wide n (List.mem_of_getElem? hn)
 have hok:=hO.inv k n hn
 have s1:¬ 9223372036854775807<1+n.text.size:=by omega
 have hks:((⟨#[42]⟩:ByteArray)++n.text).size≤maxLen:=by
  rw [size_add]
  have:(⟨#[42]⟩:ByteArray).size=1:=rfl
  unfold maxLen
  omega
 have hlt:=hT.lt
 have HMEM:=hide fun w1 (hb:Below w.heap.size w w1)=>members_any (xv:=xv) (mv:=.map (some b)) (hN.below hb) (own_below hI hb) hO (hok.iface (Or.inl h10)) hnw
 have HADD:=hide fun w1 (hb:Below w.heap.size w w1) v Y (ms:List (ByteArray × Nat)) (hm:MemsAt w1 Y v ms) (hY:w.heap.size≤Y) (hml:ms.length≤1200)=>add_any (nv:=nv) (key:=(⟨#[42]⟩:ByteArray)++n.text) (sm:=.slice none 0 0) (ms:=[]) (hT.below hb) hc hks (hX.below hb) hXB hm (MemsAt.nil w1 0)
  (fun g hg i hi e=>by have h1:=own_from hm g hg;have h2:=((hT.ents _).from i g hi e).2;omega) (fun g hg=>by cases hg) hml (by simp) (by intro m hm;cases hm) (by rw [hTx.len];exact hO.few) (by intro m hm;cases hm) hts (by have:=hb.size;omega) 10 (by omega) (by omega) (hF _)
 have HT1:=hide fun w1 (hb:Below w.heap.size w w1)=>hT.below hb
 have HROW:=hide fun (i g:Nat) (hi:i<3) (hg:((F ((⟨#[42]⟩:ByteArray)++n.text)).row i).ownBlock=some g)=>((hT.ents _).from i g hi hg).2
 have HF:=hide hF
 have hlm:(n.kids.map (memOf ns)).length≤1200:=by rw [List.length_map];exact hnw
 have h1:Hid (decl1 n ((⟨#[42]⟩:ByteArray)++n.text)=10):=by show _=_;unfold decl1;rw [if_pos ⟨h10,rfl⟩]
 have h2:Hid (∀ x,told1 ns x n = []):=by intro x;unfold told1;rw [if_neg (by omega),if_neg (fun h=>by omega)]
 have h3:Hid (∀ x,x≠(⟨#[42]⟩:ByteArray)++n.text→decl1 n x=0):=by intro x hx;unfold decl1;rw [if_neg (fun h=>hx h.2.symm),if_neg (fun h=>by omega)]
 obtain⟨ka,kc,rfl⟩:=own_len hI
 obtain⟨va,vc,rfl⟩:=hN.len
 obtain⟨xa,xc,rfl⟩:=own_len hX
 rw [h10]
 clear hT hN hX hO hn hTx hts hI hF hok h10
 go_enter Tryz.func21,Tryz.ntmps21
 go_wp2
 go_region_held3 (fun w'=>w'.cell? ⟨w.heap.size,0,none⟩=some (.slice va ns.length vc)∧w'.cell? ⟨w.heap.size,1,none⟩=some (.slice xa ts.length xc)∧w'.cell? ⟨w.heap.size,2,none⟩=some (.map (some b))∧w'.cell? ⟨w.heap.size+1,0,none⟩=some (.int .i64 10)∧w'.cell? ⟨w.heap.size+1,3,none⟩=some (.string n.text)∧w'.cell? ⟨w.heap.size+1,4,none⟩=some (.slice ka n.kids.length kc))
  (go_keep)
  (first
   | (go_at_call 44;refine (uh HMEM _ ((balloc (blA _ _)).drew)).mono ?_;rintro e w1 ⟨v1,rfl,hM1,hb1⟩;obtain⟨ma,mc,hv1⟩:=own_len hM1;rw [List.length_map] at hv1;subst hv1;have B1:=(((BoxAt.made w [.slice va ns.length vc,.slice xa ts.length xc,.map (some b)] 45).new (blA _ _)).new (below_drew _)).new hb1;have B2:=((BoxAt.made (w.alloc _) [.int .i64 10,.int .i64 n.pos,.int .i64 n.num,.string n.text,.slice ka n.kids.length kc] 36).new (below_drew _)).new hb1;rw [szA] at B2;obtain⟨p0,p1,p2,pl⟩:=bt3 B1;obtain⟨n0,n1,n2,n3,n4,nf0,nf1,nf2,nf3,nf4,nl⟩:=bn5 B2)
   | (go_at_call 43;refine (uh HADD _ (below2d hb1) _ _ _ hM1 (le2d _ _ _) hlm).mono ?_;rintro e w2 ⟨rfl,E,hT2,hd2,ht2,hf2⟩;have C1:=B1.tfr hf2 (by omega) (fun i hi e=>by have:=uh HROW i _ hi e;omega);have C2:=B2.tfr hf2 (by omega) (fun i hi e=>by have:=uh HROW i _ hi e;omega);obtain⟨q0,q1,q2,ql⟩:=bt3 C1;obtain⟨m0,m1,m2,m3,m4,mf0,mf1,mf2,mf3,mf4,ml⟩:=bn5 C2))
 all_goals
  go_wp2
  go_returns
  refine⟨rfl,learnt_of hT2 hd2 (l:=[]) (by rw [ht2];rfl) (below2d hb1) hB hf2 (uh HT1 _ (below2d hb1)) (fun x=>(uh HF x).1) (uh h1) (uh h2 _) fun x hx=>⟨uh h3 x hx,uh h2 x⟩⟩
set_option maxHeartbeats 16000000 in
set_option maxRecDepth 100000 in
theorem learn_iface (hT:TabAt w B b c F) (hc:c≤1200) (hN:NodesAt w X nv ns) (hX:TxtsAt w X xv ts) (hXB:∀ g,xv.ownBlock=some g→g<B) (hO:NsOk ns) (hn:ns[k]? = some n) (hTx:Tx ns (k+1) ts) (hts:∀ x ∈ ts,x.size≤10000000) (hI:Ints w X kv n.kids) (hB:B≤w.heap.size) (hF:∀ x,0≤(F x).decl∧(F x).decl≤100) (hK:InvK ns) (h12:n.kind=12) :
  Calls Tryz.prog 21 #[.agg #[nv,xv,.map (some b)],.agg #[.int .i64 n.kind,.int .i64 n.pos,.int .i64 n.num,.string n.text,kv]] w fun e w'=>e=.returned (.tuple #[])∧Learnt ns n B b c F w w':=by
 have hkl:k<ns.length:=(List.getElem?_eq_some_iff.1 hn).1
 have hnt:=hO.texts n (List.mem_of_getElem? hn)
 have hnw:=hO.wide n (List.mem_of_getElem? hn)
 have hok:=hO.inv k n hn
 have hks:n.text.size≤maxLen:=by
  unfold maxLen
  omega
 have hmt:∀ m ∈ n.kids.map (memOf ns),m.2<ts.length∧m.1.size≤100000:=by
  intro m hm
  obtain⟨j,hj,rfl⟩:=List.mem_map.1 hm
  obtain⟨x,hx,hxl⟩:=hok.iface (Or.inr h12) j hj
  obtain⟨y,hy⟩:∃ y,x.kids = [y]:=List.length_eq_one_iff.1 hxl
  have e1:memOf ns j=(x.text,y):=by simp [memOf,hx,hy]
  rw [e1,hTx.len]
  have h1:=(hO.inv j x hx).kids y (by simp [hy])
  have h2:=hok.kids j hj
  exact⟨by show y<_;omega,hO.texts x (List.mem_of_getElem? hx)⟩
 have htm:=toldM_msig hO hK hn hTx h12
 have hlt:=hT.lt
 have HMEM:=hide fun w1 (hb:Below w.heap.size w w1)=>members_any (xv:=xv) (mv:=.map (some b)) (hN.below hb) (own_below hI hb) hO (hok.iface (Or.inr h12)) hnw
 have HADD:=hide fun w1 (hb:Below w.heap.size w w1) v Y (hm:MemsAt w1 Y v (n.kids.map (memOf ns))) (hY:w.heap.size≤Y) (hml:(n.kids.map (memOf ns)).length≤1200)=>add_any (nv:=nv) (key:=n.text) (sf:=.slice none 0 0) (fs:=[]) (hT.below hb) hc hks (hX.below hb) hXB (MemsAt.nil w1 0) hm
  (fun g hg=>by cases hg) (fun g hg i hi e=>by have h1:=own_from hm g hg;have h2:=((hT.ents _).from i g hi e).2;omega) (by simp) hml (fun m hm=>(hmt m hm).1) (by rw [hTx.len];exact hO.few) (fun m hm=>(hmt m hm).2) hts (by have:=hb.size;omega) 12 (by omega) (by omega) (hF _)
 have HT1:=hide fun w1 (hb:Below w.heap.size w w1)=>hT.below hb
 have HROW:=hide fun (i g:Nat) (hi:i<3) (hg:((F n.text).row i).ownBlock=some g)=>((hT.ents _).from i g hi hg).2
 have HF:=hide hF
 have hlm:(n.kids.map (memOf ns)).length≤1200:=by rw [List.length_map];exact hnw
 have h1:Hid (decl1 n n.text=12):=by show _=_;unfold decl1;rw [if_neg (fun h=>by omega),if_pos ⟨h12,rfl⟩]
 have h2:Hid (told1 ns n.text n=n.kids.map (msig ns)):=by show _=_;unfold told1;rw [if_neg (by omega),if_pos ⟨h12,rfl⟩]
 have h3:Hid (∀ x,x≠n.text→decl1 n x=0∧told1 ns x n = []):=by
  intro x hx
  unfold decl1 told1
  rw [if_neg (fun h=>by omega),if_neg (fun h=>hx h.2.symm),if_neg (by omega),if_neg (fun h=>hx h.2.symm)]
  exact⟨rfl,rfl⟩
 have HTM:=hide htm
 obtain⟨ka,kc,rfl⟩:=own_len hI
 obtain⟨va,vc,rfl⟩:=hN.len
 obtain⟨xa,xc,rfl⟩:=own_len hX
 rw [h12]
 clear hT hN hX hO hn hTx hts hI hF hok hK hmt htm h12
 go_enter Tryz.func21,Tryz.ntmps21
 go_wp2
 go_region_held3 (fun w'=>w'.cell? ⟨w.heap.size,0,none⟩=some (.slice va ns.length vc)∧w'.cell? ⟨w.heap.size,1,none⟩=some (.slice xa ts.length xc)∧w'.cell? ⟨w.heap.size,2,none⟩=some (.map (some b))∧w'.cell? ⟨w.heap.size+1,0,none⟩=some (.int .i64 12)∧w'.cell? ⟨w.heap.size+1,3,none⟩=some (.string n.text)∧w'.cell? ⟨w.heap.size+1,4,none⟩=some (.slice ka n.kids.length kc))
  (go_keep)
  (first
   | (go_at_call 44;refine (uh HMEM _ ((balloc (blA _ _)).drew)).mono ?_;rintro e w1 ⟨v1,rfl,hM1,hb1⟩;obtain⟨ma,mc,hv1⟩:=own_len hM1;rw [List.length_map] at hv1;subst hv1;have B1:=(((BoxAt.made w [.slice va ns.length vc,.slice xa ts.length xc,.map (some b)] 45).new (blA _ _)).new (below_drew _)).new hb1;have B2:=((BoxAt.made (w.alloc _) [.int .i64 12,.int .i64 n.pos,.int .i64 n.num,.string n.text,.slice ka n.kids.length kc] 36).new (below_drew _)).new hb1;rw [szA] at B2;obtain⟨p0,p1,p2,pl⟩:=bt3 B1;obtain⟨n0,n1,n2,n3,n4,nf0,nf1,nf2,nf3,nf4,nl⟩:=bn5 B2)
   | (go_at_call 43;refine (uh HADD _ (below2d hb1) _ _ hM1 (le2d _ _ _) hlm).mono ?_;rintro e w2 ⟨rfl,E,hT2,hd2,ht2,hf2⟩;have C1:=B1.tfr hf2 (by omega) (fun i hi e=>by have:=uh HROW i _ hi e;omega);have C2:=B2.tfr hf2 (by omega) (fun i hi e=>by have:=uh HROW i _ hi e;omega);obtain⟨q0,q1,q2,ql⟩:=bt3 C1;obtain⟨m0,m1,m2,m3,m4,mf0,mf1,mf2,mf3,mf4,ml⟩:=bn5 C2))
 all_goals
  go_wp2
  go_returns
  refine⟨rfl,learnt_of hT2 hd2 (l:=n.kids.map (msig ns)) (by rw [ht2,uh HTM]) (below2d hb1) hB hf2 (uh HT1 _ (below2d hb1)) (fun x=>(uh HF x).1) (uh h1) (uh h2) (uh h3)⟩
end
end
section
open Go.RowKit
theorem TFr.cell {w w':World}{b k:Nat}{E:Ent}(hf:TFr b E w w') (hk:k<w.heap.size) (hb:k≠b) (hr:∀ i,i<3→(E.row i).ownBlock≠some k) (j:Nat):w'.cell? ⟨k,j,none⟩=w.cell? ⟨k,j,none⟩:=World.cell?_of_block (hf.keep k hk hb hr)
theorem below_alloc_cell {w:World}{o:Obj}{k j:Nat}{u:Value}(h:w.cell? ⟨k,j,none⟩=some u):(w.alloc o).cell? ⟨k,j,none⟩=some u:=(below_cell (blA w o) (World.block_lt_of_cell? _ _ h) j).trans h
theorem below3d {w w1:World}{o1 o2 o3:Obj}(hb1:Below (((w.alloc o1).alloc o2).alloc o3).drew.heap.size (((w.alloc o1).alloc o2).alloc o3).drew w1):Below w.heap.size w w1:=by
 refine ((balloc (balloc (blA w o1))).drew).trans (hb1.mono ?_)
 show _≤(((w.alloc o1).alloc o2).alloc o3).heap.size
 rw [szA,szA,szA]
 omega
section
variable {w:World}{B b c X:Nat}{F:ByteArray→Ent}{nv xv kv:Value}{ns:List Nd}{ts:List ByteArray}{k:Nat}{n:Nd}
set_option maxHeartbeats 16000000 in
set_option maxRecDepth 100000 in
theorem learn_method (hT:TabAt w B b c F) (hc:c≤1200) (hN:NodesAt w X nv ns) (hX:TxtsAt w X xv ts) (hXB:∀ g,xv.ownBlock=some g→g<B) (hO:NsOk ns) (hn:ns[k]? = some n) (hTx:Tx ns (k+1) ts) (hts:∀ x ∈ ts,x.size≤10000000) (hI:Ints w X kv n.kids) (hB:B≤w.heap.size) (hF:∀ x,0≤(F x).decl∧(F x).decl≤100) (hK:InvK ns) (hkB:∀ g,kv.ownBlock=some g→g<b) (h14:n.kind=14) :
  Calls Tryz.prog 21 #[.agg #[nv,xv,.map (some b)],.agg #[.int .i64 n.kind,.int .i64 n.pos,.int .i64 n.num,.string n.text,kv]] w fun e w'=>e=.returned (.tuple #[])∧Learnt ns n B b c F w w':=by
 have hkl:k<ns.length:=(List.getElem?_eq_some_iff.1 hn).1
 have hnt:=hO.texts n (List.mem_of_getElem? hn)
 have hok:=hO.inv k n hn
 have hl3:=hok.meth h14
 obtain⟨a1,a2,a3,hkids⟩:∃ a b c,n.kids = [a,b,c]:=by
  match hkk:n.kids with
  | [a,b,c]=>exact⟨a,b,c,rfl⟩
  | []=>rw [hkk] at hl3;simp at hl3
  | [_]=>rw [hkk] at hl3;simp at hl3
  | [_,_]=>rw [hkk] at hl3;simp at hl3
  | _ :: _ :: _ :: _ :: _=>rw [hkk] at hl3;simp at hl3
 have ha1:a1<k:=hok.kids a1 (by simp [hkids])
 have ha2:a2<k:=hok.kids a2 (by simp [hkids])
 have hts1:=hO.types a1 (by omega)
 have hks:(tt ns a1).size≤maxLen:=by
  unfold maxLen
  omega
 have hlt:=hT.lt
 have hx2:=xt_nopar ((hK k n hn).meth h14 a2 (by simp [hkids]))
 have HTYP:=hide fun w1 (hb:Below w.heap.size w w1)=>typeOf_any (mv:=.map (some b)) (hN.below hb) (hX.below hb) hO hK (k:=k+1) (j:=a1) (by omega) (by omega) hTx
 have HADD:=hide fun w1 (hb:Below w.heap.size w w1) v Y (hm:MemsAt w1 Y v [(n.text,a2)]) (hY:w.heap.size≤Y)=>add_any (nv:=nv) (key:=tt ns a1) (sf:=.slice none 0 0) (fs:=[]) (hT.below hb) hc hks (hX.below hb) hXB (MemsAt.nil w1 0) hm
  (fun g hg=>by cases hg) (fun g hg i hi e=>by have h1:=own_from hm g hg;have h2:=((hT.ents _).from i g hi e).2;omega) (by simp) (by simp) (fun m hm=>by simp at hm;subst hm;show a2<_;rw [hTx.len];omega) (by rw [hTx.len];exact hO.few) (fun m hm=>by simp at hm;subst hm;exact hnt) hts (by have:=hb.size;omega) 0 (by omega) (by omega) (hF _)
 have HT1:=hide fun w1 (hb:Below w.heap.size w w1)=>hT.below hb
 have HROW:=hide fun (i g:Nat) (hi:i<3) (hg:((F (tt ns a1)).row i).ownBlock=some g)=>((hT.ents _).from i g hi hg).2
 have HF:=hide hF
 have h1:Hid (∀ x,decl1 n x=0):=by intro x;unfold decl1;rw [if_neg (fun h=>by omega),if_neg (fun h=>by omega)]
 have h2:Hid (told1 ns (tt ns a1) n = [told ns n.text a2]):=by show _=_;unfold told1;rw [if_pos h14,hkids];simp
 have h3:Hid (∀ x,x≠tt ns a1→told1 ns x n = []):=by
  intro x hx
  unfold told1
  rw [if_pos h14,hkids]
  simp
  intro h
  exact absurd h.symm hx
 have htm:toldM ts [(n.text,a2)] = [told ns n.text a2]:=by
  unfold toldM told
  rw [List.map_cons,List.map_nil]
  simp only []
  rw [hTx.at' a2 (by omega),hx2]
  rfl
 have HTM:=hide htm
 obtain⟨ka,kc,rfl⟩:=own_len hI
 obtain⟨va,vc,rfl⟩:=hN.len
 obtain⟨xa,xc,rfl⟩:=own_len hX
 obtain⟨kg,hkg,_,hkgl,y0⟩:=hI.at (i:=0) (k:=a1) (by simp [hkids])
 obtain⟨kg',hkg',_,_,y1⟩:=hI.at (i:=1) (k:=a2) (by simp [hkids])
 subst hkg
 simp only [Option.some.injEq,Addr.mk.injEq] at hkg'
 obtain⟨rfl,_,_⟩:=hkg'
 have hkgb:kg<b:=hkB kg rfl
 have HKN:Hid (∀ i,i<3→((F (tt ns a1)).row i).ownBlock≠some kg):=fun i hi e=>by
  have:=((hT.ents _).from i kg hi e).1
  omega
 have y03:∀ o1 o2 o3,(((w.alloc o1).alloc o2).alloc o3).cell? ⟨kg,0,none⟩=some (.int .i64 (a1:Int)):=fun _ _ _=>below_alloc_cell (below_alloc_cell (below_alloc_cell y0))
 have y13:∀ o1 o2 o3,(((w.alloc o1).alloc o2).alloc o3).cell? ⟨kg,1,none⟩=some (.int .i64 (a2:Int)):=fun _ _ _=>below_alloc_cell (below_alloc_cell (below_alloc_cell y1))
 rw [h14,hl3]
 clear hT hN hX hO hn hTx hts hI hF hok hK htm h14 hkids hl3 hx2 hkB
 go_enter Tryz.func21,Tryz.ntmps21
 go_wp2
 go_region_held3 (fun w'=>w'.cell? ⟨w.heap.size,0,none⟩=some (.slice va ns.length vc)∧w'.cell? ⟨w.heap.size,1,none⟩=some (.slice xa ts.length xc)∧w'.cell? ⟨w.heap.size,2,none⟩=some (.map (some b))∧w'.cell? ⟨w.heap.size+1,3,none⟩=some (.string n.text)∧w'.cell? ⟨w.heap.size+1,4,none⟩=some (.slice (some ⟨kg,0,none⟩) 3 kc)∧w'.cell? ⟨kg,0,none⟩=some (.int .i64 (a1:Int))∧w'.cell? ⟨kg,1,none⟩=some (.int .i64 (a2:Int)))
  (go_keep)
  (first
   | (go_at_call 45;refine (uh HTYP _ ((balloc (blA _ _)).drew)).mono ?_;rintro e w1 ⟨rfl,hb1⟩;have B1:=(((BoxAt.made w [.slice va ns.length vc,.slice xa ts.length xc,.map (some b)] 45).new (blA _ _)).new (below_drew _)).new hb1;have B2:=((BoxAt.made (w.alloc _) [.int .i64 14,.int .i64 n.pos,.int .i64 n.num,.string n.text,.slice (some ⟨kg,0,none⟩) 3 kc] 36).new (below_drew _)).new hb1;rw [szA] at B2;obtain⟨p0,p1,p2,pl⟩:=bt3 B1;obtain⟨n0,n1,n2,n3,n4,nf0,nf1,nf2,nf3,nf4,nl⟩:=bn5 B2;have g0:=(below_cell (below2d hb1) hkgl 0).trans y0;have g1:=(below_cell (below2d hb1) hkgl 1).trans y1)
   | (go_at_call 45;refine (uh HTYP _ ((balloc (balloc (blA _ _))).drew)).mono ?_;rintro e w1 ⟨rfl,hb1⟩;have B1:=((((BoxAt.made w [.slice va ns.length vc,.slice xa ts.length xc,.map (some b)] 45).new (blA _ _)).new (blA _ _)).new (below_drew _)).new hb1;have B2:=(((BoxAt.made (w.alloc _) [.int .i64 14,.int .i64 n.pos,.int .i64 n.num,.string n.text,.slice (some ⟨kg,0,none⟩) 3 kc] 36).new (blA _ _)).new (below_drew _)).new hb1;rw [szA] at B2;have hL:=((mems_one ((w.alloc _).alloc _) n.text a2).below (below_drew _)).below hb1;rw [szA,szA] at hL;obtain⟨p0,p1,p2,pl⟩:=bt3 B1;obtain⟨n0,n1,n2,n3,n4,nf0,nf1,nf2,nf3,nf4,nl⟩:=bn5 B2;have g0:=(below_cell (below3d hb1) hkgl 0).trans y0;have g1:=(below_cell (below3d hb1) hkgl 1).trans y1)
   | (go_at_call 43;refine (uh HADD _ (below3d hb1) _ _ hL (by omega)).mono ?_;rintro e w2 ⟨rfl,E,hT2,hd2,ht2,hf2⟩;have C1:=B1.tfr hf2 (by omega) (fun i hi e=>by have:=uh HROW i _ hi e;omega);have C2:=B2.tfr hf2 (by omega) (fun i hi e=>by have:=uh HROW i _ hi e;omega);obtain⟨q0,q1,q2,ql⟩:=bt3 C1;obtain⟨m0,m1,m2,m3,m4,mf0,mf1,mf2,mf3,mf4,ml⟩:=bn5 C2;have gg0:=(hf2.cell (World.block_lt_of_cell? _ _ g0) (by show kg≠b;omega) (uh HKN) 0).trans g0;have gg1:=(hf2.cell (World.block_lt_of_cell? _ _ g0) (by show kg≠b;omega) (uh HKN) 1).trans g1;have HFIN:=hide (learnt_of hT2 hd2 (l:=[told ns n.text a2]) (by rw [ht2,uh HTM]) (below3d hb1) hB hf2 (uh HT1 _ (below3d hb1)) (fun x=>(uh HF x).1) (uh h1 _) (uh h2) fun x hx=>⟨uh h1 x,uh h3 x hx⟩))
   | (go_at_call 43;refine (uh HADD _ (balloc (below2d hb1)) _ _ (mems_one _ n.text a2) (below2d hb1).size).mono ?_;rintro e w2 ⟨rfl,E,hT2,hd2,ht2,hf2⟩;have C1:=(B1.new (blA _ _)).tfr hf2 (by omega) (fun i hi e=>by have:=uh HROW i _ hi e;omega);have C2:=(B2.new (blA _ _)).tfr hf2 (by omega) (fun i hi e=>by have:=uh HROW i _ hi e;omega);obtain⟨q0,q1,q2,ql⟩:=bt3 C1;obtain⟨m0,m1,m2,m3,m4,mf0,mf1,mf2,mf3,mf4,ml⟩:=bn5 C2;have gg0:=(hf2.cell (World.block_lt_of_cell? _ _ (below_alloc_cell g0)) (by show kg≠b;omega) (uh HKN) 0).trans (below_alloc_cell g0);have gg1:=(hf2.cell (World.block_lt_of_cell? _ _ (below_alloc_cell g0)) (by show kg≠b;omega) (uh HKN) 1).trans (below_alloc_cell g1);have HFIN:=hide (learnt_of hT2 hd2 (l:=[told ns n.text a2]) (by rw [ht2,uh HTM]) (balloc (below2d hb1)) hB hf2 (uh HT1 _ (balloc (below2d hb1))) (fun x=>(uh HF x).1) (uh h1 _) (uh h2) fun x hx=>⟨uh h1 x,uh h3 x hx⟩)))
 all_goals
  go_wp2
  go_returns
  exact⟨rfl,uh HFIN⟩
set_option maxHeartbeats 4000000 in
theorem learn_other (hT:TabAt w B b c F) (hI:Ints w X kv n.kids) (hB:B≤w.heap.size) (hF:∀ x,0≤(F x).decl∧(F x).decl≤100) (h10:n.kind≠10) (h12:n.kind≠12) (h14:n.kind≠14) :
  Calls Tryz.prog 21 #[.agg #[nv,xv,.map (some b)],.agg #[.int .i64 n.kind,.int .i64 n.pos,.int .i64 n.num,.string n.text,kv]] w fun e w'=>e=.returned (.tuple #[])∧Learnt ns n B b c F w w':=by
 have HL:=hide fun w1 (hb:Below w.heap.size w w1)=>(⟨F,(hT.below hb).mono (Nat.le_succ c),fun x=>by
  have e1:decl1 n x=0:=by unfold decl1;rw [if_neg (fun h=>h10 h.1),if_neg (fun h=>h12 h.1)]
  have e2:told1 ns x n = []:=by unfold told1;rw [if_neg h14,if_neg (fun h=>h12 h.1)]
  rw [e1,e2,List.append_nil]
  have:=(hF x).1
  exact⟨by omega,rfl⟩,LFr.new hb hB⟩:Learnt ns n B b c F w w1)
 obtain⟨ka,kc,rfl⟩:=own_len hI
 have c1:=ne_b h10
 have c2:=ne_b h12
 have c3:=ne_b h14
 clear hT hI hF
 go_enter Tryz.func21,Tryz.ntmps21
 go_wp2
 go_returns
 exact⟨rfl,uh HL _ (by (repeat (first | exact Below.refl _ _ | with_reducible assumption | (refine bset ?_ (by first | exact Nat.le_refl _ | (simp;done) | (simp;omega))) | refine bdrewN ?_ | refine bdrew ?_ | refine balloc ?_)))⟩
theorem learn_any (hT:TabAt w B b c F) (hc:c≤1200) (hN:NodesAt w X nv ns) (hX:TxtsAt w X xv ts) (hXB:∀ g,xv.ownBlock=some g→g<B) (hO:NsOk ns) (hn:ns[k]? = some n) (hTx:Tx ns (k+1) ts) (hts:∀ x ∈ ts,x.size≤10000000) (hI:Ints w X kv n.kids) (hB:B≤w.heap.size) (hF:∀ x,0≤(F x).decl∧(F x).decl≤100) (hK:InvK ns) (hkB:∀ g,kv.ownBlock=some g→g<b) :
  Calls Tryz.prog 21 #[.agg #[nv,xv,.map (some b)],.agg #[.int .i64 n.kind,.int .i64 n.pos,.int .i64 n.num,.string n.text,kv]] w fun e w'=>e=.returned (.tuple #[])∧Learnt ns n B b c F w w':=by
 by_cases h10:n.kind=10
 ·exact learn_struct hT hc hN hX hXB hO hn hTx hts hI hB hF h10
 by_cases h12:n.kind=12
 ·exact learn_iface hT hc hN hX hXB hO hn hTx hts hI hB hF hK h12
 by_cases h14:n.kind=14
 ·exact learn_method hT hc hN hX hXB hO hn hTx hts hI hB hF hK hkB h14
 exact learn_other hT hI hB hF h10 h12 h14
end
end
section
open Go.RowKit
theorem dl_append (a b:ByteArray):(a++b).data.toList=a.data.toList++b.data.toList:=by simp [ByteArray.data_append]
theorem ba_ext {a b:ByteArray}(h:a.data.toList=b.data.toList):a=b:=by
 cases a;cases b
 simp only [ByteArray.mk.injEq]
 exact Array.toList_inj.1 h
theorem parts_tail (z:Nat→ByteArray):∀ (l:List Nat) (i:Nat) (s:ByteArray),0<i→(partsGo z l i s).data.toList=s.data.toList++Lib.joinTail [44] (l.map fun k=>(z k).data.toList)
 | [],_,s,_=>by simp [partsGo,Lib.joinTail]
 | k :: r,i,s,hi=>by
  unfold partsGo
  rw [parts_tail z r (i+1) _ (by omega),if_neg (by omega),dl_append,dl_append]
  simp [Lib.joinTail]
theorem parts_join (z:Nat→ByteArray) (l:List Nat) (s:ByteArray):(partsGo z l 0 s).data.toList=s.data.toList++Lib.join (l.map fun k=>(z k).data.toList) [44]:=by
 cases l with
 | nil=>simp [partsGo,Lib.join_nil]
 | cons k r =>
  unfold partsGo
  rw [parts_tail z r 1 _ (by omega),if_pos rfl,dl_append,List.map_cons,Lib.join_cons,List.append_assoc]
theorem parts_eq (z:Nat→ByteArray) (l:List Nat) (s:ByteArray):s++⟨(Lib.join (l.map fun k=>(z k).data.toList) [44]).toArray⟩=partsGo z l 0 s:=by
 apply ba_ext
 rw [parts_join,dl_append]
theorem join_small (z:Nat→ByteArray) (l:List Nat) (s:ByteArray):(Lib.join (l.map fun k=>(z k).data.toList) [44]).length≤(partsGo z l 0 s).size:=by
 have h:=congrArg List.length (parts_join z l s)
 rw [List.length_append] at h
 have e:(partsGo z l 0 s).size=(partsGo z l 0 s).data.toList.length:=by rw [Array.length_toList];rfl
 omega
theorem ba_assoc (a b c:ByteArray):a++b++c=a++(b++c):=by
 apply ba_ext
 simp only [dl_append,List.append_assoc]
theorem ztt_map {ns:List Nd}{k:Nat}{l:List Nat}(h:∀ j ∈ l,j<k):l.map (fun j=>(ztt ns k j).data.toList)=l.map fun j=>(tt ns j).data.toList:=by
 apply List.map_congr_left
 intro j hj
 unfold ztt
 rw [if_pos (h j hj)]
theorem join_any {w:World}{B n0 cap:Nat}{a:Option Addr}{xs:List ByteArray}(h:TxtsAt w B (.slice a n0 cap) xs) (m:Nat) (hm:m≤xs.length) (hn:xs.length≤1000000) (hl:(Lib.join ((xs.take m).map (·.data.toList)) [44]).length≤100000000) :
  Calls Tryz.prog 70 #[.slice a m cap,.string ⟨#[44]⟩] w fun e w'=>e=.returned (.string ⟨(Lib.join ((xs.take m).map (·.data.toList)) [44]).toArray⟩)∧Below w.heap.size w w':=by
 have hlen:(xs.take m).length=m:=by rw [List.length_take];omega
 rcases h.2 with⟨h1,h2⟩ | ⟨g,cap',cur,h1,hg,hh,hcap,_⟩
 ·simp only [Value.slice.injEq] at h1
  obtain⟨rfl,rfl,rfl⟩:=h1
  have hx:xs = []:=List.length_eq_zero_iff.1 h2
  subst hx
  obtain rfl:m=0:=by simpa using hm
  refine (Tryz.strings_Join_none none 0 ⟨#[44]⟩ w).mono ?_
  rintro e w' ⟨rfl,rfl⟩
  exact⟨rfl,Below.refl _ _⟩
 ·simp only [Value.slice.injEq] at h1
  obtain⟨rfl,rfl,rfl⟩:=h1
  have hc:∀ (j:Nat) x,(xs.take m)[j]? = some x→w.cell? ⟨g,0+j,none⟩=some (.string x):=by
   intro j x hx
   have hx2:xs[j]? = some x:=by
    rw [List.getElem?_take] at hx
    split at hx
    ·exact hx
    ·cases hx
   obtain⟨g',e,_,_,hcell⟩:=h.at hx2
   simp only [Option.some.injEq,Addr.mk.injEq] at e
   obtain⟨rfl,_,_⟩:=e
   rw [Nat.zero_add]
   exact hcell
  have:=Tryz.strings_Join g 0 cap (xs.take m) ⟨#[44]⟩ w hc (Array.getElem?_eq_some_iff.1 hh).1 (by omega) (by omega) (by exact Nat.le_trans hl (by omega))
  rw [hlen] at this
  exact this
section
variable {w:World}{B X:Nat}{nv xv mv:Value}{ns:List Nd}{ts:List ByteArray}
set_option maxHeartbeats 16000000 in
set_option maxRecDepth 100000 in
theorem tellFunc_any (hN:NodesAt w B nv ns) (hX:TxtsAt w X xv ts) (hO:NsOk ns) (hK:InvK ns) {k:Nat}{n:Nd}(hn:ns[k]? = some n) (hT:Tx ns k ts) (h68:n.kind=6∨n.kind=8) {kv:Value}(hI:Ints w B kv n.kids) :
  Calls Tryz.prog 42 #[.agg #[nv,xv,mv],.agg #[.int .i64 n.kind,.int .i64 n.pos,.int .i64 n.num,.string n.text,kv]] w fun e w'=>e=.returned (.string (tt ns k))∧Below w.heap.size w w':=by
 have hkl:k<ns.length:=(List.getElem?_eq_some_iff.1 hn).1
 obtain⟨ka,kc,rfl⟩:=own_len hI
 have hok:=hO.inv k n hn
 obtain⟨m,hm,hm1,hm2⟩:=hok.sig h68
 have hkn:n.kids.length≤1000000:=by
  have:=hO.wide n (List.mem_of_getElem? hn)
  omega
 rw [hm]
 have HT:Hid (tt ns k=backOf (ztt ns k) (partsGo (ztt ns k) (n.kids.take m) 0 ⟨#[102,117,110,99,40]⟩++⟨#[41]⟩) (n.kids.drop m)):=by
  show _=_
  rw [tt_at hn]
  unfold textOf funcText
  rw [if_neg (by omega),if_neg (by omega),if_neg (by omega),if_neg (by omega),if_neg (by omega),if_neg (by omega),if_pos h68,hm]
  rfl
 obtain⟨P,hP⟩:∃ P,P=partsGo (ztt ns k) (n.kids.take m) 0 ⟨#[102,117,110,99,40]⟩:=⟨_,rfl⟩
 rw [← hP] at HT
 have hts:=hO.types k hkl
 have hPs:P.size≤10000000:=by
  rw [uh HT] at hts
  have h2:(P++⟨#[41]⟩).size≤(backOf (ztt ns k) (P++⟨#[41]⟩) (n.kids.drop m)).size:=by
   cases n.kids.drop m with
   | nil=>exact Nat.le_refl _
   | cons a l =>
    show _≤(P++⟨#[41]⟩++⟨#[32]⟩++ztt ns k a).size
    have e1:=size_add (P++⟨#[41]⟩++⟨#[32]⟩) (ztt ns k a)
    have e2:=size_add (P++⟨#[41]⟩) (⟨#[32]⟩:ByteArray)
    omega
  rw [size_add] at h2
  omega
 have HPE:=hide hP
 have HN:=hide hN
 have HX:=hide hX
 have HO:=hide hO
 have HK:=hide hK
 have HTX:=hide hT
 have HI:=hide hI
 have HKD:=hide hok.kids
 clear hP hN hX hO hK hT hI hok hn h68 hts
 go_enter Tryz.func42,Tryz.ntmps42
 go_wp2
 go_loopg [5,12] n.kids.length (fun kx e5 e12 wr=>∃ (i:Nat),i≤n.kids.length∧kx=n.kids.length - i∧e12=.int .i64 (i:Int)∧Below w.heap.size w wr∧BoxAt wr w.heap.size [nv,xv,mv] 45∧BoxAt wr (w.heap.size+1) [.int .i64 n.kind,.int .i64 n.pos,.int .i64 (m:Int),.string n.text,.slice ka n.kids.length kc] 36∧w.heap.size+2≤wr.heap.size∧TxtsAt wr (w.heap.size+2) e5 ((n.kids.take i).map (tt ns)))
 case atStart =>
  refine⟨0,Nat.zero_le _,rfl,rfl,by (repeat (first | exact Below.refl _ _ | with_reducible assumption | (refine bset ?_ (by first | exact Nat.le_refl _ | (simp;done) | (simp;omega))) | refine bdrewN ?_ | refine bdrew ?_ | refine balloc ?_)),?_,?_,by rw [szA,szA];exact Nat.le_refl _,TxtsAt.nil _ _⟩
  ·exact (BoxAt.made w [nv,xv,mv] _).new (blA _ _)
  ·have:=BoxAt.made (w.alloc (.cells #[nv,xv,mv] 45)) [.int .i64 n.kind,.int .i64 n.pos,.int .i64 (m:Int),.string n.text,.slice ka n.kids.length kc] 36
   rw [szA] at this
   exact this
 case round =>
  obtain⟨i,hi,rfl,rfl,hb,hB1,hB2,hs2,hP⟩:=hrel
  obtain⟨x0,x1,x2,xl⟩:=bt3 hB1
  obtain⟨n0,n1,n2,n3,n4,nf0,nf1,nf2,nf3,nf4,nl⟩:=bn5 hB2
  have hsz:=hb.size
  by_cases hlt:i<n.kids.length
  ·obtain⟨j,hj⟩:∃ j,n.kids[i]? = some j:=⟨_,List.getElem?_eq_getElem hlt⟩
   have hjk:=uh HKD j (List.mem_of_getElem? hj)
   obtain⟨kg,rfl,_,hkgl,q0⟩:=Ints.at (own_below (uh HI) hb) hj
   have hz:(i:Int)<(n.kids.length:Int):=by omega
   have HS:Hid ((n.kids.take (i+1)).map (tt ns)=(n.kids.take i).map (tt ns)++[tt ns j]):=by
    show _=_
    rw [List.take_add_one,hj]
    simp
   have hpl:((n.kids.take i).map (tt ns)).length≤1000000:=by
    rw [List.length_map,List.length_take]
    omega
   clear hj
   go_wp2_with (first
    | (go_at_call 45;refine (typeOf_any (NodesAt.below (uh HN) hb) (TxtsAt.below (uh HX) hb) (uh HO) (uh HK) hjk (Nat.le_of_lt hkl) (uh HTX)).mono ?_;rintro e w1 ⟨rfl,hb1⟩;replace hB1:=hB1.new hb1;replace hB2:=hB2.new hb1;replace hP:=TxtsAt.below hP hb1;replace hb:=hb.trans (hb1.mono hb.size);have hsz1:=hb1.size)
    | (at_builtin;refine wpList_tapp rfl (.tmp 16) (.tmp 20) rfl (w.heap.size+2) _ _ rfl (World.ownsRow.alloc hP _) _ (tt ns j) rfl (by simp [go_sem]) (by omega) (by rw [szA];omega) ?_;intro v5 w5 hP5 hg5 hv5))
   go_roundg (n.kids.length - (i+1))
   case measure=>omega
   case rel =>
    have hfr:=own_from hP
    exact⟨i+1,by omega,rfl,by first | rfl | (simp;done) | (simp;unfold wrap64;omega),below_grown (balloc hb) (by rw [szA];omega) (fun k hk=>by have:=hfr k hk;omega) hg5,(hB1.new (blA _ _)).grown hg5 (fun e=>absurd (hfr _ e) (by omega)),(hB2.new (blA _ _)).grown hg5 (fun e=>absurd (hfr _ e) (by omega)),by have:=hg5.size;rw [szA] at this;omega,by rw [uh HS];exact hP5⟩
  ·have hz:¬ (i:Int)<(n.kids.length:Int):=by omega
   obtain rfl:i=n.kids.length:=by omega
   rw [List.take_length] at hP
   have hpl:(n.kids.map (tt ns)).length=n.kids.length:=List.length_map ..
   obtain⟨pa,pc,rfl⟩:=own_len hP
   rw [hpl]
   have hcap:n.kids.length≤pc:=by
    rcases hP.2 with⟨h1,h2⟩ | ⟨g,cap,cur,h1,_,_,h3,_⟩
    ·omega
    ·simp only [Value.slice.injEq] at h1
     omega
   have hzc:(m:Int)≤(pc:Int):=by omega
   have hbs:¬ 9223372036854775807<5+(P.size - 5):=by omega
   have hJ:Hid ((⟨#[102,117,110,99,40]⟩:ByteArray)++⟨(Lib.join (((n.kids.map (tt ns)).take m).map (·.data.toList)) [44]).toArray⟩=P):=by
    show _=_
    rw [← List.map_take,uh HPE,← parts_eq,List.map_map,ztt_map fun j hj=>uh HKD j (List.mem_of_mem_take hj)]
    rfl
   have hJl:(Lib.join (((n.kids.map (tt ns)).take m).map (·.data.toList)) [44]).length≤P.size:=by
    have:=join_small (ztt ns k) (n.kids.take m) ⟨#[102,117,110,99,40]⟩
    rw [← uh HPE,ztt_map fun j hj=>uh HKD j (List.mem_of_mem_take hj)] at this
    rw [← List.map_take,List.map_map]
    exact this
   obtain⟨J,hJe⟩:∃ J,J=(⟨(Lib.join (((n.kids.map (tt ns)).take m).map (·.data.toList)) [44]).toArray⟩:ByteArray):=⟨_,rfl⟩
   have hJs:J.size≤P.size:=by rw [hJe];show (List.toArray _).size≤_;rw [List.size_toArray];exact hJl
   rw [← hJe] at hJ
   have b1:¬ 9223372036854775807<5+J.size:=by omega
   have b2:¬ 9223372036854775807<5+J.size+1:=by omega
   have hJ2:(Lib.join (((n.kids.map (tt ns)).take m).map (·.data.toList)) [44]).length≤100000000:=by omega
   have HJE:=hide hJe
   have HP:=hide hP
   have HJ:=hJ
   have hml:m≤(n.kids.map (tt ns)).length:=by omega
   have hmk:(n.kids.map (tt ns)).length≤1000000:=by omega
   clear hJ hJe hP hpl hJl
   by_cases hl:n.kids.length=m
   ·have hzl:¬ (m:Int)<(n.kids.length:Int):=by omega
    have HR:Hid (tt ns k=P++⟨#[41]⟩):=by
     have:=uh HT
     rw [List.drop_eq_nil_of_le (by omega)] at this
     exact this
    go_wp2_with (first
     | (go_at_call 70;refine (join_any (uh HP) m hml hmk hJ2).mono ?_;rw [← uh HJE];rintro e w1 ⟨rfl,hb1⟩;replace hB2:=hB2.new hb1;obtain⟨m0,m1,m2,m3,m4,mf0,mf1,mf2,mf3,mf4,ml⟩:=bn5 hB2))
    go_returns
    exact⟨by rw [uh HR,← uh HJ];rfl,hb.trans (hb1.mono hb.size)⟩
   ·have hzl:(m:Int)<(n.kids.length:Int):=by omega
    obtain⟨j,hj⟩:∃ j,n.kids[m]? = some j:=⟨_,List.getElem?_eq_getElem (by omega)⟩
    have hjk:=uh HKD j (List.mem_of_getElem? hj)
    have hzj:ztt ns k j=tt ns j:=by unfold ztt;rw [if_pos hjk]
    have hjs:=(uh HO).types j (by omega)
    have HR:Hid (tt ns k=P++⟨#[41]⟩++⟨#[32]⟩++tt ns j):=by
     have:=uh HT
     obtain⟨h1,h2⟩:=List.getElem?_eq_some_iff.1 hj
     rw [List.drop_eq_getElem_cons h1,h2] at this
     rw [← hzj]
     exact this
    have hkj:(n.kids.map (tt ns))[m]? = some (tt ns j):=by rw [List.getElem?_map,hj];rfl
    obtain⟨pg,rfl,hpg,hpgl,p0⟩:=(uh HP).at hkj
    have b3:¬ 9223372036854775807<1+(tt ns j).size:=by omega
    have b4:¬ 9223372036854775807<5+J.size+1+(1+(tt ns j).size):=by omega
    clear hj hkj hzj
    go_wp2_with (first
     | (go_at_call 70;refine (join_any (uh HP) m hml hmk hJ2).mono ?_;rw [← uh HJE];rintro e w1 ⟨rfl,hb1⟩;replace hB2:=hB2.new hb1;obtain⟨m0,m1,m2,m3,m4,mf0,mf1,mf2,mf3,mf4,ml⟩:=bn5 hB2;have hp1:=(below_cell hb1 hpgl m).trans p0))
    go_returns
    refine⟨?_,hb.trans (hb1.mono hb.size)⟩
    rw [uh HR,← uh HJ,ba_assoc _ (⟨#[32]⟩:ByteArray)]
    rfl
end
set_option maxHeartbeats 8000000 in
theorem tell_any {w:World}{B X:Nat}{nv xv mv:Value}{ns:List Nd}{ts:List ByteArray}(hN:NodesAt w B nv ns) (hX:TxtsAt w X xv ts) (hO:NsOk ns) (hK:InvK ns) {k:Nat}{n:Nd}(hn:ns[k]? = some n) (hT:Tx ns k ts) {kv:Value}(hI:Ints w B kv n.kids) :
  Calls Tryz.prog 20 #[.agg #[nv,xv,mv],.agg #[.int .i64 n.kind,.int .i64 n.pos,.int .i64 n.num,.string n.text,kv]] w fun e w'=>e=.returned (.string (xt ns k))∧Below w.heap.size w w':=by
 have hkl:k<ns.length:=(List.getElem?_eq_some_iff.1 hn).1
 by_cases h7:n.kind=7
 ·have e:xt ns k=⟨#[]⟩:=by unfold xt;rw [hn];simp [h7]
  rw [e,h7]
  obtain⟨ka,kc,rfl⟩:=own_len hI
  clear hN hX hO hK hn hT hI e
  go_enter Tryz.func20,Tryz.ntmps20
  go_wp2
  go_returns
  exact⟨rfl,by (repeat (first | exact Below.refl _ _ | with_reducible assumption | (refine bset ?_ (by first | exact Nat.le_refl _ | (simp;done) | (simp;omega))) | refine bdrewN ?_ | refine bdrew ?_ | refine balloc ?_))⟩
 rw [xt_at hn h7]
 by_cases h68:n.kind=6∨n.kind=8
 ·have HF:=hide fun w1 (hb:Below w.heap.size w w1)=>tellFunc_any (mv:=mv) (hN.below hb) (hX.below hb) hO hK hn hT h68 (own_below hI hb)
  obtain⟨ka,kc,rfl⟩:=own_len hI
  clear hN hX hO hK hn hT hI
  obtain⟨kd,hkd⟩:∃ kd,kd=n.kind:=⟨_,rfl⟩
  rw [← hkd] at HF h68 ⊢
  clear hkd h7
  rcases h68 with rfl | rfl
  all_goals
   go_enter Tryz.func20,Tryz.ntmps20
   go_wp2_with (first
    | (go_at_call 42;refine (uh HF _ (balloc (blA _ _))).mono ?_;rintro e w1 ⟨rfl,hb1⟩))
   go_returns
   exact⟨rfl,(balloc (blA _ _)).trans (hb1.mono (by rw [szA,szA];omega))⟩
 by_cases h5:n.kind=5
 ·have hok:=hO.inv k n hn
  have hl1:=hok.one (Or.inl h5)
  obtain⟨a,ha⟩:∃ a,n.kids = [a]:=List.length_eq_one_iff.1 hl1
  have hak:a<k:=hok.kids a (by simp [ha])
  obtain⟨ka,kc,rfl⟩:=own_len hI
  obtain⟨kg,rfl,_,hkgl,q0⟩:=hI.at (i:=0) (k:=a) (by simp [ha])
  obtain⟨xa,xc,rfl⟩:=own_len hX
  obtain⟨xg,rfl,_,hxl,x0⟩:=hX.at (hT.at' a hak)
  have hxa:=xt_nopar ((hK k n hn).kid (Or.inl h5) a (by simp [ha]))
  rw [hxa] at x0
  have hts:=hO.types a (by omega)
  have HR:Hid (tt ns k=⟨#[99,104,97,110,32]⟩++tt ns a):=by
   show _=_
   rw [tt_at hn]
   unfold textOf
   rw [if_neg (by omega),if_neg (by omega),if_neg (by omega),if_neg (by omega),if_pos h5,ha]
   show _++ztt ns k a=_
   unfold ztt
   rw [if_pos hak]
  have hza:(a:Int)<(ns.length:Int):=by omega
  have hfew:=hO.few
  rw [hT.len,h5,hl1]
  have b1:¬ 9223372036854775807<5+(tt ns a).size:=by omega
  clear hN hX hO hK hn hT hI hok hxa ha
  go_enter Tryz.func20,Tryz.ntmps20
  go_wp2
  go_quiet (fail)
  go_wp2
  go_returns
  exact⟨by rw [uh HR];rfl,by (repeat (first | exact Below.refl _ _ | with_reducible assumption | (refine bset ?_ (by first | exact Nat.le_refl _ | (simp;done) | (simp;omega))) | refine bdrewN ?_ | refine bdrew ?_ | refine balloc ?_))⟩
 have hnt:=hO.texts n (List.mem_of_getElem? hn)
 have b1:¬ 9223372036854775807<1+n.text.size:=by omega
 have HT:=hide (tt_at hn)
 unfold textOf at HT
 obtain⟨ka,kc,rfl⟩:=own_len hI
 clear hN hX hO hK hn hT hI
 by_cases h1:n.kind=1
 ·rw [h1]
  go_enter Tryz.func20,Tryz.ntmps20
  go_wp2
  go_returns
  exact⟨by rw [uh HT,if_pos h1];rfl,by (repeat (first | exact Below.refl _ _ | with_reducible assumption | (refine bset ?_ (by first | exact Nat.le_refl _ | (simp;done) | (simp;omega))) | refine bdrewN ?_ | refine bdrew ?_ | refine balloc ?_))⟩
 by_cases h2:n.kind=2
 ·rw [h2]
  go_enter Tryz.func20,Tryz.ntmps20
  go_wp2
  go_returns
  exact⟨by rw [uh HT,if_neg h1,if_pos h2];rfl,by (repeat (first | exact Below.refl _ _ | with_reducible assumption | (refine bset ?_ (by first | exact Nat.le_refl _ | (simp;done) | (simp;omega))) | refine bdrewN ?_ | refine bdrew ?_ | refine balloc ?_))⟩
 by_cases h3:n.kind=3
 ·rw [h3]
  go_enter Tryz.func20,Tryz.ntmps20
  go_wp2
  go_returns
  exact⟨by rw [uh HT,if_neg h1,if_neg h2,if_pos h3];rfl,by (repeat (first | exact Below.refl _ _ | with_reducible assumption | (refine bset ?_ (by first | exact Nat.le_refl _ | (simp;done) | (simp;omega))) | refine bdrewN ?_ | refine bdrew ?_ | refine balloc ?_))⟩
 by_cases h4:n.kind=4
 ·rw [h4]
  go_enter Tryz.func20,Tryz.ntmps20
  go_wp2
  go_returns
  exact⟨by rw [uh HT,if_neg h1,if_neg h2,if_neg h3,if_pos h4];rfl,by (repeat (first | exact Below.refl _ _ | with_reducible assumption | (refine bset ?_ (by first | exact Nat.le_refl _ | (simp;done) | (simp;omega))) | refine bdrewN ?_ | refine bdrew ?_ | refine balloc ?_))⟩
 have c1:=ne_b h1
 have c2:=ne_b h2
 have c3:=ne_b h3
 have c4:=ne_b h4
 have c5:=ne_b h5
 have c6:(n.kind == 6)=false:=ne_b fun h=>h68 (Or.inl h)
 have c8:(n.kind == 8)=false:=ne_b fun h=>h68 (Or.inr h)
 go_enter Tryz.func20,Tryz.ntmps20
 go_wp2
 go_returns
 exact⟨by rw [uh HT,if_neg h1,if_neg h2,if_neg h3,if_neg h4,if_neg h5,if_neg h7,if_neg h68];rfl,by (repeat (first | exact Below.refl _ _ | with_reducible assumption | (refine bset ?_ (by first | exact Nat.le_refl _ | (simp;done) | (simp;omega))) | refine bdrewN ?_ | refine bdrew ?_ | refine balloc ?_))⟩
end
end Go.Proofs.YtdemnolanlfblaaGreatDoor
