import Derived.Test.YtdemnolanlfblaaGreatDoorYTSmall
import Derived.Test.YtdemnolanlfblaaGreatDoorYRKind
import Derived.Test.YtdemnolanlfblaaGreatDoorShelfD
set_option linter.all false
namespace Go.Proofs.YtdemnolanlfblaaGreatDoor
section
open Go.RowKit
def partsGo (z:Nat→ByteArray):List Nat→Nat→ByteArray→ByteArray
 | [],_,s=>s
 | k :: r,i,s=>partsGo z r (i+1) ((if i=0 then s else s++⟨#[44]⟩)++z k)
def backOf (z:Nat→ByteArray) (s:ByteArray):List Nat→ByteArray
 | []=>s
 | k :: _=>s++⟨#[32]⟩++z k
def headOf (z:Nat→ByteArray):List Nat→ByteArray
 | []=>⟨#[]⟩
 | k :: _=>z k
def funcText (z:Nat→ByteArray) (n:Nd):ByteArray:=backOf z (partsGo z (n.kids.take n.num.toNat) 0 ⟨#[102,117,110,99,40]⟩++⟨#[41]⟩) (n.kids.drop n.num.toNat)
def textOf (z:Nat→ByteArray) (n:Nd):ByteArray :=
 if n.kind=1 then ⟨#[105,110,116]⟩ else if n.kind=2 then ⟨#[98,111,111,108]⟩ else if n.kind=3 then n.text else if n.kind=4 then ⟨#[42]⟩++n.text
 else if n.kind=5 then ⟨#[99,104,97,110,32]⟩++headOf z n.kids else if n.kind=7 then headOf z n.kids else if n.kind=6∨n.kind=8 then funcText z n else ⟨#[]⟩
def ttext (ns:List Nd):Nat→Nat→ByteArray
 | 0,_=>⟨#[]⟩
 | f+1,k=>match ns[k]? with
  | none=>⟨#[]⟩
  | some n=>textOf (fun j=>if j<k then ttext ns f j else ⟨#[]⟩) n
def tt (ns:List Nd) (k:Nat):ByteArray:=ttext ns (k+1) k
theorem ttext_fuel (ns:List Nd):∀ f g k,k<f→k<g→ttext ns f k=ttext ns g k
 | 0,_,_,h,_=>by omega
 | _,0,_,_,h=>by omega
 | f+1,g+1,k,hf,hg=>by
  unfold ttext
  cases ns[k]? with
  | none=>rfl
  | some n =>
   have e:(fun j=>if j<k then ttext ns f j else (⟨#[]⟩:ByteArray))=fun j=>if j<k then ttext ns g j else ⟨#[]⟩:=by
    funext j
    by_cases hj:j<k
    ·rw [if_pos hj,if_pos hj,ttext_fuel ns f g j (by omega) (by omega)]
    ·rw [if_neg hj,if_neg hj]
   simp only [e]
def ztt (ns:List Nd) (k j:Nat):ByteArray:=if j<k then tt ns j else ⟨#[]⟩
theorem tt_at {ns:List Nd}{k:Nat}{n:Nd}(h:ns[k]? = some n):tt ns k=textOf (ztt ns k) n:=by
 unfold tt ttext
 rw [h]
 have e:(fun j=>if j<k then ttext ns k j else (⟨#[]⟩:ByteArray))=ztt ns k:=by
  funext j
  unfold ztt tt
  by_cases hj:j<k
  ·rw [if_pos hj,if_pos hj,ttext_fuel ns k (j+1) j hj (by omega)]
  ·rw [if_neg hj,if_neg hj]
 simp only [e]
theorem ttext_app (ns t:List Nd):∀ f k,k<ns.length→ttext (ns++t) f k=ttext ns f k
 | 0,_,_=>rfl
 | f+1,k,hk=>by
  unfold ttext
  rw [List.getElem?_append_left hk]
  cases ns[k]? with
  | none=>rfl
  | some n =>
   have e:(fun j=>if j<k then ttext (ns++t) f j else (⟨#[]⟩:ByteArray))=fun j=>if j<k then ttext ns f j else ⟨#[]⟩:=by
    funext j
    by_cases hj:j<k
    ·rw [if_pos hj,if_pos hj,ttext_app ns t f j (by omega)]
    ·rw [if_neg hj,if_neg hj]
   simp only [e]
theorem size_add (a b:ByteArray):(a++b).size=a.size+b.size:=ByteArray.size_append
theorem parts_size (z:Nat→ByteArray):∀ (l:List Nat) (i:Nat) (s:ByteArray),(partsGo z l i s).size≤s.size+(l.map fun k=>(z k).size+1).sum
 | [],_,s=>by simp [partsGo]
 | k :: r,i,s=>by
  unfold partsGo
  have h1:=parts_size z r (i+1) ((if i=0 then s else s++⟨#[44]⟩)++z k)
  have h2:(if i=0 then s else s++⟨#[44]⟩).size≤s.size+1:=by
   split
   ·omega
   ·rw [size_add];exact Nat.le_refl _
  rw [size_add] at h1
  simp only [List.map_cons,List.sum_cons]
  omega
theorem parts_ge (z:Nat→ByteArray):∀ (l:List Nat) (i:Nat) (s:ByteArray),s.size≤(partsGo z l i s).size
 | [],_,s=>Nat.le_refl _
 | k :: r,i,s=>by
  unfold partsGo
  have h1:=parts_ge z r (i+1) ((if i=0 then s else s++⟨#[44]⟩)++z k)
  have h2:s.size≤(if i=0 then s else s++⟨#[44]⟩).size:=by
   split
   ·exact Nat.le_refl _
   ·rw [size_add];omega
  rw [size_add] at h1
  omega
theorem textOf_size (z:Nat→ByteArray) (n:Nd):(textOf z n).size≤n.text.size+10+(n.kids.map fun k=>(z k).size+1).sum:=by
 have hhead:(headOf z n.kids).size≤(n.kids.map fun k=>(z k).size+1).sum:=by
  cases n.kids with
  | nil=>exact Nat.zero_le _
  | cons k r=>simp only [headOf,List.map_cons,List.sum_cons];omega
 have hfunc:(funcText z n).size≤10+(n.kids.map fun k=>(z k).size+1).sum:=by
  unfold funcText
  have h1:=parts_size z (n.kids.take n.num.toNat) 0 ⟨#[102,117,110,99,40]⟩
  have h2:(⟨#[102,117,110,99,40]⟩:ByteArray).size=5:=rfl
  have h3:(⟨#[41]⟩:ByteArray).size=1:=rfl
  have h4:(⟨#[32]⟩:ByteArray).size=1:=rfl
  have h5:(n.kids.map fun k=>(z k).size+1).sum=((n.kids.take n.num.toNat).map fun k=>(z k).size+1).sum+((n.kids.drop n.num.toNat).map fun k=>(z k).size+1).sum:=by
   rw [← List.sum_append,← List.map_append,List.take_append_drop]
  cases hd:n.kids.drop n.num.toNat with
  | nil =>
   show (partsGo z (n.kids.take n.num.toNat) 0 ⟨#[102,117,110,99,40]⟩++⟨#[41]⟩).size≤_
   rw [size_add]
   omega
  | cons k r =>
   show (partsGo z (n.kids.take n.num.toNat) 0 ⟨#[102,117,110,99,40]⟩++⟨#[41]⟩++⟨#[32]⟩++z k).size≤_
   rw [size_add,size_add,size_add]
   rw [hd] at h5
   simp only [List.map_cons,List.sum_cons] at h5
   omega
 unfold textOf
 have e1:(⟨#[105,110,116]⟩:ByteArray).size=3:=rfl
 have e2:(⟨#[98,111,111,108]⟩:ByteArray).size=4:=rfl
 have e3:(⟨#[42]⟩:ByteArray).size=1:=rfl
 have e4:(⟨#[99,104,97,110,32]⟩:ByteArray).size=5:=rfl
 have e5:(⟨#[]⟩:ByteArray).size=0:=rfl
 repeat' split
 all_goals (try rw [size_add])
 all_goals omega
theorem tt_told:Told fun ns k=>(tt ns k).size:=by
 refine⟨fun ns t k hk=>?_,fun ns n=>?_⟩
 ·show (ttext (ns++t) (k+1) k).size=(ttext ns (k+1) k).size
  rw [ttext_app ns t (k+1) k hk]
 ·show (tt (ns++[n]) ns.length).size≤_
  rw [tt_at (n:=n) (by simp)]
  refine Nat.le_trans (textOf_size _ n) ?_
  have:∀ l:List Nat,(l.map fun k=>(ztt (ns++[n]) ns.length k).size+1).sum≤(l.map fun k=>(tt ns k).size+1).sum:=by
   intro l
   induction l with
   | nil=>exact Nat.le_refl _
   | cons k r ih =>
    simp only [List.map_cons,List.sum_cons]
    have h1:(ztt (ns++[n]) ns.length k).size≤(tt ns k).size:=by
     unfold ztt
     split
     ·rename_i hk
      show (ttext (ns++[n]) (k+1) k).size≤(ttext ns (k+1) k).size
      rw [ttext_app ns [n] (k+1) k hk]
      exact Nat.le_refl _
     ·exact Nat.zero_le _
    omega
  exact Nat.add_le_add_left (this n.kids) _
theorem tt_small {ns:List Nd}{R:List Nat}(hF:Forest ns R) (hx:∀ n ∈ ns,n.text.size≤6001) (hn:ns.length≤1200):∀ k,k<ns.length→(tt ns k).size≤10000000:=by
 intro k hk
 have h1:=forest_each tt_told hF k hk
 have h2:=weight_le hx
 have h3:ns.length * (6001+20)≤1200 * (6001+20):=Nat.mul_le_mul_right _ hn
 have h4:(tt ns k).size+1≤weight ns:=h1
 omega
theorem Ints.at {w:World}{B n0 cap:Nat}{a:Option Addr}{ks:List Nat}(h:Ints w B (.slice a n0 cap) ks) {i k:Nat}(hk:ks[i]? = some k):∃ g,a=some ⟨g,0,none⟩∧B≤g∧g<w.heap.size∧w.cell? ⟨g,i,none⟩=some (.int .i64 (k:Int)):=by
 have hlt:i<ks.length:=(List.getElem?_eq_some_iff.1 hk).1
 rcases h.2 with⟨_,h0⟩ | ⟨g,cap',cur,hv,hg,_⟩
 ·omega
 ·simp only [Value.slice.injEq] at hv
  obtain⟨rfl,rfl,rfl⟩:=hv
  have hc:=h.cells (g:=g) rfl
  have:=hc i (.int .i64 (k:Int)) (by simp [ivals,hk])
  have h2:w.cell? ⟨g,i,none⟩=some (.int .i64 (k:Int)):=by
   unfold Addr.add at this
   split at this
   ·rename_i h0
    rw [h0];exact this
   ·simpa using this
  exact⟨g,rfl,hg,World.block_lt_of_cell? w _ h2,h2⟩
end
section
open Go.RowKit
def TextAt (ns:List Nd) (k:Nat):Prop:=∀ (w:World) (B:Nat) (v:Value),NodesAt w B v ns→Calls Tryz.prog 8 #[v,.int .i64 (k:Int)] w fun e w'=>e=.returned (.string (tt ns k))∧Below w.heap.size w w'
section
variable {ns:List Nd}{k:Nat}{n:Nd}
set_option maxHeartbeats 4000000 in
theorem text_plain (hn:ns.length≤100000) (hk:ns[k]? = some n) (hx:n.text.size≤100000) (h5:n.kind≠5) (h6:n.kind≠6) (h7:n.kind≠7) (h8:n.kind≠8):TextAt ns k:=by
 intro w B v h
 obtain⟨va,vc,rfl⟩:=h.len
 have hlt:k<ns.length:=(List.getElem?_eq_some_iff.1 hk).1
 obtain⟨g,kv,rfl,hg,c0,c1,c2,c3,c4,hI⟩:=h.at hk
 have hz:(k:Int)<(ns.length:Int):=by omega
 obtain⟨ka,kc,rfl⟩:=own_len hI
 have hgl:=World.block_lt_of_cell? w _ c0
 have hb:¬ 9223372036854775807<1+n.text.size:=by omega
 have HT:=hide (tt_at hk)
 clear hI h hk
 unfold textOf at HT
 by_cases h1:n.kind=1
 ·rw [h1] at c0
  go_enter Tryz.func8,Tryz.ntmps8
  go_wp2
  go_returns
  refine⟨?_,blA _ _⟩
  rw [uh HT,if_pos h1];rfl
 by_cases h2:n.kind=2
 ·rw [h2] at c0
  go_enter Tryz.func8,Tryz.ntmps8
  go_wp2
  go_returns
  refine⟨?_,blA _ _⟩
  rw [uh HT,if_neg h1,if_pos h2];rfl
 by_cases h3:n.kind=3
 ·rw [h3] at c0
  go_enter Tryz.func8,Tryz.ntmps8
  go_wp2
  go_returns
  refine⟨?_,blA _ _⟩
  rw [uh HT,if_neg h1,if_neg h2,if_pos h3];rfl
 by_cases h4:n.kind=4
 ·rw [h4] at c0
  go_enter Tryz.func8,Tryz.ntmps8
  go_wp2
  go_returns
  refine⟨?_,blA _ _⟩
  rw [uh HT,if_neg h1,if_neg h2,if_neg h3,if_pos h4];rfl
 have b1:=ne_b h1
 have b2:=ne_b h2
 have b3:=ne_b h3
 have b4:=ne_b h4
 have b5:=ne_b h5
 have b6:=ne_b h6
 have b7:=ne_b h7
 have b8:=ne_b h8
 go_enter Tryz.func8,Tryz.ntmps8
 go_wp2
 go_returns
 refine⟨?_,blA _ _⟩
 rw [uh HT,if_neg h1,if_neg h2,if_neg h3,if_neg h4,if_neg h5,if_neg h7,if_neg (fun h=>h.elim h6 h8)];rfl
set_option maxHeartbeats 4000000 in
theorem text_head (hn:ns.length≤100000) (hk:ns[k]? = some n) (hok:NdOk ns k n) (hsz:∀ j,j<ns.length→(tt ns j).size≤10000000) (ih:∀ j,j<k→TextAt ns j) (h57:n.kind=5∨n.kind=7):TextAt ns k:=by
 intro w B v h
 obtain⟨va,vc,rfl⟩:=h.len
 have hlt:k<ns.length:=(List.getElem?_eq_some_iff.1 hk).1
 obtain⟨g,kv,rfl,hg,c0,c1,c2,c3,c4,hI⟩:=h.at hk
 have hz:(k:Int)<(ns.length:Int):=by omega
 obtain⟨ka,kc,rfl⟩:=own_len hI
 have hl1:n.kids.length=1:=hok.one (by rcases h57 with h | h <;> simp [h])
 obtain⟨j,hj⟩:∃ j,n.kids = [j]:=List.length_eq_one_iff.1 hl1
 have hjk:j<k:=hok.kids j (by simp [hj])
 obtain⟨kg,rfl,hkg,hkl,q0⟩:=hI.at (i:=0) (k:=j) (by simp [hj])
 have hgl:=World.block_lt_of_cell? w _ c0
 simp only [] at hgl
 have hs:=hsz j (by omega)
 have HT:=hide (tt_at hk)
 have HIH:=hide (ih j hjk)
 have HN:=hide h
 rw [hl1] at c4
 have hzj:ztt ns k j=tt ns j:=by unfold ztt;rw [if_pos hjk]
 clear hI h hk ih hsz hok
 unfold textOf at HT
 rw [hj] at HT
 simp only [headOf,hzj] at HT
 have hb:¬ 9223372036854775807<5+(tt ns j).size:=by omega
 rcases h57 with h5 | h7
 ·rw [h5] at c0 HT
  go_enter Tryz.func8,Tryz.ntmps8
  go_wp2_with (go_at_call 8;refine (uh HIH _ _ _ ((uh HN).below (blA _ _))).mono ?_;rintro e w1 ⟨rfl,hb1⟩)
  go_returns
  refine⟨?_,(blA _ _).trans (hb1.mono (by rw [szA];omega))⟩
  rw [uh HT];rfl
 ·rw [h7] at c0 HT
  go_enter Tryz.func8,Tryz.ntmps8
  go_wp2_with (go_at_call 8;refine (uh HIH _ _ _ ((uh HN).below (blA _ _))).mono ?_;rintro e w1 ⟨rfl,hb1⟩)
  go_returns
  refine⟨?_,(blA _ _).trans (hb1.mono (by rw [szA];omega))⟩
  rw [uh HT];rfl
end
end
section
open Go.RowKit
section
variable {ns:List Nd}{k:Nat}{n:Nd}
theorem parts_step {z:Nat→ByteArray}{l:List Nat}{i j:Nat}{s:ByteArray}(h:l[i]? = some j):partsGo z (l.drop i) i s=partsGo z (l.drop (i+1)) (i+1) ((if i=0 then s else s++⟨#[44]⟩)++z j):=by
 obtain⟨h1,h2⟩:=List.getElem?_eq_some_iff.1 h
 rw [List.drop_eq_getElem_cons h1,h2]
 rfl
set_option maxHeartbeats 16000000 in
set_option maxRecDepth 100000 in
theorem text_func (hn:ns.length≤100000) (hk:ns[k]? = some n) (hok:NdOk ns k n) (hsz:∀ j,j<ns.length→(tt ns j).size≤10000000) (ih:∀ j,j<k→TextAt ns j) (h68:n.kind=6∨n.kind=8):TextAt ns k:=by
 intro w B v h
 obtain⟨va,vc,rfl⟩:=h.len
 have hlt:k<ns.length:=(List.getElem?_eq_some_iff.1 hk).1
 obtain⟨g,kv,rfl,hg,c0,c1,c2,c3,c4,hI⟩:=h.at hk
 have hz:(k:Int)<(ns.length:Int):=by omega
 obtain⟨ka,kc,rfl⟩:=own_len hI
 obtain⟨m,hm,hm1,hm2⟩:=hok.sig h68
 have hkn:n.kids.length≤9223372036854775807:=by
  rcases hI.2 with⟨_,h0⟩ | ⟨b,cap,cur,hv,hb,hh,hcap,hmax,_⟩
  ·omega
  ·unfold maxLen at hmax
   omega
 rw [hm] at c2
 have hgl:=World.block_lt_of_cell? w _ c0
 simp only [] at hgl
 have HT:Hid (tt ns k=backOf (ztt ns k) (partsGo (ztt ns k) (n.kids.take m) 0 ⟨#[102,117,110,99,40]⟩++⟨#[41]⟩) (n.kids.drop m)):=by
  show _=_
  rw [tt_at hk]
  unfold textOf funcText
  rw [if_neg (by omega),if_neg (by omega),if_neg (by omega),if_neg (by omega),if_neg (by omega),if_neg (by omega),if_pos h68,hm]
  rfl
 obtain⟨P,hP⟩:∃ P,P=partsGo (ztt ns k) (n.kids.take m) 0 ⟨#[102,117,110,99,40]⟩:=⟨_,rfl⟩
 rw [← hP] at HT
 have hPs:P.size≤10000000:=by
  have h1:=hsz k hlt
  rw [uh HT] at h1
  have h2:(P++⟨#[41]⟩).size≤(backOf (ztt ns k) (P++⟨#[41]⟩) (n.kids.drop m)).size:=by
   cases n.kids.drop m with
   | nil=>exact Nat.le_refl _
   | cons a l =>
    show _≤(P++⟨#[41]⟩++⟨#[32]⟩++ztt ns k a).size
    have e1:=size_add (P++⟨#[41]⟩++⟨#[32]⟩) (ztt ns k a)
    have e2:=size_add (P++⟨#[41]⟩) (⟨#[32]⟩:ByteArray)
    omega
  rw [size_add] at h2
  omega
 have HP:=hide hP
 have HIH:=hide ih
 have HN:=hide h
 have HI:=hide hI
 have HOK:=hide hok.kids
 have HSZ:=hide hsz
 clear hP ih h hI hok hsz hk
 obtain⟨kd,hkd⟩:∃ kd,n.kind=kd:=⟨_,rfl⟩
 rw [hkd] at c0 h68
 have hroom:∀ j,j ∈ n.kids→(tt ns j).size≤10000000:=fun j hj=>uh HSZ j (Nat.lt_trans (uh HOK j hj) hlt)
 have HROOM:=hide hroom
 clear hroom hkd
 rcases h68 with rfl | rfl
 all_goals
  go_enter Tryz.func8,Tryz.ntmps8
  go_wp2
  go_loopg [7,8] m (fun kx e7 e8 wr=>∃ (i:Nat) (s:ByteArray),i≤m∧kx=m - i∧e7=.string s∧e8=.int .i64 (i:Int)∧Below (World.alloc w _).heap.size (World.alloc w _) wr∧Hid (partsGo (ztt ns k) ((n.kids.take m).drop i) i s=P))
  case atStart=>exact⟨0,_,Nat.zero_le _,rfl,rfl,rfl,Below.refl _ _,(uh HP).symm⟩
  case round =>
   obtain⟨i,s,hi,rfl,rfl,rfl,hb,HS⟩:=hrel
   have bn:=(BoxAt.made w [.int .i64 _,.int .i64 n.pos,.int .i64 (m:Int),.string n.text,.slice ka n.kids.length kc] 36).new hb
   obtain⟨n0,n1,n2,n3,n4,nf0,nf1,nf2,nf3,nf4,nl⟩:=bn5 bn
   have hI2:=own_below (own_below (uh HI) (blA w _)) hb
   have hN2:=((uh HN).below (blA w _)).below hb
   have hss:s.size≤P.size:=by rw [← uh HS];exact parts_ge _ _ _ _
   by_cases hlt2:i<m
   ·obtain⟨j,hj⟩:∃ j,n.kids[i]? = some j:=⟨_,List.getElem?_eq_getElem (by omega)⟩
    have hjm:=List.mem_of_getElem? hj
    have hjk:=uh HOK j hjm
    obtain⟨kg,rfl,hkg,hkl,q0⟩:=Ints.at hI2 hj
    have hzi:(i:Int)<(m:Int):=by omega
    have hzk:(i:Int)<(n.kids.length:Int):=by omega
    have hst:=parts_step (z:=ztt ns k) (l:=n.kids.take m) (i:=i) (j:=j) (s:=s) (by rw [List.getElem?_take];rw [if_pos hlt2];exact hj)
    have hzj:ztt ns k j=tt ns j:=by unfold ztt;rw [if_pos hjk]
    rw [hzj] at hst
    have HS2:Hid (partsGo (ztt ns k) ((n.kids.take m).drop (i+1)) (i+1) ((if i=0 then s else s++⟨#[44]⟩)++tt ns j)=P):=by
     show _=_
     rw [← hst];exact uh HS
    have hts:=uh HROOM j hjm
    have HJ:=hide (uh HIH j hjk)
    have HN2:=hide hN2
    clear hst hI2 hN2 hj hjm
    by_cases hi0:i=0
    ·subst hi0
     have HS3:Hid (partsGo (ztt ns k) ((n.kids.take m).drop 1) 1 (s++tt ns j)=P):=by
      have:=uh HS2
      rwa [if_pos rfl] at this
     have hbb:¬ 9223372036854775807<s.size+(tt ns j).size:=by omega
     clear HS2
     go_wp2_with (go_at_call 8;refine (uh HJ _ _ _ (uh HN2)).mono ?_;rintro e w1 ⟨rfl,hb1⟩)
     go_roundg (m - 1)
     case measure=>omega
     case rel=>exact⟨1,_,by omega,rfl,rfl,by first | rfl | (simp;done) | (simp;unfold wrap64;omega),hb.trans (hb1.mono hb.size),HS3⟩
    ·have hzz:(0:Int)<(i:Int):=by omega
     have HS3:Hid (partsGo (ztt ns k) ((n.kids.take m).drop (i+1)) (i+1) (s++⟨#[44]⟩++tt ns j)=P):=by
      have:=uh HS2
      rwa [if_neg hi0] at this
     have hbb:¬ 9223372036854775807<s.size+1:=by omega
     have hbc:¬ 9223372036854775807<s.size+1+(tt ns j).size:=by omega
     clear HS2
     go_wp2_with (go_at_call 8;refine (uh HJ _ _ _ (uh HN2)).mono ?_;rintro e w1 ⟨rfl,hb1⟩)
     go_roundg (m - (i+1))
     case measure=>omega
     case rel=>exact⟨i+1,_,by omega,rfl,rfl,by first | rfl | (simp;done) | (simp;unfold wrap64;omega),hb.trans (hb1.mono hb.size),HS3⟩
   ·obtain rfl:i=m:=by omega
    have hzi:¬ (i:Int)<(i:Int):=by omega
    have hs:s=P:=by
     have:=uh HS
     rw [List.drop_eq_nil_of_le (by simp;omega)] at this
     exact this
    subst hs
    have hb1:¬ 9223372036854775807<s.size+1:=by omega
    by_cases hl:n.kids.length=i
    ·have hzl:¬ (i:Int)<(n.kids.length:Int):=by omega
     have HR:Hid (tt ns k=s++⟨#[41]⟩):=by
      have:=uh HT
      rw [List.drop_eq_nil_of_le (by omega)] at this
      exact this
     go_wp2
     go_returns
     exact⟨by rw [uh HR];rfl,(blA _ _).trans (hb.mono (by rw [szA];omega))⟩
    ·have hzl:(i:Int)<(n.kids.length:Int):=by omega
     obtain⟨j,hj⟩:∃ j,n.kids[i]? = some j:=⟨_,List.getElem?_eq_getElem (by omega)⟩
     have hjm:=List.mem_of_getElem? hj
     have hjk:=uh HOK j hjm
     obtain⟨kg,rfl,hkg,hkl,q0⟩:=Ints.at hI2 hj
     have hzj:ztt ns k j=tt ns j:=by unfold ztt;rw [if_pos hjk]
     have HR:Hid (tt ns k=s++⟨#[41]⟩++⟨#[32]⟩++tt ns j):=by
      have:=uh HT
      obtain⟨h1,h2⟩:=List.getElem?_eq_some_iff.1 hj
      rw [List.drop_eq_getElem_cons h1,h2] at this
      rw [← hzj]
      exact this
     have hts:=uh HROOM j hjm
     have HJ:=hide (uh HIH j hjk)
     have HN2:=hide hN2
     have hb2:¬ 9223372036854775807<s.size+1+1:=by omega
     have hb3:¬ 9223372036854775807<s.size+1+1+(tt ns j).size:=by omega
     clear hI2 hN2 hj hjm
     go_wp2_with (go_at_call 8;refine (uh HJ _ _ _ (uh HN2)).mono ?_;rintro e w1 ⟨rfl,hb9⟩)
     go_returns
     exact⟨by rw [uh HR];rfl,(blA _ _).trans ((hb.trans (hb9.mono hb.size)).mono (by rw [szA];omega))⟩
theorem text_any (hI:Inv ns) (hn:ns.length≤100000) (hx:∀ n ∈ ns,n.text.size≤100000) (hsz:∀ j,j<ns.length→(tt ns j).size≤10000000):∀ k,k<ns.length→TextAt ns k:=by
 intro k
 induction k using Nat.strongRecOn with
 | _ k ih =>
  intro hk
  obtain⟨n,hkn⟩:∃ n,ns[k]? = some n:=⟨_,List.getElem?_eq_getElem hk⟩
  have hok:=hI k n hkn
  have ih2:∀ j,j<k→TextAt ns j:=fun j hj=>ih j hj (by omega)
  by_cases h1:n.kind=5∨n.kind=7
  ·exact text_head hn hkn hok hsz ih2 h1
  by_cases h2:n.kind=6∨n.kind=8
  ·exact text_func hn hkn hok hsz ih2 h2
  exact text_plain hn hkn (hx n (List.mem_of_getElem? hkn)) (fun h=>h1 (Or.inl h)) (fun h=>h2 (Or.inl h)) (fun h=>h1 (Or.inr h)) (fun h=>h2 (Or.inr h))
end
end
section
open Go.RowKit
theorem same_drop {xs ys:List ByteArray}{i:Nat}{x y:ByteArray}(hx:xs[i]? = some x) (hy:ys[i]? = some y):(xs.drop i=ys.drop i)↔(x=y∧xs.drop (i+1)=ys.drop (i+1)):=by
 obtain⟨h1,h2⟩:=List.getElem?_eq_some_iff.1 hx
 obtain⟨h3,h4⟩:=List.getElem?_eq_some_iff.1 hy
 rw [List.drop_eq_getElem_cons h1,List.drop_eq_getElem_cons h3,h2,h4,List.cons.injEq]
theorem same_step {xs ys:List ByteArray}{i:Nat}{x:ByteArray}(hs:xs.drop i=ys.drop i↔(x=x∧xs.drop (i+1)=ys.drop (i+1))) (hd:decide (xs.drop i=ys.drop i)=decide (xs=ys)):decide (xs.drop (i+1)=ys.drop (i+1))=decide (xs=ys):=by
 rw [← hd]
 by_cases h:xs.drop (i+1)=ys.drop (i+1)
 ·rw [decide_eq_true h,decide_eq_true (hs.2 ⟨rfl,h⟩)]
 ·rw [decide_eq_false h,decide_eq_false (fun e=>h (hs.1 e).2)]
set_option maxHeartbeats 4000000 in
theorem sames_any {w:World}{A B:Nat}{u v:Value}{xs ys:List ByteArray}(hu:TxtsAt w A u xs) (hv:TxtsAt w B v ys) (hx:xs.length≤100000) (hy:ys.length≤100000) :
  Calls Tryz.prog 11 #[u,v] w fun e w'=>e=.returned (.bool (decide (xs=ys)))∧Below w.heap.size w w':=by
 obtain⟨ua,uc,rfl⟩:=own_len hu
 obtain⟨va,vc,rfl⟩:=own_len hv
 have HU:=hide hu
 have HV:=hide hv
 clear hu hv
 by_cases hl:xs.length=ys.length
 ·have hlz:((xs.length:Nat):Int)=((ys.length:Nat):Int):=by omega
  have hlb:(((xs.length:Nat):Int) == ((ys.length:Nat):Int))=true:=by simp [hl]
  rw [← hl]
  go_enter Tryz.func11,Tryz.ntmps11
  go_wp2
  go_loopg [5] xs.length (fun k e wr=>∃ i:Nat,i≤xs.length∧k=xs.length - i∧e=.int .i64 (i:Int)∧Below w.heap.size w wr∧Hid (decide (xs.drop i=ys.drop i)=decide (xs=ys)))
  case atStart=>exact⟨0,Nat.zero_le _,rfl,rfl,Below.refl _ _,by show _=_;rfl⟩
  case round =>
   obtain⟨i,hi,rfl,rfl,hb,hd⟩:=hrel
   by_cases hlt:i<xs.length
   ·obtain⟨x,hkx⟩:∃ x,xs[i]? = some x:=⟨_,List.getElem?_eq_getElem hlt⟩
    obtain⟨y,hky⟩:∃ y,ys[i]? = some y:=⟨_,List.getElem?_eq_getElem (by omega)⟩
    obtain⟨g,rfl,hg,hgl,c0⟩:=((uh HU).below hb).at hkx
    obtain⟨f,rfl,hf,hfl,e0⟩:=((uh HV).below hb).at hky
    have hz:(i:Int)<(xs.length:Int):=by omega
    have hs:=same_drop hkx hky
    clear hkx hky
    by_cases hxy:x=y
    ·subst hxy
     have HR:Hid (decide (xs.drop (i+1)=ys.drop (i+1))=decide (xs=ys)):=same_step hs (uh hd)
     clear hd hs
     go_wp2
     go_quiet (fail)
     go_wp2
     go_roundg (xs.length - (i+1))
     case measure=>omega
     case rel=>exact⟨i+1,by omega,rfl,by first | rfl | simp,hb.trans ((below_drewN _ _).mono hb.size),HR⟩
    ·have hn:=str_ne hxy
     have HR:Hid (decide (xs=ys)=false):=by
      have:=uh hd
      rw [← this]
      show decide _=false
      simp [hs,hxy]
     clear hd hs
     go_wp2
     go_quiet (fail)
     go_wp2
     go_returns
     exact⟨by rw [uh HR];rfl,hb.trans ((below_drewN _ _).mono hb.size)⟩
   ·have hz:¬ (i:Int)<(xs.length:Int):=by omega
    obtain rfl:i=xs.length:=by omega
    have HR:Hid (decide (xs=ys)=true):=by
     have:=uh hd
     rw [← this]
     show decide _=true
     rw [List.drop_length,hl,List.drop_length]
     rfl
    go_wp2
    go_returns
    exact⟨by rw [uh HR];rfl,hb⟩
 ·have hlb:(((xs.length:Nat):Int) == ((ys.length:Nat):Int))=false:=by simp;omega
  have HR:decide (xs=ys)=false:=by
   simp
   intro h
   exact hl (by rw [h])
  rw [HR]
  go_enter Tryz.func11,Tryz.ntmps11
  go_wp2
  go_returns
  exact⟨rfl,Below.refl _ _⟩
end
section
open Go.RowKit
def told (ns:List Nd) (x:ByteArray) (k:Nat):ByteArray:=x++⟨#[32]⟩++tt ns k
def msig (ns:List Nd) (k:Nat):ByteArray:=match ns[k]? with
 | some m=>(match m.kids with | j :: _=>told ns m.text j | []=>⟨#[]⟩)
 | none=>⟨#[]⟩
def told1 (ns:List Nd) (typ:ByteArray) (n:Nd):List ByteArray :=
 if n.kind=14 then (match n.kids with | a :: b :: _=>if tt ns a=typ then [told ns n.text b] else [] | _=>[])
 else if n.kind=12∧n.text=typ then n.kids.map (msig ns) else []
def toldAll (ns:List Nd) (typ:ByteArray):List ByteArray:=ns.flatMap (told1 ns typ)
def insAll (l:List ByteArray):List ByteArray:=l.foldl (fun o s=>insT s o) []
theorem insAll_snoc (l:List ByteArray) (s:ByteArray):insAll (l++[s])=insT s (insAll l):=by simp [insAll]
theorem insAll_len (l:List ByteArray):(insAll l).length=l.length:=by
 have:∀ (l acc:List ByteArray),(l.foldl (fun o s=>insT s o) acc).length=acc.length+l.length:=by
  intro l
  induction l with
  | nil=>intro acc;simp
  | cons x r ih=>intro acc;rw [List.foldl_cons,ih,insT_len];simp;omega
 have h:=this l []
 simpa [insAll] using h
theorem declGo_ge {kind:Int}{name:ByteArray}:∀ (l:List Nd) (i j:Nat) (n:Nd),l[j]? = some n→n.kind=kind→n.text=name→0≤declGo kind name l i
 | [],_,_,_,h,_,_=>by simp at h
 | m :: l,i,j,n,h,hk,hx=>by
  unfold declGo
  split
  ·omega
  ·rename_i hno
   cases j with
   | zero=>simp at h;subst h;exact absurd ⟨hk,hx⟩ hno
   | succ j=>simp at h;exact declGo_ge l (i+1) j n h hk hx
theorem declOf_ge {ns:List Nd}{kind:Int}{name:ByteArray}{k:Nat}{n:Nd}(h:ns[k]? = some n) (hk:n.kind=kind) (hx:n.text=name):0≤declOf ns kind name:=declGo_ge ns 0 k n h hk hx
theorem told_drop {ns:List Nd}{typ:ByteArray}{i:Nat}{n:Nd}(h:ns[i]? = some n):(ns.drop i).flatMap (told1 ns typ)=told1 ns typ n++(ns.drop (i+1)).flatMap (told1 ns typ):=by
 obtain⟨h1,h2⟩:=List.getElem?_eq_some_iff.1 h
 rw [List.drop_eq_getElem_cons h1,h2]
 rfl
theorem pre_len {p q l:List ByteArray}(h:p++q=l):p.length≤l.length:=by rw [← h];simp
structure NsOk (ns:List Nd):Prop where
 inv:Inv ns
 few:ns.length≤100000
 few2:ns.length≤1200
 wide:∀ n ∈ ns,n.kids.length≤1200
 texts:∀ n ∈ ns,n.text.size≤100000
 types:∀ j,j<ns.length→(tt ns j).size≤10000000
 tolds:∀ typ,(toldAll ns typ).length≤100000
theorem NsOk.text {ns:List Nd}(h:NsOk ns) {k:Nat}(hk:k<ns.length):TextAt ns k:=text_any h.inv h.few h.texts h.types k hk
set_option maxHeartbeats 16000000 in
set_option maxRecDepth 100000 in
theorem methods3_any {w:World}{B:Nat}{v:Value}{ns:List Nd}(h:NodesAt w B v ns) (hO:NsOk ns) (typ:ByteArray) :
  Calls Tryz.prog 9 #[v,.string typ] w fun e w'=>∃ v',e=.returned v'∧TxtsAt w' w.heap.size v' (insAll (toldAll ns typ))∧Below w.heap.size w w':=by
 obtain⟨va,vc,rfl⟩:=h.len
 have HN:=hide h
 have HO:=hide hO
 have hfew:=hO.few
 clear h hO
 go_enter Tryz.func9,Tryz.ntmps9
 go_wp2_with (go_at_call 10;refine (decl3_any (uh HN) hfew _ _).mono ?_;rintro e w1 ⟨rfl,hw1⟩;subst w1)
 go_loopg [5,7] ns.length (fun kx e5 e7 wr=>∃ (i:Nat) (p:List ByteArray),i≤ns.length∧kx=ns.length - i∧e7=.int .i64 (i:Int)∧Below w.heap.size w wr∧TxtsAt wr w.heap.size e5 (insAll p)∧Hid (p++(ns.drop i).flatMap (told1 ns typ)=toldAll ns typ))
 case atStart=>exact⟨0,[],Nat.zero_le _,rfl,rfl,Below.refl _ _,TxtsAt.nil _ _,by show _=_;simp [toldAll]⟩
 case round =>
  obtain⟨i,p,hi,rfl,rfl,hb,hP,HD⟩:=hrel
  obtain⟨wo,rfl⟩:∃ x,x=wr:=⟨wr,rfl⟩
  by_cases hlt:i<ns.length
  ·obtain⟨n,hk⟩:∃ n,ns[i]? = some n:=⟨_,List.getElem?_eq_getElem hlt⟩
   have hN2:=(uh HN).below hb
   obtain⟨g,kv,rfl,hg,c0,c1,c2,c3,c4,hI⟩:=hN2.at hk
   obtain⟨ka,kc,rfl⟩:=own_len hI
   have hz:(i:Int)<(ns.length:Int):=by omega
   have hgl:=World.block_lt_of_cell? _ _ c0
   simp only [] at hgl
   have hok:=(uh HO).inv i n hk
   have hnt:=(uh HO).texts n (List.mem_of_getElem? hk)
   have hdr:=told_drop (typ:=typ) hk
   have HE:Hid (p++(told1 ns typ n++(ns.drop (i+1)).flatMap (told1 ns typ))=toldAll ns typ):=by
    show _=_
    rw [← hdr]
    exact uh HD
   have hpl:(insAll p).length≤100000:=by
    rw [insAll_len]
    exact Nat.le_trans (pre_len (uh HD)) ((uh HO).tolds typ)
   clear hdr HD
   have hkn:n.kids.length≤9223372036854775807:=by
    rcases hI.2 with⟨_,h0⟩ | ⟨b,cap,cur,hv,hb,hh,hcap,hmax,_⟩
    ·omega
    ·unfold maxLen at hmax
     omega
   have HI:=hide hI
   have HN2:=hide hN2
   have HP:=hide hP
   clear hI hN2 hP
   have hsz:=hb.size
   by_cases h14:n.kind=14
   ·have hl3:=hok.meth h14
    obtain⟨a,b,c,hkids⟩:∃ a b c,n.kids = [a,b,c]:=by
     match hkk:n.kids with
     | [a,b,c]=>exact⟨a,b,c,rfl⟩
     | []=>rw [hkk] at hl3;simp at hl3
     | [_]=>rw [hkk] at hl3;simp at hl3
     | [_,_]=>rw [hkk] at hl3;simp at hl3
     | _ :: _ :: _ :: _ :: _=>rw [hkk] at hl3;simp at hl3
    have ha:a<ns.length:=Nat.lt_trans (hok.kids a (by simp [hkids])) hlt
    have hbb:b<ns.length:=Nat.lt_trans (hok.kids b (by simp [hkids])) hlt
    rw [hl3] at c4
    obtain⟨kg,hkg,_,hkl,q0⟩:=(uh HI).at (i:=0) (k:=a) (by simp [hkids])
    obtain⟨kg',hkg',_,hkl',q1⟩:=(uh HI).at (i:=1) (k:=b) (by simp [hkids])
    subst hkg
    simp only [Option.some.injEq,Addr.mk.injEq] at hkg'
    obtain⟨rfl,_,_⟩:=hkg'
    have HA:=hide ((uh HO).text ha)
    have HB:=hide ((uh HO).text hbb)
    have hsb:=(uh HO).types b hbb
    have s1:¬ 9223372036854775807<n.text.size+1:=by omega
    have s2:¬ 9223372036854775807<n.text.size+1+(tt ns b).size:=by omega
    have ht1:told1 ns typ n=if tt ns a=typ then [told ns n.text b] else []:=by unfold told1;rw [if_pos h14,hkids]
    rw [ht1] at HE
    clear ht1 hok hk
    rw [h14] at c0
    by_cases ht:tt ns a=typ
    ·have htl:(tt ns a).toList=typ.toList:=by rw [ht]
     have HE2:Hid ((p++[told ns n.text b])++(ns.drop (i+1)).flatMap (told1 ns typ)=toldAll ns typ):=by
      have:=uh HE
      rw [if_pos ht] at this
      show _=_
      rw [List.append_assoc]
      exact this
     clear HE
     go_wp2_with (first
      | (go_at_call 8;refine (uh HA _ _ _ ((uh HN2).below (blA _ _))).mono ?_;clear HA;rintro e w1 ⟨rfl,hb1⟩;have bn:=(BoxAt.made wo [.int .i64 14,.int .i64 n.pos,.int .i64 n.num,.string n.text,.slice (some ⟨kg,0,none⟩) 3 kc] 36).new hb1;obtain⟨n0,n1,n2,n3,n4,nf0,nf1,nf2,nf3,nf4,nl⟩:=bn5 bn;have hbx:=(blA wo _).trans (hb1.mono (by rw [szA];omega));have hq1:=(below_cell hbx hkl 1).trans q1)
      | (go_at_call 8;refine (uh HB _ _ _ ((uh HN2).below hbx)).mono ?_;clear HB;rintro e w2 ⟨rfl,hb2⟩;have bn':=bn.new hb2;obtain⟨m0,m1,m2,m3,m4,mf0,mf1,mf2,mf3,mf4,ml⟩:=bn5 bn';have hby:=hbx.trans (hb2.mono hbx.size))
      | (go_at_call 17;refine (put3_any (TxtsAt.below (uh HP) hby) hpl _).mono ?_;rintro e w3 ⟨v3,rfl,hT3,hb3⟩;have bn3:=bn'.new hb3;obtain⟨r0,r1,r2,r3,r4,rf0,rf1,rf2,rf3,rf4,rl⟩:=bn5 bn3))
     go_roundg (ns.length - (i+1))
     case measure=>omega
     case rel=>exact⟨i+1,p++[told ns n.text b],by omega,rfl,by first | rfl | simp,hb.trans ((hby.trans (hb3.mono hby.size)).mono hsz),by rw [insAll_snoc];exact own_lower hT3 (Nat.le_trans hsz hby.size),HE2⟩
    ·have htl:=str_ne ht
     have HE2:Hid (p++(ns.drop (i+1)).flatMap (told1 ns typ)=toldAll ns typ):=by
      have:=uh HE
      rw [if_neg ht] at this
      exact this
     clear HE
     go_wp2_with (first
      | (go_at_call 8;refine (uh HA _ _ _ ((uh HN2).below (blA _ _))).mono ?_;clear HA;rintro e w1 ⟨rfl,hb1⟩;have bn:=(BoxAt.made wo [.int .i64 14,.int .i64 n.pos,.int .i64 n.num,.string n.text,.slice (some ⟨kg,0,none⟩) 3 kc] 36).new hb1;obtain⟨n0,n1,n2,n3,n4,nf0,nf1,nf2,nf3,nf4,nl⟩:=bn5 bn;have hbx:=(blA wo _).trans (hb1.mono (by rw [szA];omega))))
     go_roundg (ns.length - (i+1))
     case measure=>omega
     case rel=>exact⟨i+1,p,by omega,rfl,by first | rfl | simp,hb.trans (hbx.mono hsz),TxtsAt.below (uh HP) hbx,HE2⟩
   ·have b14:=ne_b h14
    by_cases h12:n.kind=12
    ·by_cases hx:n.text=typ
     ·have hge:=declOf_ge hk h12 hx
      have HIF:=hide (hok.iface (Or.inr h12))
      have hxl:n.text.toList=typ.toList:=by rw [hx]
      have ht1:told1 ns typ n=n.kids.map (msig ns):=by unfold told1;rw [if_neg h14,if_pos ⟨h12,hx⟩]
      rw [ht1] at HE
      have HKD:=hide hok.kids
      clear ht1 hok hk b14 hx
      rw [h12] at c0
      go_wp2
      go_loopg [5,11] n.kids.length (fun kx e5 e11 wq=>∃ (j:Nat) (q:List ByteArray),j≤n.kids.length∧kx=n.kids.length - j∧e11=.int .i64 (j:Int)∧Below (wo.alloc (.cells #[.int .i64 12,.int .i64 n.pos,.int .i64 n.num,.string n.text,.slice ka n.kids.length kc] 36)).heap.size (wo.alloc (.cells #[.int .i64 12,.int .i64 n.pos,.int .i64 n.num,.string n.text,.slice ka n.kids.length kc] 36)) wq∧TxtsAt wq w.heap.size e5 (insAll q)∧Hid (q++((n.kids.drop j).map (msig ns)++(ns.drop (i+1)).flatMap (told1 ns typ))=toldAll ns typ))
      case atStart=>exact⟨0,p,Nat.zero_le _,rfl,rfl,Below.refl _ _,TxtsAt.below (uh HP) (blA _ _),HE⟩
      case round =>
       obtain⟨j,q,hj,rfl,rfl,hb1,hQ,HQ⟩:=hrel
       have bn:=(BoxAt.made wo [.int .i64 12,.int .i64 n.pos,.int .i64 n.num,.string n.text,.slice ka n.kids.length kc] 36).new hb1
       obtain⟨n0,n1,n2,n3,n4,nf0,nf1,nf2,nf3,nf4,nl⟩:=bn5 bn
       have hbx:=(blA wo _).trans (hb1.mono (by rw [szA];omega))
       have hql:(insAll q).length≤100000:=by
        rw [insAll_len]
        exact Nat.le_trans (pre_len (uh HQ)) ((uh HO).tolds typ)
       have hI2:=own_below (uh HI) hbx
       have hN3:=(uh HN2).below hbx
       by_cases hlj:j<n.kids.length
       ·obtain⟨a,hka⟩:∃ a,n.kids[j]? = some a:=⟨_,List.getElem?_eq_getElem hlj⟩
        obtain⟨m,hm,hml⟩:=uh HIF a (List.mem_of_getElem? hka)
        obtain⟨b,hmb⟩:∃ b,m.kids = [b]:=List.length_eq_one_iff.1 hml
        have hal:a<ns.length:=(List.getElem?_eq_some_iff.1 hm).1
        have hbl:b<ns.length:=Nat.lt_trans (((uh HO).inv a m hm).kids b (by simp [hmb])) hal
        obtain⟨kg,rfl,hkg,hkl,q0⟩:=Ints.at hI2 hka
        obtain⟨g',mv,hg',_,d0,d1,d2,d3,d4,hMI⟩:=hN3.at hm
        simp only [Option.some.injEq,Addr.mk.injEq] at hg'
        obtain⟨rfl,_,_⟩:=hg'
        obtain⟨ma,mc,rfl⟩:=own_len hMI
        obtain⟨mg,rfl,_,hmg,r0⟩:=Ints.at hMI (i:=0) (k:=b) (by simp [hmb])
        rw [hml] at d4
        have hzj:(j:Int)<(n.kids.length:Int):=by omega
        have hza:(a:Int)<(ns.length:Int):=by omega
        have HB:=hide ((uh HO).text hbl)
        have hsb:=(uh HO).types b hbl
        have hmt:=(uh HO).texts m (List.mem_of_getElem? hm)
        have s1:¬ 9223372036854775807<m.text.size+1:=by omega
        have s2:¬ 9223372036854775807<m.text.size+1+(tt ns b).size:=by omega
        have hms:msig ns a=told ns m.text b:=by unfold msig;rw [hm];simp only [];rw [hmb]
        have HQ2:Hid ((q++[told ns m.text b])++((n.kids.drop (j+1)).map (msig ns)++(ns.drop (i+1)).flatMap (told1 ns typ))=toldAll ns typ):=by
         have:=uh HQ
         obtain⟨h1,h2⟩:=List.getElem?_eq_some_iff.1 hka
         rw [List.drop_eq_getElem_cons h1,h2,List.map_cons,hms] at this
         show _=_
         rw [List.append_assoc]
         exact this
        have HN3:=hide hN3
        have HQT:=hide hQ
        clear HQ hms hka hm hMI hI2 hN3 hQ hmb
        go_wp2_with (first
         | (go_at_call 8;refine (uh HB _ _ _ ((uh HN3).below (blA _ _))).mono ?_;clear HB;rintro e w2 ⟨rfl,hb2⟩;have bm:=(BoxAt.made _ [.int .i64 m.kind,.int .i64 m.pos,.int .i64 m.num,.string m.text,.slice (some ⟨mg,0,none⟩) 1 mc] 36).new hb2;obtain⟨m0,m1,m2,m3,m4,mf0,mf1,mf2,mf3,mf4,ml⟩:=bn5 bm;have hby:=(blA _ _).trans (hb2.mono (by rw [szA];omega)))
         | (go_at_call 17;refine (put3_any (TxtsAt.below (uh HQT) hby) hql _).mono ?_;rintro e w3 ⟨v3,rfl,hT3,hb3⟩))
        go_roundg (n.kids.length - (j+1))
        case measure=>omega
        case rel=>exact⟨j+1,q++[told ns m.text b],by omega,rfl,by first | rfl | (simp;done) | (simp;unfold wrap64;omega),hb1.trans ((hby.trans (hb3.mono hby.size)).mono hb1.size),by rw [insAll_snoc];exact own_lower hT3 (by have:=hbx.size;have:=hby.size;omega),HQ2⟩
       ·have hzj:¬ (j:Int)<(n.kids.length:Int):=by omega
        obtain rfl:j=n.kids.length:=by omega
        have HQ2:Hid (q++(ns.drop (i+1)).flatMap (told1 ns typ)=toldAll ns typ):=by
         have:=uh HQ
         rw [List.drop_length] at this
         exact this
        go_wp2
        go_roundg (ns.length - (i+1))
        case measure=>omega
        case rel=>exact⟨i+1,q,by omega,rfl,by first | rfl | simp,hb.trans (hbx.mono hsz),hQ,HQ2⟩
     ·have hxl:=str_ne hx
      have HE2:Hid (p++(ns.drop (i+1)).flatMap (told1 ns typ)=toldAll ns typ):=by
       have:=uh HE
       have ht1:told1 ns typ n = []:=by unfold told1;rw [if_neg h14,if_neg (fun h=>hx h.2)]
       rw [ht1] at this
       exact this
      clear HE
      rw [h12] at c0
      by_cases hge:(0:Int)≤declOf ns 12 typ
      ·go_wp2
       go_roundg (ns.length - (i+1))
       case measure=>omega
       case rel=>exact⟨i+1,p,by omega,rfl,by first | rfl | simp,hb.trans ((blA _ _).mono hsz),TxtsAt.below (uh HP) (blA _ _),HE2⟩
      ·go_wp2
       go_roundg (ns.length - (i+1))
       case measure=>omega
       case rel=>exact⟨i+1,p,by omega,rfl,by first | rfl | simp,hb.trans ((blA _ _).mono hsz),TxtsAt.below (uh HP) (blA _ _),HE2⟩
    ·have b12:=ne_b h12
     have HE2:Hid (p++(ns.drop (i+1)).flatMap (told1 ns typ)=toldAll ns typ):=by
      have:=uh HE
      have ht1:told1 ns typ n = []:=by unfold told1;rw [if_neg h14,if_neg (fun h=>h12 h.1)]
      rw [ht1] at this
      exact this
     clear HE
     go_wp2
     go_roundg (ns.length - (i+1))
     case measure=>omega
     case rel=>exact⟨i+1,p,by omega,rfl,by first | rfl | simp,hb.trans ((blA _ _).mono hsz),TxtsAt.below (uh HP) (blA _ _),HE2⟩
  ·have hz:¬ (i:Int)<(ns.length:Int):=by omega
   obtain rfl:i=ns.length:=by omega
   have HR:Hid (p=toldAll ns typ):=by
    have:=uh HD
    rw [List.drop_length] at this
    show p=_
    simpa using this
   go_wp2
   go_returns
   exact⟨_,rfl,by rw [← uh HR];exact hP,hb⟩
end
section
open Go.RowKit
def xt (ns:List Nd) (k:Nat):ByteArray:=match ns[k]? with
 | some n=>if n.kind=7 then ⟨#[]⟩ else tt ns k
 | none=>⟨#[]⟩
theorem xt_nopar {ns:List Nd}{k:Nat}(h:NoPar ns k):xt ns k=tt ns k:=by
 obtain⟨m,hm,hk⟩:=h
 unfold xt
 rw [hm]
 simp [hk]
theorem xt_at {ns:List Nd}{k:Nat}{n:Nd}(h:ns[k]? = some n) (hk:n.kind≠7):xt ns k=tt ns k:=xt_nopar ⟨n,h,hk⟩
structure Tx (ns:List Nd) (k:Nat) (ts:List ByteArray):Prop where
 len:ts.length=ns.length
 at':∀ i,i<k→ts[i]? = some (xt ns i)
theorem tt_param {ns:List Nd}{k j:Nat}{n:Nd}(h:ns[k]? = some n) (h7:n.kind=7) (hj:n.kids = [j]) (hjk:j<k):tt ns k=tt ns j:=by
 rw [tt_at h]
 unfold textOf
 rw [if_neg (by omega),if_neg (by omega),if_neg (by omega),if_neg (by omega),if_neg (by omega),if_pos h7,hj]
 show ztt ns k j=_
 unfold ztt
 rw [if_pos hjk]
theorem bt3 {w:World}{k:Nat}{a b c:Value}{t:TypeId}(h:BoxAt w k [a,b,c] t):w.cell? ⟨k,0,none⟩=some a∧w.cell? ⟨k,1,none⟩=some b∧w.cell? ⟨k,2,none⟩=some c∧k<w.heap.size:=by
 have:=h.cell
 exact⟨this 0,this 1,this 2,h.lt⟩
section
variable {w:World}{B X:Nat}{nv xv mv:Value}{ns:List Nd}{ts:List ByteArray}
set_option maxHeartbeats 4000000 in
theorem typeOf_any (hN:NodesAt w B nv ns) (hX:TxtsAt w X xv ts) (hO:NsOk ns) (hK:InvK ns) {k j:Nat}(hj:j<k) (hk:k≤ns.length) (hT:Tx ns k ts) :
  Calls Tryz.prog 45 #[.agg #[nv,xv,mv],.int .i64 (j:Int)] w fun e w'=>e=.returned (.string (tt ns j))∧Below w.heap.size w w':=by
 obtain⟨va,vc,rfl⟩:=hN.len
 obtain⟨xa,xc,rfl⟩:=own_len hX
 have hfew:=hO.few
 have hjl:j<ns.length:=by omega
 obtain⟨n,hn⟩:∃ n,ns[j]? = some n:=⟨_,List.getElem?_eq_getElem hjl⟩
 obtain⟨g,kv,rfl,hg,c0,c1,c2,c3,c4,hI⟩:=hN.at hn
 obtain⟨ka,kc,rfl⟩:=own_len hI
 have hgl:=World.block_lt_of_cell? _ _ c0
 simp only [] at hgl
 have hz:(j:Int)<(ns.length:Int):=by omega
 rw [hT.len]
 have hzx:(j:Int)<(ns.length:Int):=hz
 by_cases h7:n.kind=7
 ·have hok:=hO.inv j n hn
  have hl1:=hok.one (Or.inr (Or.inl h7))
  obtain⟨a,ha⟩:∃ a,n.kids = [a]:=List.length_eq_one_iff.1 hl1
  have haj:a<j:=hok.kids a (by simp [ha])
  obtain⟨kg,rfl,_,hkl,q0⟩:=hI.at (i:=0) (k:=a) (by simp [ha])
  obtain⟨xg,rfl,_,hxl,x0⟩:=hX.at (hT.at' a (by omega))
  have hza:(a:Int)<(ns.length:Int):=by omega
  have hxa:=xt_nopar ((hK j n hn).kid (Or.inr (Or.inl h7)) a (by simp [ha]))
  rw [hxa] at x0
  have HR:=hide (tt_param hn h7 ha haj)
  rw [h7] at c0
  rw [hl1] at c4
  clear hN hX hO hK hT hn hI hok ha hxa
  go_enter Tryz.func45,Tryz.ntmps45
  go_wp2
  go_quiet (fail)
  go_wp2
  go_returns
  exact⟨by rw [uh HR];rfl,by (repeat (first | exact Below.refl _ _ | with_reducible assumption | (refine bset ?_ (by first | exact Nat.le_refl _ | (simp;done) | (simp;omega))) | refine bdrewN ?_ | refine bdrew ?_ | refine balloc ?_))⟩
 ·have b7:=ne_b h7
  obtain⟨xg,rfl,_,hxl,x0⟩:=hX.at (hT.at' j hj)
  rw [xt_at hn h7] at x0
  clear hN hX hO hK hT hn hI
  go_enter Tryz.func45,Tryz.ntmps45
  go_wp2
  go_returns
  exact⟨rfl,by (repeat (first | exact Below.refl _ _ | with_reducible assumption | (refine bset ?_ (by first | exact Nat.le_refl _ | (simp;done) | (simp;omega))) | refine bdrewN ?_ | refine bdrew ?_ | refine balloc ?_))⟩
end
end
end Go.Proofs.YtdemnolanlfblaaGreatDoor
