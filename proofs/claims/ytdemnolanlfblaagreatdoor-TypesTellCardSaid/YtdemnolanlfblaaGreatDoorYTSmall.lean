import Derived.Maps.AppendAt
import Derived.Maps.RangeWalk
import Derived.Maps.Views
import Derived.Deep.Upon
import Derived.Deep.AppendLies
import Derived.Test.YtdemnolanlfblaaGreatDoorYPTyp
import Derived.Test.YtdemnolanlfblaaGreatDoorYRMem
import Derived.Test.YtdemnolanlfblaaGreatDoorYPParse
import Derived.Test.YtdemnolanlfblaaGreatDoorYRTyp
import Derived.Test.YtdemnolanlfblaaGreatDoorYRShape
import Derived.Test.YtdemnolanlfblaaGreatDoorYRForest
set_option linter.all false
namespace Go.Proofs.YtdemnolanlfblaaGreatDoor
section
open Go.RowKit
def TxtsAt (w:World) (B:Nat) (v:Value) (xs:List ByteArray):Prop:=w.ownsRow B 9 1 v xs.length (xs.map Value.string)
theorem TxtsAt.below {w w':World}{B:Nat}{v:Value}{xs:List ByteArray}(h:TxtsAt w B v xs) (hb:Below w.heap.size w w'):TxtsAt w' B v xs:=own_below h hb
theorem TxtsAt.at {w:World}{B n0 cap:Nat}{a:Option Addr}{xs:List ByteArray}(h:TxtsAt w B (.slice a n0 cap) xs) {i:Nat}{x:ByteArray}(hk:xs[i]? = some x):∃ g,a=some ⟨g,0,none⟩∧B≤g∧g<w.heap.size∧w.cell? ⟨g,i,none⟩=some (.string x):=by
 have hlt:i<xs.length:=(List.getElem?_eq_some_iff.1 hk).1
 rcases h.2 with⟨_,h0⟩ | ⟨g,cap',cur,hv,hg,_⟩
 ·omega
 ·simp only [Value.slice.injEq] at hv
  obtain⟨rfl,rfl,rfl⟩:=hv
  have hc:=h.cells (g:=g) rfl
  have:=hc i (.string x) (by simp [hk])
  have h2:w.cell? ⟨g,i,none⟩=some (.string x):=by
   unfold Addr.add at this
   split at this
   ·rename_i h0
    rw [h0];exact this
   ·simpa using this
  exact⟨g,rfl,hg,World.block_lt_of_cell? w _ h2,h2⟩
theorem below_cell {W w1:World}{g:Nat}(hb:Below W.heap.size W w1) (h:g<W.heap.size) (j:Nat):w1.cell? ⟨g,j,none⟩=W.cell? ⟨g,j,none⟩:=hb.cell (p:=⟨g,j,none⟩) h
theorem TxtsAt.nil (w:World) (B:Nat):TxtsAt w B (.slice none 0 0) []:=World.ownsRow_nil _ _ _ _
theorem Tryz.infoStr:(Tryz.prog.info? 9).map (fun i=>(i.zero,i.size,i.bytes))=some (some (.string ⟨#[]⟩),1,16):=by kernel_rfl
theorem wpList_tapp {w:World}{ops:Array Oper}{rest:List Oper}{o:Oper}{a:Act}{Q:Exit→Act→World→Prop}
  (hg:o.guard=none) (s x:Operand) (hop:o.op=Op.call { callee:=Callee.builtin Builtin.append,args:=#[s,x],argTypes:=#[22,22] })
  (B:Nat) (v:Value) (xs:List ByteArray) (hs:a.eval s=v) (hI:TxtsAt w B v xs) (g:Nat) (t:ByteArray) (hx:a.eval x=.slice (some ⟨g,0,none⟩) 1 1) (hc:w.cell? ⟨g,0,none⟩=some (.string t))
  (hl:xs.length≤10000000) (hB:B≤w.heap.size)
  (hK:∀ v' w',TxtsAt w' B v' (xs++[t])→w.grownBy w' v.ownBlock→(v'.ownBlock=v.ownBlock∨v'.ownBlock=some w.heap.size)→wpList Tryz.prog ops Q rest (a.put o.dst v') w') :
  wpList Tryz.prog ops Q (o :: rest) a w:=by
 obtain⟨i0,hi0,hz0,hz1,hz2⟩:=info_parts Tryz.infoStr
 have hcells:∀ j u,[Value.string t][j]? = some u→w.cell? ((⟨g,0,none⟩:Addr).add j)=some u:=by
  intro j u hj
  match j,hj with
  | 0,hj=>simp at hj;subst hj;exact hc
 have hones:∀ u ∈ [Value.string t],u.oneCell'=true:=by
  intro u hu;simp at hu;subst hu;rfl
 refine wpList_append_own_at w hg s x 22 hop B 9 i0 _ 1 16 Tryz.underlying22 hi0 hz0 hz1 hz2 rfl (by decide) v xs.length (xs.map Value.string) hs hI ⟨g,0,none⟩ 1 1 [.string t] hx rfl hcells hones (by unfold maxLen;omega) (by omega) hB ?_
 intro v' w' h1 h2 _ h4
 refine hK v' w' ?_ h2 h4
 unfold TxtsAt
 simpa using h1
theorem below_grown {B:Nat}{w0 w w':World}{r:Option Nat}(hb:Below B w0 w) (hB:B≤w.heap.size) (hr:∀ k,r=some k→B≤k) (hg:w.grownBy w' r):Below B w0 w' :=
 ⟨hg.os.trans hb.os,hg.tape.trans hb.tape,hg.output.trans hb.output,Nat.le_trans hb.size hg.size,fun k hk=>(hg.block k (by omega) (fun e=>by have:=hr k e.symm;omega)).trans (hb.block k hk)⟩
theorem own_from {w:World}{B e z n:Nat}{v:Value}{xs:List Value}(h:w.ownsRow B e z v n xs):∀ k,v.ownBlock=some k→B≤k:=by
 intro k hk
 rcases h.2 with⟨hv,_⟩ | ⟨g,cap,cur,hv,hb,_⟩
 ·rw [hv] at hk;cases hk
 ·rw [hv] at hk
  simp [Value.ownBlock] at hk
  omega
theorem below_tapp {w0 w w':World}{o:Obj}{v:Value}{xs:List ByteArray}(hb:Below w0.heap.size w0 w) (hI:TxtsAt w w0.heap.size v xs) (hg:(w.alloc o).grownBy w' v.ownBlock):Below w0.heap.size w0 w' :=
 below_grown (balloc hb) (by rw [szA];have:=hb.size;omega) (own_from hI) hg
theorem BoxAt.grown {w w':World}{k:Nat}{c:List Value}{t:TypeId}{r:Option Nat}(h:BoxAt w k c t) (hg:w.grownBy w' r) (hr:r≠some k):BoxAt w' k c t:=by
 unfold BoxAt
 rw [hg.block k h.lt (fun e=>hr e.symm)]
 exact h
end
section
open Go.RowKit Go.Maps
def heldR (v:Value):Option (DataW Value × List MemPlace):=some (.held v,[])
theorem strKey:Keyed Tryz.prog 9:=string_keyed Tryz.underlying9
theorem keyOf_str (k:ByteArray) (h:k.size≤maxLen):keyOf Tryz.prog 9 (.string k)=some (.string k.data.toList):=by
 simp [keyOf,Tryz.underlying9,mapKey,h]
structure Ent where
 decl:Int
 fv:Value
 mv:Value
 tv:Value
 told:List ByteArray
def Ent.val (E:Ent):Value:=.agg #[.int .i64 E.decl,E.fv,E.mv,E.tv]
def Ent.zero:Ent:=⟨0,.slice none 0 0,.slice none 0 0,.slice none 0 0,[]⟩
def Ent.row (E:Ent):Nat→Value
 | 0=>E.fv
 | 1=>E.mv
 | _=>E.tv
theorem zeroEnt (w:World):(zeroValue 50).run Tryz.prog w=.ok Ent.zero.val w:=by kernel_rfl
def MemRow (w:World) (B L:Nat) (v:Value):Prop:=∃ n cs,w.ownsRow B 86 2 v n cs∧n≤L
structure EntAt (w:World) (B L:Nat) (E:Ent):Prop where
 f:MemRow w B L E.fv
 m:MemRow w B L E.mv
 t:TxtsAt w B E.tv E.told
 tl:E.told.length≤L
theorem EntAt.zero (w:World) (B L:Nat):EntAt w B L Ent.zero:=⟨⟨0,[],World.ownsRow_nil _ _ _ _,by omega⟩,⟨0,[],World.ownsRow_nil _ _ _ _,by omega⟩,TxtsAt.nil _ _,by simp [Ent.zero]⟩
structure TabAt (w:World) (B b n:Nat) (F:ByteArray→Ent):Prop where
 lt:b<B
 own:∃ D,w.ownsMap Tryz.prog 9 heldR b n D∧∀ k:ByteArray,k.size≤maxLen→D.atKey (.string k.data.toList) (.held Ent.zero.val)=.held (F k).val
 ents:∀ k,EntAt w B (1200 * n) (F k)
 apart:∀ k k' i i' g,i<3→i'<3→((F k).row i).ownBlock=some g→((F k').row i').ownBlock=some g→k=k'∧i=i'
theorem own_keep {w w':World}{B e z n:Nat}{v:Value}{xs:List Value}(h:w.ownsRow B e z v n xs) (hk:∀ g,v.ownBlock=some g→w'.heap[g]? = w.heap[g]?):w'.ownsRow B e z v n xs:=by
 refine⟨h.1,?_⟩
 rcases h.2 with h2 | ⟨g,cap,cur,hv,hg,hh,rr⟩
 ·exact Or.inl h2
 ·refine Or.inr ⟨g,cap,cur,hv,hg,?_,rr⟩
  rw [hk g (by rw [hv];rfl)]
  exact hh
theorem MemRow.keep {w w':World}{B L:Nat}{v:Value}(h:MemRow w B L v) (hk:∀ g,v.ownBlock=some g→w'.heap[g]? = w.heap[g]?):MemRow w' B L v:=by
 obtain⟨n,cs,h1,h2⟩:=h
 exact⟨n,cs,own_keep h1 hk,h2⟩
theorem EntAt.mono {w:World}{B L L':Nat}{E:Ent}(h:EntAt w B L E) (hL:L≤L'):EntAt w B L' E:=by
 obtain⟨n1,c1,f1,f2⟩:=h.f
 obtain⟨n2,c2,m1,m2⟩:=h.m
 exact⟨⟨n1,c1,f1,by omega⟩,⟨n2,c2,m1,by omega⟩,h.t,by have:=h.tl;omega⟩
theorem EntAt.keep {w w':World}{B L:Nat}{E:Ent}(h:EntAt w B L E) (hk:∀ i g,i<3→(E.row i).ownBlock=some g→w'.heap[g]? = w.heap[g]?):EntAt w' B L E :=
 ⟨h.f.keep (fun g hg=>hk 0 g (by omega) hg),h.m.keep (fun g hg=>hk 1 g (by omega) hg),own_keep h.t (fun g hg=>hk 2 g (by omega) hg),h.tl⟩
theorem EntAt.from {w:World}{B L:Nat}{E:Ent}(h:EntAt w B L E):∀ i g,i<3→(E.row i).ownBlock=some g→B≤g∧g<w.heap.size:=by
 intro i g hi hg
 obtain⟨n1,c1,f1,_⟩:=h.f
 obtain⟨n2,c2,f2,_⟩:=h.m
 match i,hi with
 | 0,_=>exact f1.lt g hg
 | 1,_=>exact f2.lt g hg
 | 2,_=>exact h.t.lt g hg
theorem TabAt.keep {w w':World}{B b n:Nat}{F:ByteArray→Ent}(h:TabAt w B b n F) (hk:∀ g,g<w.heap.size→w'.heap[g]? = w.heap[g]?):TabAt w' B b n F:=by
 obtain⟨D,⟨es,clock,hb,hF,hs,hD⟩,hat⟩:=h.own
 refine⟨h.lt,⟨D,⟨es,clock,?_,hF,hs,hD⟩,hat⟩,fun k=>(h.ents k).keep fun i g hi hg=>hk g ((h.ents k).from i g hi hg).2,h.apart⟩
 rw [hk b (Array.getElem?_eq_some_iff.1 hb).1]
 exact hb
theorem TabAt.below {w w':World}{B b n:Nat}{F:ByteArray→Ent}(h:TabAt w B b n F) (hb:Below w.heap.size w w'):TabAt w' B b n F:=h.keep fun g hg=>hb.block g hg
theorem TabAt.mono {w:World}{B b n n':Nat}{F:ByteArray→Ent}(h:TabAt w B b n F) (hn:n≤n'):TabAt w B b n' F:=by
 obtain⟨D,h1,h2⟩:=h.own
 exact⟨h.lt,⟨D,h1.mono hn,h2⟩,fun k=>(h.ents k).mono (Nat.mul_le_mul_left _ hn),h.apart⟩
theorem TabAt.look {w:World}{B b n:Nat}{F:ByteArray→Ent}(h:TabAt w B b n F) {k:ByteArray}(hk:k.size≤maxLen):(Instr.lookup 43 (.map (some b)) (.string k) false).run Tryz.prog w=.ok (F k).val w:=by
 obtain⟨D,h1,h2⟩:=h.own
 obtain⟨v,ps,hrun,hv⟩:=h1.lookup strKey Tryz.underlying43 (zeroEnt w) (zd:=.held Ent.zero.val) (zp:=[]) rfl (keyOf_str k hk)
 rw [h2 k hk] at hv
 simp only [heldR,Option.some.injEq,Prod.mk.injEq,DataW.held.injEq] at hv
 rw [hrun,hv.1]
def setF (F:ByteArray→Ent) (k:ByteArray) (E:Ent):ByteArray→Ent:=fun x=>if x=k then E else F x
theorem TabAt.store {w w1:World}{B b n:Nat}{F:ByteArray→Ent}(h:TabAt w B b n F) (hn:n<maxLen) {k:ByteArray}(hk:k.size≤maxLen) {E:Ent}
  (hkeep:∀ j,j<w.heap.size→(∀ i,i<3→((F k).row i).ownBlock≠some j)→w1.heap[j]? = w.heap[j]?) (hE:EntAt w1 B (1200 * (n+1)) E)
  (hloc:∀ i g,i<3→(E.row i).ownBlock=some g→((F k).row i).ownBlock=some g∨w.heap.size≤g)
  (hap:∀ i i' g,i<3→i'<3→(E.row i).ownBlock=some g→(E.row i').ownBlock=some g→i=i') :
  ∃ w2,(Instr.mapUpdate 43 (.map (some b)) (.string k) E.val).run Tryz.prog w1=.ok () w2∧TabAt w2 B b (n+1) (setF F k E)∧w1.grownBy w2 (some b):=by
 obtain⟨D,⟨es,clock,hb,hF,hs,hD⟩,hat⟩:=h.own
 have hbl:b<w.heap.size:=(Array.getElem?_eq_some_iff.1 hb).1
 have hrow:∀ x i,i<3→((F x).row i).ownBlock≠some b:=by
  intro x i hi e
  have:=(h.ents x).from i b hi e
  have:=h.lt
  omega
 have hb1:w1.heap[b]? = some (.map es clock):=by
  rw [hkeep b hbl (fun i hi=>hrow k i hi)]
  exact hb
 have hown1:w1.ownsMap Tryz.prog 9 heldR b n D:=⟨es,clock,hb1,hF,hs,hD⟩
 obtain⟨w2,hrun,hown2,hg⟩:=hown1.update strKey Tryz.underlying43 hn (keyOf_str k hk) (val:=E.val) (d:=.held E.val) (ps:=[]) rfl
 have hEb:∀ i,i<3→(E.row i).ownBlock≠some b:=by
  intro i hi e
  have:=hE.from i b hi e
  have:=h.lt
  omega
 refine⟨w2,hrun,⟨h.lt,⟨_,hown2,fun x hx=>?_⟩,fun x=>?_,fun x x' i i' g hi hi' e1 e2=>?_⟩,hg⟩
 ·unfold setF
  by_cases hxk:x=k
  ·rw [if_pos hxk,hxk]
   exact atKey_put_same ((hown1.tidy strKey).isMap) (strKey.key (keyOf_str k hk)) _ _
  ·rw [if_neg hxk,atKey_put_other]
   ·exact hat x hx
   ·intro e
    simp only [Lit.string.injEq] at e
    apply hxk
    have:x.data=k.data:=by
     have:=congrArg List.toArray e
     simpa using this
    cases x;cases k
    simp only at this
    rw [this]
 ·unfold setF
  by_cases hxk:x=k
  ·rw [if_pos hxk]
   refine hE.keep fun i g hi hg'=>?_
   exact hg.block g (hE.from i g hi hg').2 (fun e=>hEb i hi (by rw [hg',← e]))
  ·rw [if_neg hxk]
   refine ((h.ents x).mono (Nat.mul_le_mul_left _ (Nat.le_succ n))).keep fun i g hi hg'=>?_
   have hgl:=((h.ents x).from i g hi hg').2
   have h1:w1.heap[g]? = w.heap[g]?:=hkeep g hgl fun i' hi' e=>hxk (h.apart x k i i' g hi hi' hg' e).1
   have hl1:g<w1.heap.size:=by
    have:w.heap[g]? = some w.heap[g]:=Array.getElem?_eq_getElem hgl
    rw [this] at h1
    exact (Array.getElem?_eq_some_iff.1 h1).1
   rw [hg.block g hl1 (fun e=>hrow x i hi (by rw [hg',← e]))]
   exact h1
 ·unfold setF at e1 e2
  by_cases hx:x=k
  ·by_cases hx':x'=k
   ·rw [if_pos hx] at e1
    rw [if_pos hx'] at e2
    exact⟨hx.trans hx'.symm,hap i i' g hi hi' e1 e2⟩
   ·rw [if_pos hx] at e1
    rw [if_neg hx'] at e2
    rcases hloc i g hi e1 with h1 | h1
    ·have:=(h.apart k x' i i' g hi hi' h1 e2).1
     exact absurd this.symm hx'
    ·have:=((h.ents x').from i' g hi' e2).2
     omega
  ·by_cases hx':x'=k
   ·rw [if_neg hx] at e1
    rw [if_pos hx'] at e2
    rcases hloc i' g hi' e2 with h1 | h1
    ·have:=(h.apart x k i i' g hi hi' e1 h1).1
     exact absurd this hx
    ·have:=((h.ents x).from i g hi e1).2
     omega
   ·rw [if_neg hx] at e1
    rw [if_neg hx'] at e2
    exact h.apart x x' i i' g hi hi' e1 e2
theorem TabAt.made (w:World):TabAt (w.alloc (.map #[] 0)) (w.heap.size+1) w.heap.size 0 (fun _=>Ent.zero) :=
 ⟨by omega,⟨.map [],World.ownsMap_made w _ _ _,fun _ _=>rfl⟩,fun _=>EntAt.zero _ _ _,fun k k' i i' g hi hi' e1 _=>by
  match i,hi with
  | 0,_=>cases e1
  | 1,_=>cases e1
  | 2,_=>cases e1⟩
theorem TabAt.raise {w:World}{B B' b n:Nat}{F:ByteArray→Ent}(h:TabAt w B b n F) (hB:B≤B') (hz:∀ k,F k=Ent.zero):TabAt w B' b n F :=
 ⟨Nat.lt_of_lt_of_le h.lt hB,h.own,fun k=>by rw [hz k];exact EntAt.zero _ _ _,h.apart⟩
end
section
open Go.RowKit
def mcells (ms:List (ByteArray × Nat)):List Value:=ms.flatMap fun m=>[.string m.1,.int .i64 (m.2:Int)]
def MemsAt (w:World) (X:Nat) (v:Value) (ms:List (ByteArray × Nat)):Prop:=w.ownsRow X 86 2 v ms.length (mcells ms)
theorem mcells_len:∀ ms:List (ByteArray × Nat),(mcells ms).length=ms.length * 2
 | []=>rfl
 | m :: ms=>by
  show ([Value.string m.1,.int .i64 (m.2:Int)]++mcells ms).length=_
  rw [List.length_append,mcells_len ms]
  simp
  omega
theorem mcells_one (ms:List (ByteArray × Nat)):∀ u ∈ mcells ms,u.oneCell'=true:=by
 intro u hu
 unfold mcells at hu
 obtain⟨m,_,hm⟩:=List.mem_flatMap.1 hu
 simp at hm
 rcases hm with rfl | rfl <;> rfl
theorem mcells_at:∀ (ms:List (ByteArray × Nat)) (i:Nat) (m:ByteArray × Nat),ms[i]? = some m→(mcells ms)[i * 2]? = some (.string m.1)∧(mcells ms)[i * 2+1]? = some (.int .i64 (m.2:Int))
 | [],_,_,h=>by simp at h
 | x :: ms,0,m,h=>by
  simp at h
  subst h
  exact⟨rfl,rfl⟩
 | x :: ms,i+1,m,h=>by
  simp at h
  obtain⟨h1,h2⟩:=mcells_at ms i m h
  have e:mcells (x :: ms) = [Value.string x.1,.int .i64 (x.2:Int)]++mcells ms:=rfl
  rw [e]
  constructor
  ·rw [List.getElem?_append_right (by simp;omega)]
   have:(i+1) * 2 - [Value.string x.1,Value.int .i64 (x.2:Int)].length=i * 2:=by simp;omega
   rw [this];exact h1
  ·rw [List.getElem?_append_right (by simp;omega)]
   have:(i+1) * 2+1 - [Value.string x.1,Value.int .i64 (x.2:Int)].length=i * 2+1:=by simp;omega
   rw [this];exact h2
theorem MemsAt.nil (w:World) (X:Nat):MemsAt w X (.slice none 0 0) []:=World.ownsRow_nil _ _ _ _
theorem MemsAt.below {w w':World}{X:Nat}{v:Value}{ms:List (ByteArray × Nat)}(h:MemsAt w X v ms) (hb:Below w.heap.size w w'):MemsAt w' X v ms:=own_below h hb
theorem MemsAt.at {w:World}{X n0 cap:Nat}{a:Option Addr}{ms:List (ByteArray × Nat)}(h:MemsAt w X (.slice a n0 cap) ms) {i:Nat}{m:ByteArray × Nat}(hk:ms[i]? = some m):∃ g,a=some ⟨g,0,none⟩∧X≤g∧g<w.heap.size∧w.cell? ⟨g,i * 2,none⟩=some (.string m.1)∧w.cell? ⟨g,i * 2+1,none⟩=some (.int .i64 (m.2:Int)):=by
 have hlt:i<ms.length:=(List.getElem?_eq_some_iff.1 hk).1
 rcases h.2 with⟨_,h0⟩ | ⟨g,cap',cur,hv,hg,_⟩
 ·omega
 ·simp only [Value.slice.injEq] at hv
  obtain⟨rfl,rfl,rfl⟩:=hv
  have hc:=h.cells (g:=g) rfl
  obtain⟨e1,e2⟩:=mcells_at ms i m hk
  have hx:∀ j u,(mcells ms)[j]? = some u→w.cell? ⟨g,j,none⟩=some u:=by
   intro j u hu
   have:=hc j u hu
   unfold Addr.add at this
   split at this
   ·rename_i h0
    rw [h0];exact this
   ·simpa using this
  exact⟨g,rfl,hg,World.block_lt_of_cell? w _ (hx _ _ e1),hx _ _ e1,hx _ _ e2⟩
theorem Tryz.infoMem:(Tryz.prog.info? 86).map (fun i=>(i.zero,i.size,i.bytes))=some (some (.agg #[.string ⟨#[]⟩,.int .i64 0]),2,24):=by kernel_rfl
theorem wpList_mapp {w:World}{ops:Array Oper}{rest:List Oper}{o:Oper}{a:Act}{Q:Exit→Act→World→Prop}
  (hg:o.guard=none) (s x:Operand) (hop:o.op=Op.call { callee:=Callee.builtin Builtin.append,args:=#[s,x],argTypes:=#[48,48] })
  (B:Nat) (v:Value) (hs:a.eval s=v) {n:Nat}{cs:List Value} (hI:w.ownsRow B 86 2 v n cs) (hn:n≤10000000) (X:Nat) (xv:Value) (hx:a.eval x=xv) {ms:List (ByteArray × Nat)} (hM:MemsAt w X xv ms) (hm:ms.length≤1000000) (hB:B≤w.heap.size)
  (hK:∀ v' w',w'.ownsRow B 86 2 v' (n+ms.length) (cs++mcells ms)→w.grownBy w' v.ownBlock→(v'.ownBlock=v.ownBlock∨v'.ownBlock=some w.heap.size)→wpList Tryz.prog ops Q rest (a.put o.dst v') w') :
  wpList Tryz.prog ops Q (o :: rest) a w:=by
 obtain⟨i0,hi0,hz0,hz1,hz2⟩:=info_parts Tryz.infoMem
 rcases hM.2 with⟨hv,h0⟩ | ⟨g,cap,cur,hv,hb,hh,hcap,hmax,hcs,htk⟩
 ·have hms:ms = []:=List.length_eq_zero_iff.1 h0
  subst hms
  obtain⟨va,vc,hvv⟩:=own_len hI
  have hle:n≤vc:=by
   rcases hI.2 with⟨h1,h2⟩ | ⟨g,cap,cur,h1,_,_,h3,_⟩
   ·omega
   ·rw [hvv] at h1
    simp only [Value.slice.injEq] at h1
    omega
  refine wpList_plain hg fun K hK'=>?_
  unfold Oper.wp execOp
  have hr:=run_append_nothing (P:=Tryz.prog) w 48 48 o.type 86 i0 Tryz.underlying48 hi0 va n vc hle (.slice none 0 0) ⟨Or.inl ⟨_,Tryz.underlying48⟩,fun w'=>by simp [Builtin.lenOf],by simp [Builtin.firstCells,loadCells,loadCellsFrom],by simp [Builtin.firstCells,loadCells,loadCellsFrom],by simp,by intro u hu;cases hu⟩
  simp only [hop,resolve,invoke,builtin,Sem.run_bind,Sem.run_pure,Result.andThen_ok,List.map_toArray,List.map_cons,List.map_nil,hs,hx,hv,hvv,hr]
  rw [← hvv]
  exact hK' _ _ (hK v w (by simpa [mcells] using hI) ⟨rfl,rfl,rfl,Nat.le_refl _,fun _ _ _=>rfl⟩ (Or.inl rfl))
 ·have hcells:∀ j u,(mcells ms)[j]? = some u→w.cell? ((⟨g,0,none⟩:Addr).add j)=some u:=World.ownsRow.cells hM (by rw [hv];rfl)
  refine wpList_append_own_at w hg s x 48 hop B 86 i0 _ 2 24 Tryz.underlying48 hi0 hz0 hz1 hz2 rfl (by decide) v n cs hs hI ⟨g,0,none⟩ ms.length cap (mcells ms) (hx.trans hv) (mcells_len ms) hcells (mcells_one ms) (by unfold maxLen;omega) (by omega) hB ?_
  intro v' w' h1 h2 _ h4
  exact hK v' w' h1 h2 h4
def Ent.set (E:Ent) (i:Nat) (v:Value) (l:List ByteArray):Ent:=match i with
 | 0=>{ E with fv:=v }
 | 1=>{ E with mv:=v }
 | _=>{ E with tv:=v,told:=l }
structure AddSt (w0:World) (B L:Nat) (E0:Ent) (a c:List Value) (E:Ent) (w:World):Prop where
 grow:w0.heap.size+3≤w.heap.size
 os:w.os=w0.os
 tape:w.tape=w0.tape
 output:w.output=w0.output
 keep:∀ j,j<w0.heap.size→(∀ i,i<3→(E0.row i).ownBlock≠some j)→w.heap[j]? = w0.heap[j]?
 box1:BoxAt w w0.heap.size a 45
 box2:BoxAt w (w0.heap.size+1) c 50
 box3:BoxAt w (w0.heap.size+1+1) [.int .i64 E.decl,E.fv,E.mv,E.tv] 50
 ent:EntAt w B L E
 loc:∀ i g,i<3→(E.row i).ownBlock=some g→(E0.row i).ownBlock=some g∨w0.heap.size+3≤g
 ap:∀ i i' g,i<3→i'<3→(E.row i).ownBlock=some g→(E.row i').ownBlock=some g→i=i'
section
variable {w0 w w':World}{B L L0:Nat}{E0 E:Ent}{a c:List Value}
theorem AddSt.new (h:AddSt w0 B L E0 a c E w) (hb:Below w.heap.size w w'):AddSt w0 B L E0 a c E w':=by
 have h1:=hb.size
 have h2:=h.grow
 exact⟨by omega,hb.os.trans h.os,hb.tape.trans h.tape,hb.output.trans h.output,fun j hj hr=>by rw [hb.block j (by omega)];exact h.keep j hj hr,h.box1.new hb,h.box2.new hb,h.box3.new hb,h.ent.keep fun i g hi hg=>hb.block g (h.ent.from i g hi hg).2,h.loc,h.ap⟩
theorem AddSt.row_old (h:AddSt w0 B L E0 a c E w) (hE0:EntAt w0 B L0 E0) {i g:Nat}(hi:i<3) (hg:(E.row i).ownBlock=some g):g<w0.heap.size∨w0.heap.size+3≤g:=by
 rcases h.loc i g hi hg with h1 | h1
 ·exact Or.inl (hE0.from i g hi h1).2
 ·exact Or.inr h1
theorem AddSt.ne_box (h:AddSt w0 B L E0 a c E w) (hE0:EntAt w0 B L0 E0) {i:Nat}(hi:i<3) {k:Nat}(hk:w0.heap.size≤k) (hk2:k<w0.heap.size+3):(E.row i).ownBlock≠some k:=fun e=>by
 have:=h.row_old hE0 hi e
 omega
theorem AddSt.app (h:AddSt w0 B L E0 a c E w) (hE0:EntAt w0 B L0 E0) {i:Nat}(hi:i<3) {v':Value}{l:List ByteArray}(hg:w.grownBy w' (E.row i).ownBlock) (hv:v'.ownBlock=(E.row i).ownBlock∨∀ g,v'.ownBlock=some g→w.heap.size≤g)
  (hM:i<2→MemRow w' B L v') (hT:i=2→TxtsAt w' B v' l∧l.length≤L):AddSt w0 B L E0 a c (E.set i v' l) (w'.setCell ⟨w0.heap.size+1+1,i+1,none⟩ v'):=by
 have hgr:=h.grow
 have hgs:=hg.size
 have hrowv:∀ g,v'.ownBlock=some g→(E.row i).ownBlock=some g∨w.heap.size≤g:=by
  intro g hgg
  rcases hv with e | e
  ·exact Or.inl (by rw [← e];exact hgg)
  ·exact Or.inr (e g hgg)
 have hrow:∀ j,j<3→(E.set i v' l).row j=if j=i then v' else E.row j:=by
  intro j hj
  match i,hi,j,hj with
  | 0,_,0,_=>rfl
  | 0,_,1,_=>rfl
  | 0,_,2,_=>rfl
  | 1,_,0,_=>rfl
  | 1,_,1,_=>rfl
  | 1,_,2,_=>rfl
  | 2,_,0,_=>rfl
  | 2,_,1,_=>rfl
  | 2,_,2,_=>rfl
 have hvne:∀ k,w0.heap.size≤k→k<w0.heap.size+3→v'.ownBlock≠some k:=by
  intro k h1 h2 e
  rcases hrowv k e with h3 | h3
  ·exact h.ne_box hE0 hi h1 h2 h3
  ·omega
 have hkeepRow:∀ j,j<3→j≠i→∀ g,(E.row j).ownBlock=some g→w'.heap[g]? = w.heap[g]?:=by
  intro j hj hji g hgg
  exact hg.block g (h.ent.from j g hj hgg).2 (fun e=>hji (h.ap j i g hj hi hgg e.symm))
 have hset:∀ g,g≠w0.heap.size+1+1→(w'.setCell ⟨w0.heap.size+1+1,i+1,none⟩ v').heap[g]? = w'.heap[g]?:=fun g hgne=>Below.heap_setCell _ _ _ _ (fun e=>hgne (by first | exact e | exact e.symm))
 have hb3:=(h.box3.grown hg (h.ne_box hE0 hi (k:=w0.heap.size+1+1) (by omega) (by omega))).set (j:=i+1) v'
 refine⟨?_,hg.os.trans h.os,hg.tape.trans h.tape,hg.output.trans h.output,?_,?_,?_,?_,?_,?_,?_⟩
 ·have:(w'.setCell ⟨w0.heap.size+1+1,i+1,none⟩ v').heap.size=w'.heap.size:=size_set _ _ _
  omega
 ·intro j hj hr
  rw [hset j (by omega)]
  have hne:some j≠(E.row i).ownBlock:=by
   intro e
   rcases h.loc i j hi e.symm with h1 | h1
   ·exact hr i hi h1
   ·omega
  rw [hg.block j (by omega) hne]
  exact h.keep j hj hr
 ·exact (h.box1.grown hg (h.ne_box hE0 hi (Nat.le_refl _) (by omega))).setOther (by show w0.heap.size≠w0.heap.size+1+1;omega) v'
 ·exact (h.box2.grown hg (h.ne_box hE0 hi (k:=w0.heap.size+1) (by omega) (by omega))).setOther (by show w0.heap.size+1≠w0.heap.size+1+1;omega) v'
 ·match i,hi,hb3 with
  | 0,_,hb3=>exact hb3
  | 1,_,hb3=>exact hb3
  | 2,_,hb3=>exact hb3
 ·have hA:EntAt w' B L (E.set i v' l):=by
   have k0:=h.ent.f.keep (w':=w')
   have k1:=h.ent.m.keep (w':=w')
   match i,hi,hM,hT,hkeepRow with
   | 0,_,hM,_,hk=>exact⟨hM (by omega),k1 (hk 1 (by omega) (by omega)),own_keep h.ent.t (hk 2 (by omega) (by omega)),h.ent.tl⟩
   | 1,_,hM,_,hk=>exact⟨k0 (hk 0 (by omega) (by omega)),hM (by omega),own_keep h.ent.t (hk 2 (by omega) (by omega)),h.ent.tl⟩
   | 2,_,_,hT,hk=>exact⟨k0 (hk 0 (by omega) (by omega)),k1 (hk 1 (by omega) (by omega)),(hT rfl).1,(hT rfl).2⟩
  refine hA.keep fun j g hj hgg=>hset g ?_
  rw [hrow j hj] at hgg
  intro e
  subst e
  by_cases hji:j=i
  ·rw [if_pos hji] at hgg
   exact hvne _ (by omega) (by omega) hgg
  ·rw [if_neg hji] at hgg
   exact h.ne_box hE0 hj (by omega) (by omega) hgg
 ·intro j g hj hgg
  rw [hrow j hj] at hgg
  by_cases hji:j=i
  ·rw [if_pos hji] at hgg
   subst hji
   rcases hrowv g hgg with h1 | h1
   ·exact h.loc j g hj h1
   ·exact Or.inr (by omega)
  ·rw [if_neg hji] at hgg
   exact h.loc j g hj hgg
 ·intro j j' g hj hj' e1 e2
  rw [hrow j hj] at e1
  rw [hrow j' hj'] at e2
  by_cases hji:j=i
  ·by_cases hji':j'=i
   ·omega
   ·rw [if_pos hji] at e1
    rw [if_neg hji'] at e2
    rcases hrowv g e1 with h1 | h1
    ·have:=h.ap i j' g hi hj' h1 e2
     omega
    ·have:=(h.ent.from j' g hj' e2).2
     omega
  ·by_cases hji':j'=i
   ·rw [if_neg hji] at e1
    rw [if_pos hji'] at e2
    rcases hrowv g e2 with h1 | h1
    ·have:=h.ap j i g hj hi e1 h1
     omega
    ·have:=(h.ent.from j g hj e1).2
     omega
   ·rw [if_neg hji] at e1
    rw [if_neg hji'] at e2
    exact h.ap j j' g hj hj' e1 e2
end
end
section
open Go.RowKit
def lessB (a b:ByteArray):Bool:=Op.bytesLess a.toList b.toList
def insT (s:ByteArray):List ByteArray→List ByteArray
 | []=>[s]
 | x :: r=>if lessB s x=true then s :: x :: r else x :: insT s r
theorem insT_len (s:ByteArray):∀ xs,(insT s xs).length=xs.length+1
 | []=>rfl
 | x :: r=>by
  unfold insT
  split
  ·rfl
  ·simp [insT_len s r]
def restT (s:ByteArray) (d:Bool) (xs:List ByteArray):List ByteArray:=if d=true then xs else insT s xs
theorem restT_yes {s x:ByteArray}{xs:List ByteArray}{i:Nat}(h:xs[i]? = some x) (hl:lessB s x=true):restT s false (xs.drop i)=s :: x :: restT s true (xs.drop (i+1)):=by
 obtain⟨h1,h2⟩:=List.getElem?_eq_some_iff.1 h
 rw [List.drop_eq_getElem_cons h1,h2]
 simp [restT,insT,hl]
theorem restT_no {s x:ByteArray}{xs:List ByteArray}{i:Nat}(h:xs[i]? = some x) (hl:lessB s x=false):restT s false (xs.drop i)=x :: restT s false (xs.drop (i+1)):=by
 obtain⟨h1,h2⟩:=List.getElem?_eq_some_iff.1 h
 rw [List.drop_eq_getElem_cons h1,h2]
 simp [restT,insT,hl]
theorem restT_done {s x:ByteArray}{xs:List ByteArray}{i:Nat}(h:xs[i]? = some x):restT s true (xs.drop i)=x :: restT s true (xs.drop (i+1)):=by
 obtain⟨h1,h2⟩:=List.getElem?_eq_some_iff.1 h
 rw [List.drop_eq_getElem_cons h1,h2]
 simp [restT]
set_option maxHeartbeats 4000000 in
theorem put3_any {w:World}{B:Nat}{v:Value}{xs:List ByteArray}(h:TxtsAt w B v xs) (hn:xs.length≤100000) (s:ByteArray) :
  Calls Tryz.prog 17 #[v,.string s] w fun e w'=>∃ v',e=.returned v'∧TxtsAt w' w.heap.size v' (insT s xs)∧Below w.heap.size w w':=by
 obtain⟨va,vc,rfl⟩:=own_len h
 have HX:=hide h
 clear h
 go_enter Tryz.func17,Tryz.ntmps17
 go_wp2
 go_loopg [5,6,7] xs.length (fun k e5 e6 e7 wr=>∃ (i:Nat) (os:List ByteArray) (d:Bool),i≤xs.length∧k=xs.length - i∧e6=.bool d∧e7=.int .i64 (i:Int)∧Below w.heap.size w wr∧TxtsAt wr w.heap.size e5 os∧os.length≤i+d.toNat∧Hid (insT s xs=os++restT s d (xs.drop i)))
 case atStart=>exact⟨0,[],false,Nat.zero_le _,rfl,rfl,rfl,Below.refl _ _,TxtsAt.nil _ _,by simp,by show _=_;simp [restT]⟩
 case round =>
  obtain⟨i,os,d,hi,rfl,rfl,rfl,hb,hO,hol,HD⟩:=hrel
  have hsz:=hb.size
  have hdn:d.toNat≤1:=by cases d <;> decide
  by_cases hlt:i<xs.length
  ·obtain⟨x,hkx⟩:∃ x,xs[i]? = some x:=⟨_,List.getElem?_eq_getElem hlt⟩
   obtain⟨g,rfl,hg,hgl,c0⟩:=((uh HX).below hb).at hkx
   have hz:(i:Int)<(xs.length:Int):=by omega
   have HK:=hide hkx
   clear hkx
   cases d with
   | false =>
    simp only [Bool.toNat_false,Nat.add_zero] at hol
    cases hl:lessB s x with
    | true =>
     have HR:Hid (insT s xs=(os++[s]++[x])++restT s true (xs.drop (i+1))):=by
      have:=uh HD
      rw [restT_yes (uh HK) hl] at this
      show _=_
      rw [this]
      simp
     have hlb:Op.bytesLess s.toList x.toList=true:=hl
     clear HD hl
     go_wp2_with (first
      | (at_builtin;refine wpList_tapp rfl (.tmp 24) (.tmp 26) rfl w.heap.size _ os rfl (World.ownsRow.alloc hO _) _ s rfl (by simp [go_sem]) (by omega) (by rw [szA];omega) ?_;intro v5 w5 hO5 hg5 hv5;replace hb:=below_tapp hb hO hg5;clear c0 hgl;obtain⟨g2,hg2,_,hgl,c0⟩:=((uh HX).below hb).at (uh HK);cases hg2;clear hO hg5 hv5 hsz;have hsz:=hb.size)
      | (at_builtin;refine wpList_tapp rfl (.tmp 28) (.tmp 33) rfl w.heap.size _ _ rfl (World.ownsRow.alloc hO5 _) _ x rfl (by simp [go_sem]) (by simp;omega) (by rw [szA];omega) ?_;intro v6 w6 hO6 hg6 hv6;replace hb:=below_tapp hb hO5 hg6))
     go_roundg (xs.length - (i+1))
     case measure=>omega
     case rel=>exact⟨i+1,_,true,by omega,rfl,rfl,by first | rfl | simp,hb,hO6,by simp <;> omega,HR⟩
    | false =>
     have HR:Hid (insT s xs=(os++[x])++restT s false (xs.drop (i+1))):=by
      have:=uh HD
      rw [restT_no (uh HK) hl] at this
      show _=_
      rw [this]
      simp
     have hlb:Op.bytesLess s.toList x.toList=false:=hl
     clear HD hl
     go_wp2_with (first
      | (at_builtin;refine wpList_tapp rfl (.tmp 28) (.tmp 33) rfl w.heap.size _ _ rfl (World.ownsRow.alloc hO _) _ x rfl (by simp [go_sem]) (by omega) (by rw [szA];omega) ?_;intro v6 w6 hO6 hg6 hv6;replace hb:=below_tapp hb hO hg6))
     go_roundg (xs.length - (i+1))
     case measure=>omega
     case rel=>exact⟨i+1,_,false,by omega,rfl,rfl,by first | rfl | simp,hb,hO6,by simp <;> omega,HR⟩
   | true =>
    simp only [Bool.toNat_true] at hol
    have HR:Hid (insT s xs=(os++[x])++restT s true (xs.drop (i+1))):=by
     have:=uh HD
     rw [restT_done (uh HK)] at this
     show _=_
     rw [this]
     simp
    clear HD
    go_wp2_with (first
     | (at_builtin;refine wpList_tapp rfl (.tmp 28) (.tmp 33) rfl w.heap.size _ _ rfl (World.ownsRow.alloc hO _) _ x rfl (by simp [go_sem]) (by omega) (by rw [szA];omega) ?_;intro v6 w6 hO6 hg6 hv6;replace hb:=below_tapp hb hO hg6))
    go_roundg (xs.length - (i+1))
    case measure=>omega
    case rel=>exact⟨i+1,_,true,by omega,rfl,rfl,by first | rfl | simp,hb,hO6,by simp <;> omega,HR⟩
  ·have hz:¬ (i:Int)<(xs.length:Int):=by omega
   obtain rfl:i=xs.length:=by omega
   have HE:=uh HD
   rw [List.drop_length] at HE
   have HR:=hide HE
   clear HE HD
   cases d with
   | true =>
    go_wp2
    go_returns
    refine⟨_,rfl,?_,hb⟩
    have:=uh HR
    simp [restT] at this
    rw [this]
    exact hO
   | false =>
    go_wp2_with (first
     | (at_builtin;refine wpList_tapp rfl (.tmp 37) (.tmp 39) rfl w.heap.size _ _ rfl (World.ownsRow.alloc hO _) _ s rfl (by simp [go_sem]) (by omega) (by rw [szA];omega) ?_;intro v6 w6 hO6 hg6 hv6;replace hb:=below_tapp hb hO hg6))
    go_returns
    refine⟨_,rfl,?_,hb⟩
    have:=uh HR
    simp [restT,insT] at this
    rw [this]
    exact hO6
end
section
open Go.RowKit
theorem ncells_get:∀ (ns:List Nd) (kvs:List Value) (k:Nat) (n:Nd) (kv:Value),ns[k]? = some n→kvs[k]? = some kv→∀ j,j<5→(ncells ns kvs)[k * 5+j]? = (n.cells kv)[j]?
 | [],_,_,_,_,h,_,_,_=>by simp at h
 | _ :: _,[],_,_,_,_,h,_,_=>by simp at h
 | m :: ns,v :: kvs,0,n,kv,h1,h2,j,hj=>by
  simp at h1 h2
  subst h1 h2
  show (m.cells v++ncells ns kvs)[0 * 5+j]? = _
  rw [List.getElem?_append_left (by simpa [Nd.cells] using hj)]
  simp
 | m :: ns,v :: kvs,k+1,n,kv,h1,h2,j,hj=>by
  simp at h1 h2
  show (m.cells v++ncells ns kvs)[(k+1) * 5+j]? = _
  rw [List.getElem?_append_right (by simp [Nd.cells];omega)]
  have e:(k+1) * 5+j - (m.cells v).length=k * 5+j:=by simp [Nd.cells];omega
  rw [e]
  exact ncells_get ns kvs k n kv h1 h2 j hj
theorem NodesAt.below {w w':World}{B:Nat}{v:Value}{ns:List Nd}(h:NodesAt w B v ns) (hb:Below w.heap.size w w'):NodesAt w' B v ns:=by
 obtain⟨kvs,h1,h2,h3⟩:=h
 exact⟨kvs,own_below h1 hb,h2,fun i n kv hi hj=>own_below (h3 i n kv hi hj) hb⟩
theorem NodesAt.len {w:World}{B:Nat}{v:Value}{ns:List Nd}(h:NodesAt w B v ns):∃ a c,v=.slice a ns.length c:=by
 obtain⟨kvs,h1,_⟩:=h
 exact own_len h1
theorem NodesAt.at {w:World}{B n0 cap:Nat}{a:Option Addr}{ns:List Nd}(h:NodesAt w B (.slice a n0 cap) ns) {k:Nat}{n:Nd}(hk:ns[k]? = some n) :
  ∃ g kv,a=some ⟨g,0,none⟩∧B≤g∧w.cell? ⟨g,k * 5,none⟩=some (.int .i64 n.kind)∧w.cell? ⟨g,k * 5+1,none⟩=some (.int .i64 n.pos)∧w.cell? ⟨g,k * 5+2,none⟩=some (.int .i64 n.num)∧w.cell? ⟨g,k * 5+3,none⟩=some (.string n.text)∧w.cell? ⟨g,k * 5+4,none⟩=some kv∧Ints w B kv n.kids:=by
 obtain⟨kvs,h1,h2,h3⟩:=h
 have hlt:k<ns.length:=(List.getElem?_eq_some_iff.1 hk).1
 obtain⟨kv,hkv⟩:∃ kv,kvs[k]? = some kv:=⟨_,List.getElem?_eq_getElem (by omega)⟩
 rcases h1.2 with⟨_,h0⟩ | ⟨g,cap',cur,hv,hg,_⟩
 ·omega
 ·simp only [Value.slice.injEq] at hv
  obtain⟨rfl,rfl,rfl⟩:=hv
  have hc:=h1.cells (g:=g) rfl
  have hx:∀ j u,j<5→(n.cells kv)[j]? = some u→w.cell? ⟨g,k * 5+j,none⟩=some u:=by
   intro j u hj hu
   have:=hc (k * 5+j) u (by rw [ncells_get ns kvs k n kv hk hkv j hj];exact hu)
   unfold Addr.add at this
   split at this
   ·rename_i h0
    rw [h0];exact this
   ·simpa using this
  exact⟨g,kv,rfl,hg,hx 0 _ (by omega) rfl,hx 1 _ (by omega) rfl,hx 2 _ (by omega) rfl,hx 3 _ (by omega) rfl,hx 4 _ (by omega) rfl,h3 k n kv hk hkv⟩
theorem str_ne {a b:ByteArray}(h:¬ a=b):(a.toList == b.toList)=false:=beq_eq_false_iff_ne.2 fun he=>h (tl_inj.1 he)
def declGo (kind:Int) (name:ByteArray):List Nd→Nat→Int
 | [],_=>-1
 | n :: r,i=>if n.kind=kind∧n.text=name then (i:Int) else declGo kind name r (i+1)
def declOf (ns:List Nd) (kind:Int) (name:ByteArray):Int:=declGo kind name ns 0
theorem declGo_end (kind:Int) (name:ByteArray) (ns:List Nd):declGo kind name (ns.drop ns.length) ns.length = -1:=by simp [declGo]
theorem declGo_at {kind:Int}{name:ByteArray}{ns:List Nd}{i:Nat}{n:Nd}(h:ns[i]? = some n):declGo kind name (ns.drop i) i=if n.kind=kind∧n.text=name then (i:Int) else declGo kind name (ns.drop (i+1)) (i+1):=by
 obtain⟨h1,h2⟩:=List.getElem?_eq_some_iff.1 h
 rw [List.drop_eq_getElem_cons h1,h2]
 rfl
set_option maxHeartbeats 4000000 in
theorem decl3_any {w:World}{B:Nat}{v:Value}{ns:List Nd}(h:NodesAt w B v ns) (hn:ns.length≤100000) (kind:Int) (name:ByteArray) :
  Calls Tryz.prog 10 #[v,.int .i64 kind,.string name] w fun e w'=>e=.returned (.int .i64 (declOf ns kind name))∧w'=w:=by
 obtain⟨va,vc,rfl⟩:=h.len
 have HN:=hide h
 clear h
 go_enter Tryz.func10,Tryz.ntmps10
 go_wp2
 go_loopg [7] ns.length (fun k e wr=>∃ i:Nat,i≤ns.length∧k=ns.length - i∧e=.int .i64 (i:Int)∧wr=w∧Hid (declGo kind name (ns.drop i) i=declOf ns kind name))
 case atStart=>exact⟨0,Nat.zero_le _,rfl,rfl,rfl,by show _=_;rfl⟩
 case round =>
  obtain⟨i,hi,rfl,rfl,rfl,hd⟩:=hrel
  by_cases hlt:i<ns.length
  ·obtain⟨n,hk⟩:∃ n,ns[i]? = some n:=⟨_,List.getElem?_eq_getElem hlt⟩
   obtain⟨g,kv,rfl,hg,c0,c1,c2,c3,c4,hI⟩:=(uh HN).at hk
   have hz:(i:Int)<(ns.length:Int):=by omega
   have hs:=declGo_at (kind:=kind) (name:=name) hk
   have HD:Hid ((if n.kind=kind∧n.text=name then (i:Int) else declGo kind name (ns.drop (i+1)) (i+1))=declOf ns kind name):=by rw [← hs];exact uh hd
   clear hs hd hk hI
   by_cases hkd:n.kind=kind
   ·have hkb:(n.kind == kind)=true:=by simp [hkd]
    by_cases hnm:n.text=name
    ·have hnb:n.text.toList=name.toList:=by rw [hnm]
     have HR:Hid ((i:Int)=declOf ns kind name):=by
      have:=uh HD
      rw [if_pos ⟨hkd,hnm⟩] at this
      exact this
     subst hkd hnm
     go_wp2
     go_returns
     exact⟨by rw [uh HR];rfl,rfl⟩
    ·have hnb:=str_ne hnm
     have HR:Hid (declGo kind name (ns.drop (i+1)) (i+1)=declOf ns kind name):=by
      have:=uh HD
      rw [if_neg (fun h=>hnm h.2)] at this
      exact this
     subst hkd
     clear HD
     go_wp2
     go_roundg (ns.length - (i+1))
     case measure=>omega
     case rel=>exact⟨i+1,by omega,rfl,by first | rfl | simp,rfl,HR⟩
   ·have hkb:(n.kind == kind)=false:=by simp [hkd]
    have HR:Hid (declGo kind name (ns.drop (i+1)) (i+1)=declOf ns kind name):=by
     have:=uh HD
     rw [if_neg (fun h=>hkd h.1)] at this
     exact this
    clear HD
    go_wp2
    go_roundg (ns.length - (i+1))
    case measure=>omega
    case rel=>exact⟨i+1,by omega,rfl,by first | rfl | simp,rfl,HR⟩
  ·have hz:¬ (i:Int)<(ns.length:Int):=by omega
   obtain rfl:i=ns.length:=by omega
   have HR:Hid (declOf ns kind name = -1):=by
    have:=uh hd
    rw [declGo_end] at this
    exact this.symm
   go_wp2
   go_returns
   exact⟨by rw [uh HR];rfl,rfl⟩
def begins3B (a b:ByteArray):Bool:=decide (b.size≤a.size) && decide ((a.extract 0 b.size).toList=b.toList)
set_option maxHeartbeats 2000000 in
theorem begins3_any (a b:ByteArray) (w:World) (ha:a.size≤maxLen) (hb:b.size≤maxLen) :
  Calls Tryz.prog 18 #[.string a,.string b] w fun e w'=>e=.returned (.bool (begins3B a b))∧w'=w:=by
 unfold maxLen at ha hb
 unfold begins3B
 by_cases hl:b.size≤a.size
 ·have hz:(b.size:Int)≤(a.size:Int):=by omega
  have hzd:decide ((b.size:Int)≤(a.size:Int))=true:=decide_eq_true hz
  have h1:decide (b.size≤a.size)=true:=decide_eq_true hl
  rw [h1]
  go_enter Tryz.func18,Tryz.ntmps18
  go_wp2
  go_returns
  refine⟨?_,rfl⟩
  by_cases he:(a.extract 0 b.size).toList=b.toList
  ·simp [he]
  ·simp [he]
 ·have hz:¬ (b.size:Int)≤(a.size:Int):=by omega
  have hzd:decide ((b.size:Int)≤(a.size:Int))=false:=decide_eq_false hz
  have h1:decide (b.size≤a.size)=false:=decide_eq_false hl
  rw [h1]
  go_enter Tryz.func18,Tryz.ntmps18
  go_wp2
  go_returns
  exact⟨rfl,rfl⟩
end
section
open Go.RowKit
theorem ext_small (s:ByteArray) (i j:Nat):(s.extract i j).size≤s.size+1:=by
 rw [ByteArray.size_extract]
 omega
theorem ending_small (s:ByteArray) (o:Bool) (i:Nat):∀ t ∈ ending o i,t.text.size≤s.size+1:=by
 intro t ht
 unfold ending at ht
 split at ht
 ·simp only [List.mem_singleton] at ht
  subst ht
  show (⟨#[59]⟩:ByteArray).size≤_
  have:(⟨#[59]⟩:ByteArray).size=1:=rfl
  omega
 ·simp at ht
theorem step_small (s:ByteArray) (i:Nat) (o:Bool):∀ t ∈ (stepS s i o).toks,t.text.size≤s.size+1:=by
 unfold stepS
 split
 ·exact ending_small s o i
 split
 ·intro t ht;simp at ht
 split
 ·intro t ht;simp at ht
 split
 ·intro t ht
  unfold numOut at ht
  repeat' split at ht
  all_goals first
   | (simp at ht;done)
   | (simp only [List.mem_singleton] at ht;subst ht;exact ext_small _ _ _)
 split
 ·intro t ht
  unfold nameOut at ht
  repeat' split at ht
  all_goals first
   | (simp at ht;done)
   | (simp only [List.mem_singleton] at ht;subst ht;exact ext_small _ _ _)
 ·intro t ht
  unfold signOut at ht
  repeat' split at ht
  all_goals first
   | (simp at ht;done)
   | (simp only [List.mem_singleton] at ht;subst ht;exact ext_small _ _ _)
theorem scanGo_small:∀ (f:Nat) (s:ByteArray) (i:Nat) (o:Bool) (acc:List Tok),(∀ t ∈ acc,t.text.size≤s.size+1)→∀ t ∈ (scanGo f s i o acc).2.2,t.text.size≤s.size+1
 | 0,s,i,o,acc,_=>by intro t ht;simp [scanGo] at ht
 | f+1,s,i,o,acc,ha=>by
  unfold scanGo
  by_cases h1:i<s.size
  ·rw [if_pos h1]
   by_cases h2:(stepS s i o).code=0
   ·rw [if_pos h2]
    refine scanGo_small f s _ _ _ fun t ht=>?_
    rcases List.mem_append.1 ht with h | h
    ·exact ha t h
    ·exact step_small s i o t h
   ·rw [if_neg h2];intro t ht;simp at ht
  ·rw [if_neg h1]
   intro t ht
   rcases List.mem_append.1 ht with h | h
   ·exact ha t h
   ·exact ending_small s o i t h
theorem scan_short (s:ByteArray):∀ t ∈ (scan s).2.2,t.text.size≤6001:=by
 unfold scan
 split
 ·intro t ht;simp at ht
 ·rename_i h
  intro t ht
  have:=scanGo_small _ s _ _ _ (by intro t ht;simp at ht) t ht
  omega
def weight (ns:List Nd):Nat:=(ns.map fun n=>n.text.size+20).sum
theorem weight_snoc (ns:List Nd) (n:Nd):weight (ns++[n])=weight ns+(n.text.size+20):=by simp [weight]
def Told (z:List Nd→Nat→Nat):Prop:=(∀ ns t k,k<ns.length→z (ns++t) k=z ns k)∧∀ ns n,z (ns++[n]) ns.length≤n.text.size+10+(n.kids.map fun k=>z ns k+1).sum
theorem forest_lt {ns:List Nd}{R:List Nat}(h:Forest ns R):∀ r ∈ R,r<ns.length:=by
 induction h using Forest.made with
 | nil=>intro r hr;cases hr
 | put ns R n h ih =>
  intro r hr
  rcases List.mem_append.1 hr with hr | hr
  ·have:=ih r (List.mem_append_left _ hr)
   simp
   omega
  ·simp at hr
   subst hr
   simp
theorem sum_same {z z':Nat→Nat}:∀ (R:List Nat),(∀ r ∈ R,z r=z' r)→(R.map fun r=>z r+1).sum=(R.map fun r=>z' r+1).sum
 | [],_=>rfl
 | r :: R,h=>by
  simp only [List.map_cons,List.sum_cons]
  rw [h r (by simp),sum_same R fun x hx=>h x (by simp [hx])]
theorem forest_weight {z:List Nd→Nat→Nat}(hz:Told z) {ns:List Nd}{R:List Nat}(h:Forest ns R):(R.map fun r=>z ns r+1).sum≤weight ns:=by
 induction h using Forest.made with
 | nil=>simp [weight]
 | put ns R n h ih =>
  rw [weight_snoc]
  simp only [List.map_append,List.sum_append,List.map_cons,List.map_nil,List.sum_cons,List.sum_nil] at ih ⊢
  have h1:=hz.2 ns n
  have h2:=sum_same (z:=z (ns++[n])) (z':=z ns) R fun r hr=>hz.1 ns [n] r (forest_lt h r (List.mem_append_left _ hr))
  omega
theorem forest_each {z:List Nd→Nat→Nat}(hz:Told z) {ns:List Nd}{R:List Nat}(h:Forest ns R):∀ k,k<ns.length→z ns k+1≤weight ns:=by
 induction h using Forest.made with
 | nil=>intro k hk;simp at hk
 | put ns R n h ih =>
  intro k hk
  by_cases he:k<ns.length
  ·rw [hz.1 ns [n] k he,weight_snoc]
   have:=ih k he
   omega
  ·have e:k=ns.length:=by simp at hk;omega
   subst e
   have:=forest_weight hz (Forest.put ns R n h)
   simp only [List.map_append,List.sum_append,List.map_cons,List.map_nil,List.sum_cons,List.sum_nil] at this
   omega
theorem weight_le {ns:List Nd}{B:Nat}(h:∀ n ∈ ns,n.text.size≤B):weight ns≤ns.length * (B+20):=by
 induction ns with
 | nil=>simp [weight]
 | cons n ns ih =>
  have h1:=h n (by simp)
  have h2:=ih fun m hm=>h m (by simp [hm])
  have e:weight (n :: ns)=n.text.size+20+weight ns:=by simp [weight]
  rw [e]
  simp only [List.length_cons,Nat.add_mul,Nat.one_mul]
  omega
end
end Go.Proofs.YtdemnolanlfblaaGreatDoor
