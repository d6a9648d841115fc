import Derived.Deep.RegionHeld3
import Derived.Test.YtdemnolanlfblaaGreatDoorYTSmall
import Derived.Test.YtdemnolanlfblaaGreatDoorYTTell
set_option linter.all false
namespace Go.Proofs.YtdemnolanlfblaaGreatDoor
section
open Go.RowKit
def memOf (ns:List Nd) (k:Nat):ByteArray × Nat:=match ns[k]? with
 | some m=>(m.text,m.kids.headD 0)
 | none=>(⟨#[]⟩,0)
set_option maxHeartbeats 16000000 in
set_option maxRecDepth 100000 in
theorem members_any {w:World}{B C:Nat}{nv xv mv kv:Value}{ns:List Nd}{ks:List Nat}(hN:NodesAt w B nv ns) (hI:Ints w C kv ks) (hO:NsOk ns) (hks:∀ k ∈ ks,∃ m,ns[k]? = some m∧m.kids.length=1) (hkl:ks.length≤1200) :
  Calls Tryz.prog 44 #[.agg #[nv,xv,mv],kv] w fun e w'=>∃ v',e=.returned v'∧MemsAt w' (w.heap.size+1) v' (ks.map (memOf ns))∧Below w.heap.size w w':=by
 obtain⟨i0,hi0,hz0,hz1,hz2⟩:=info_parts Tryz.infoMem
 obtain⟨ka,kc,rfl⟩:=own_len hI
 obtain⟨va,vc,rfl⟩:=hN.len
 have hfew:=hO.few
 have HN:=hide hN
 have HI:=hide hI
 have HKS:=hide hks
 clear hN hI hO hks
 go_enter Tryz.func44,Tryz.ntmps44
 go_wp2
 go_loopg [5,11] ks.length (fun kx e5 e11 wr=>∃ (L:List (ByteArray × Nat)),L.length≤ks.length∧kx=ks.length - L.length∧e11=.int .i64 (L.length:Int)∧Below w.heap.size w wr∧BoxAt wr w.heap.size [.slice va ns.length vc,xv,mv] 45∧w.heap.size+1≤wr.heap.size∧MemsAt wr (w.heap.size+1) e5 L∧Hid (L=(ks.take L.length).map (memOf ns)))
 case atStart=>exact⟨[],Nat.zero_le _,rfl,rfl,by (repeat (first | exact Below.refl _ _ | with_reducible assumption | (refine bset ?_ (by first | exact Nat.le_refl _ | (simp;done) | (simp;omega))) | refine bdrewN ?_ | refine bdrew ?_ | refine balloc ?_)),BoxAt.made w [.slice va ns.length vc,xv,mv] _,by rw [szA];exact Nat.le_refl _,MemsAt.nil _ _,by show _=_;simp⟩
 case round =>
  obtain⟨L,hi,rfl,rfl,hb,hB1,hs2,hP,HL⟩:=hrel
  obtain⟨x0,x1,x2,xl⟩:=bt3 hB1
  have hsz:=hb.size
  by_cases hlt:L.length<ks.length
  ·obtain⟨j,hj⟩:∃ j,ks[L.length]? = some j:=⟨_,List.getElem?_eq_getElem hlt⟩
   obtain⟨m,hm,hml⟩:=uh HKS j (List.mem_of_getElem? hj)
   obtain⟨b,hmb⟩:∃ b,m.kids = [b]:=List.length_eq_one_iff.1 hml
   have hjl:j<ns.length:=(List.getElem?_eq_some_iff.1 hm).1
   obtain⟨kg,rfl,_,hkgl,q0⟩:=Ints.at (own_below (uh HI) hb) hj
   obtain⟨g,mkv,rfl,hg,d0,d1,d2,d3,d4,hMI⟩:=((uh HN).below hb).at hm
   obtain⟨ma,mc,rfl⟩:=own_len hMI
   obtain⟨mg,rfl,_,hmgl,r0⟩:=Ints.at hMI (i:=0) (k:=b) (by simp [hmb])
   have hmgw:mg<w.heap.size:=by
    obtain⟨g',mkv',hga,_,_,_,_,_,d4',hMI'⟩:=(uh HN).at hm
    have hcell:=(below_cell hb (World.block_lt_of_cell? _ _ d4') (j * 5+4)).trans d4'
    simp only [Option.some.injEq,Addr.mk.injEq] at hga
    obtain⟨rfl,_,_⟩:=hga
    rw [d4] at hcell
    simp only [Option.some.injEq] at hcell
    subst hcell
    obtain⟨mg',he,_,hl',_⟩:=Ints.at hMI' (i:=0) (k:=b) (by simp [hmb])
    simp only [Option.some.injEq,Addr.mk.injEq] at he
    omega
   have hgl:=World.block_lt_of_cell? _ _ d0
   simp only [] at hgl
   rw [hml] at d4
   have hz:(L.length:Int)<(ks.length:Int):=by omega
   have hzj:(j:Int)<(ns.length:Int):=by omega
   have HS:Hid (L++[(m.text,b)]=(ks.take (L++[(m.text,b)]).length).map (memOf ns)):=by
    show _=_
    have e:(L++[(m.text,b)]).length=L.length+1:=by simp
    rw [e,List.take_add_one,hj,List.map_append,← uh HL]
    simp [memOf,hm,hmb]
   have hfr:=own_from hP
   obtain⟨pa,pc,rfl⟩:=own_len hP
   have hfr2:=fun k hk=>(World.ownsRow.lt hP k hk).2
   have ag:(Value.slice pa L.length pc).ownBlock≠some wr.heap.size:=fun e=>by
    have:=hfr2 _ e
    omega
   have ak:(Value.slice pa L.length pc).ownBlock≠some mg:=fun e=>by
    have:=hfr _ e
    omega
   have hnt:wr.heap.size<wr.heap.size+1:=by omega
   have HP:=hide hP
   have HFR:=hide hfr
   clear hj hm hMI hmb hP hfr hfr2
   go_wp2
   go_region_held3 (fun w'=>w'.cell? ⟨wr.heap.size,3,none⟩=some (.string m.text)∧w'.cell? ⟨wr.heap.size,4,none⟩=some (.slice (some ⟨mg,0,none⟩) 1 mc)∧w'.cell? ⟨mg,0,none⟩=some (.int .i64 (b:Int)))
    (first
     | go_keep
     | (go_split_ands
        refine⟨?_,?_,?_⟩
        ·(rw [hgrow.cell_far _ (by simp;omega) (Ne.symm ag)];assumption)
        ·(rw [hgrow.cell_far _ (by simp;omega) (Ne.symm ag)];assumption)
        ·(rw [hgrow.cell_far _ (by simp;omega) (Ne.symm ak)];assumption)))
    ((refine step_append_lies _ (by rfl) _ _ _ (by rfl) (w.heap.size+1) 86 i0 _ 2 24 Tryz.underlying48 hi0 hz0 hz1 hz2 rfl (by omega) _ _ _ (by rfl) (World.ownsRow.drew (World.ownsRow.alloc (World.ownsRow.alloc (uh HP) _) _)) ⟨wr.heap.size+1,0,none⟩ 1 1 [.string m.text,.int .i64 (b:Int)] (by rfl) (by rfl) (World.news_of_block (cs:=#[.string m.text,.int .i64 (b:Int)]) (t:=86) (fr:=(0,0)) (by first | exact heap_alloc_new _ _ | (have:=heap_alloc_new (wr.alloc (.cells #[.int .i64 m.kind,.int .i64 m.pos,.int .i64 m.num,.string m.text,.slice (some ⟨mg,0,none⟩) 1 mc] 36)) (.cells #[.string m.text,.int .i64 (b:Int)] 86);rw [szA] at this;exact this))) (by simp [Value.oneCell']) (by omega) (by unfold maxLen;omega) (by omega) (by simp;omega) (wr.heap.size+2) (by simp) ?_;intro gg cap w1 hown1 hgrow hat hlt))
   go_wp2
   go_roundg (ks.length - (L.length+1))
   case measure=>omega
   case rel =>
    have hb2:Below w.heap.size w _:=below_grown (w:=(_:World).drew) (balloc (balloc hb)).drew (by show _≤(World.alloc (World.alloc _ _) _).heap.size;rw [szA,szA];omega) (fun k hk=>by have:=uh HFR k hk;omega) hgrow
    refine⟨L++[(m.text,b)],by simp;omega,by simp,by first | rfl | (simp;done) | (simp;unfold wrap64;omega),hb2,?_,?_,?_,HS⟩
    ·exact (((hB1.new (blA _ _)).new (blA _ _)).new (below_drew _)).grown hgrow (fun e=>absurd (uh HFR _ e) (by omega))
    ·have:=hgrow.size
     have e2:∀ (x:World) (o1 o2:Obj),((x.alloc o1).alloc o2).drew.heap.size=x.heap.size+2:=fun x o1 o2=>by show ((x.alloc o1).alloc o2).heap.size=_;rw [szA,szA]
     rw [e2] at this
     omega
    ·unfold MemsAt
     have e1:mcells (L++[(m.text,b)])=mcells L++[.string m.text,.int .i64 (b:Int)]:=by simp [mcells]
     rw [e1,List.length_append]
     exact hown1
  ·have hz:¬ (L.length:Int)<(ks.length:Int):=by omega
   have he:L.length=ks.length:=by omega
   have HLE:=uh HL
   rw [he,List.take_length] at HLE
   subst HLE
   go_wp2
   go_returns
   exact⟨_,rfl,hP,hb⟩
end
section
open Go.RowKit
def toldM (ts:List ByteArray) (ms:List (ByteArray × Nat)):List ByteArray:=ms.map fun m=>m.1++⟨#[32]⟩++(ts[m.2]?).getD ⟨#[]⟩
structure TFr (b:Nat) (E:Ent) (w w':World):Prop where
 os:w'.os=w.os
 tape:w'.tape=w.tape
 output:w'.output=w.output
 size:w.heap.size≤w'.heap.size
 keep:∀ j,j<w.heap.size→j≠b→(∀ i,i<3→(E.row i).ownBlock≠some j)→w'.heap[j]? = w.heap[j]?
theorem wpList_tlook {w:World}{ops:Array Oper}{rest:List Oper}{o:Oper}{a:Act}{Q:Exit→Act→World→Prop}(hg:o.guard=none) (m x:Operand) (hop:o.op=Op.lookup 43 m x false) (B b n:Nat) (F:ByteArray→Ent) (h:TabAt w B b n F) (k:ByteArray) (hk:k.size≤maxLen) (hm:a.eval m=.map (some b)) (hx:a.eval x=.string k) (v:Value) (hv:(F k).val=v) (hK:wpList Tryz.prog ops Q rest (a.put o.dst v) w):wpList Tryz.prog ops Q (o :: rest) a w:=by
 refine wpList_plain hg fun K hK'=>?_
 have hr:=h.look hk
 rw [hv] at hr
 unfold Oper.wp
 simp [execOp,hop,hm,hx,hr,Result.andThen]
 exact hK' _ _ hK
theorem wpList_tstore {w1:World}{ops:Array Oper}{rest:List Oper}{o:Oper}{a:Act}{Q:Exit→Act→World→Prop}(hg:o.guard=none) (m x v:Operand) (hop:o.op=Op.mapUpdate 43 m x v) (b:Nat) (k:ByteArray) (E:Ent) (hm:a.eval m=.map (some b)) (hx:a.eval x=.string k) (hv:a.eval v=E.val) (R:World→Prop) (hS:∃ w2,(Instr.mapUpdate 43 (.map (some b)) (.string k) E.val).run Tryz.prog w1=.ok () w2∧R w2) (hK:∀ w2,R w2→wpList Tryz.prog ops Q rest (a.put o.dst undef) w2):wpList Tryz.prog ops Q (o :: rest) a w1:=by
 refine wpList_plain hg fun K hK'=>?_
 obtain⟨w2,hr,hR⟩:=hS
 unfold Oper.wp
 simp [execOp,hop,hm,hx,hv,hr,Result.andThen]
 exact hK' _ _ (hK w2 hR)
section
variable {w0 w w':World}{B L L0:Nat}{E0 E:Ent}{a c:List Value}
theorem AddSt.boxes (h:AddSt w0 B L E0 a c E w) (hE0:EntAt w0 B L0 E0) {i:Nat}(hi:i<3) (hg:w.grownBy w' (E.row i).ownBlock):BoxAt w' w0.heap.size a 45∧BoxAt w' (w0.heap.size+1) c 50∧BoxAt w' (w0.heap.size+1+1) [.int .i64 E.decl,E.fv,E.mv,E.tv] 50 :=
 ⟨h.box1.grown hg (h.ne_box hE0 hi (Nat.le_refl _) (by omega)),h.box2.grown hg (h.ne_box hE0 hi (k:=w0.heap.size+1) (by omega) (by omega)),h.box3.grown hg (h.ne_box hE0 hi (k:=w0.heap.size+1+1) (by omega) (by omega))⟩
theorem bt4f {w:World}{k:Nat}{a b c d:Value}{t:TypeId}(h:BoxAt w k [a,b,c,d] t):w.cell? ⟨k,0,none⟩=some a∧w.cell? ⟨k,1,none⟩=some b∧w.cell? ⟨k,2,none⟩=some c∧w.cell? ⟨k,3,none⟩=some d∧w.frozen? ⟨k,0,none⟩=false∧w.frozen? ⟨k,1,none⟩=false∧w.frozen? ⟨k,2,none⟩=false∧w.frozen? ⟨k,3,none⟩=false∧k<w.heap.size:=by
 have h1:=h.cell
 have h2:=h.free
 exact⟨h1 0,h1 1,h1 2,h1 3,h2 0,h2 1,h2 2,h2 3,h.lt⟩
theorem row_len {w:World}{b e z:Nat}{a:Option Addr}{m c n:Nat}{xs:List Value}(h:w.ownsRow b e z (.slice a m c) n xs):n=m:=by
 obtain⟨a',c',e⟩:=own_len h
 simp only [Value.slice.injEq] at e
 exact e.2.1.symm
theorem AddSt.other (h:AddSt w0 B L E0 a c E w) {C e z n:Nat}{v:Value}{xs:List Value}(hr:w0.ownsRow C e z v n xs) (hne:∀ g,v.ownBlock=some g→∀ i,i<3→(E0.row i).ownBlock≠some g):w.ownsRow C e z v n xs :=
 own_keep hr fun g hg=>h.keep g (hr.lt g hg).2 (hne g hg)
theorem AddSt.begin (hE0:EntAt w0 B L0 E0) (hL:L0≤L) (hap:∀ i i' g,i<3→i'<3→(E0.row i).ownBlock=some g→(E0.row i').ownBlock=some g→i=i') (d:Int) :
  AddSt w0 B L E0 a c { E0 with decl:=d } (((w0.alloc (.cells a.toArray 45)).alloc (.cells c.toArray 50)).alloc (.cells #[.int .i64 d,E0.fv,E0.mv,E0.tv] 50)):=by
 have hb:Below w0.heap.size w0 (((w0.alloc (.cells a.toArray 45)).alloc (.cells c.toArray 50)).alloc (.cells #[.int .i64 d,E0.fv,E0.mv,E0.tv] 50)):=balloc (balloc (blA _ _))
 have hrow:∀ i,({ E0 with decl:=d }:Ent).row i=E0.row i:=by
  intro i
  match i with
  | 0=>rfl
  | 1=>rfl
  | _+2=>rfl
 refine⟨by rw [szA,szA,szA];omega,rfl,rfl,rfl,fun j hj _=>hb.block j hj,((BoxAt.made w0 a _).new (blA _ _)).new (blA _ _),?_,?_,?_,?_,?_⟩
 ·have:=(BoxAt.made (w0.alloc (.cells a.toArray 45)) c 50).new (blA _ (.cells #[.int .i64 d,E0.fv,E0.mv,E0.tv] 50))
  rw [szA] at this
  exact this
 ·have:=BoxAt.made ((w0.alloc (.cells a.toArray 45)).alloc (.cells c.toArray 50)) [.int .i64 d,E0.fv,E0.mv,E0.tv] 50
  rw [szA,szA] at this
  exact this
 ·have h1:EntAt w0 B L ({ E0 with decl:=d }:Ent):=⟨(hE0.mono hL).f,(hE0.mono hL).m,hE0.t,(hE0.mono hL).tl⟩
  exact h1.keep fun i g hi hg=>hb.block g (h1.from i g hi hg).2
 ·intro i g hi hg
  rw [hrow] at hg
  exact Or.inl hg
 ·intro i i' g hi hi' e1 e2
  rw [hrow] at e1 e2
  exact hap i i' g hi hi' e1 e2
end
end
end Go.Proofs.YtdemnolanlfblaaGreatDoor
