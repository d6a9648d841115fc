import Derived.Laws.OwnMore
import Derived.Test.YtdemnolanlfblaaGreatDoorYPBrace
set_option linter.all false
namespace Go.Proofs.YtdemnolanlfblaaGreatDoor
section
open Go.RowKit
theorem box4g {w1:World}{g:Nat}{a b c d:Value}{t:TypeId}(h:w1.heap[g]? = some (.cells #[a,b,c,d] t (0,0))) :
  w1.cell? ⟨g,0,none⟩=some a∧w1.cell? ⟨g,1,none⟩=some b∧w1.cell? ⟨g,2,none⟩=some c∧w1.cell? ⟨g,3,none⟩=some d ∧
  w1.frozen? ⟨g,0,none⟩=false∧w1.frozen? ⟨g,1,none⟩=false∧w1.frozen? ⟨g,2,none⟩=false∧w1.frozen? ⟨g,3,none⟩=false:=by
 simp [World.cell?,World.frozen?,h]
theorem text_ne {x:ByteArray}{a:List UInt8}(h:¬ x=⟨a.toArray⟩):(x.toList == a)=false:=by
 rw [beq_eq_false_iff_ne]
 intro he
 apply h
 rw [ByteArray.toList_eq] at he
 cases x
 simp at he
 rw [← he]
theorem open1n {p T tv E r A s w}(h:PSt p T tv E r A s w) {a:ByteArray}{t:TypeId}{c n:Nat}(hn:n=w.heap.size) (hx:0<a.size) :
  Calls Tryz.prog 146 #[.pointer (some ⟨p,0,none⟩),.slice (some ⟨n,0,none⟩) 1 c] (w.alloc (.cells #[.string a] t)) (OutO p T tv E r A s w (opens E r [a] s)):=by
 subst hn;exact open1 h hx
theorem is1n {p T tv E r A s w}(h:PSt p T tv E r A s w) {a:ByteArray}{t:TypeId}{c n:Nat}(hn:n=w.heap.size) :
  Calls Tryz.prog 98 #[.pointer (some ⟨p,0,none⟩),.slice (some ⟨n,0,none⟩) 1 c] (w.alloc (.cells #[.string a] t)) (OutB (isB E s [a]) w):=by
 subst hn;exact is1b h
def firstOf (E r:Nat) (lo:Rd) (t:Tok):M Nat :=
 if t.text=⟨#[116,114,117,101]⟩ then (next E).bind fun _=>put ⟨34,t.pos,1,⟨#[]⟩,[]⟩
 else if t.text=⟨#[102,97,108,115,101]⟩ then (next E).bind fun _=>put ⟨34,t.pos,0,⟨#[]⟩,[]⟩
 else if t.text=⟨#[110,105,108]⟩ then (next E).bind fun _=>put ⟨35,t.pos,0,⟨#[]⟩,[]⟩
 else if t.text=⟨#[40]⟩ then (opens E r [⟨#[40]⟩]).bind fun _=>lo.expr.bind fun k=>(want E [⟨#[41]⟩]).bind fun _=>M.ret k
 else if t.text=⟨#[102,117,110,99]⟩ then (next E).bind fun _=>(sig E r lo).bind fun g=>(block E r lo).bind fun b=>put ⟨40,t.pos,0,⟨#[]⟩,[g,b]⟩
 else if t.text=⟨#[110,101,119]⟩ then newOf E r
 else if t.text=⟨#[109,97,107,101]⟩ then makeOf E r lo
 else if t.kind=2 then (next E).bind fun _=>put ⟨33,t.pos,t.num,⟨#[]⟩,[]⟩
 else (wantName E).bind fun n=>put ⟨36,t.pos,0,n,[]⟩
theorem first_at {E r:Nat}{lo:Rd}{s:PS}:first E r lo s=firstOf E r lo (look E s 0) s:=rfl
theorem first_true {E r:Nat}{lo:Rd}{s:PS}(h:(look E s 0).text=⟨#[116,114,117,101]⟩):first E r lo s=((next E).bind fun _=>put ⟨34,(look E s 0).pos,1,⟨#[]⟩,[]⟩) s:=by
 rw [first_at]
 unfold firstOf
 rw [if_pos h]
theorem first_false {E r:Nat}{lo:Rd}{s:PS}(h:(look E s 0).text=⟨#[102,97,108,115,101]⟩):first E r lo s=((next E).bind fun _=>put ⟨34,(look E s 0).pos,0,⟨#[]⟩,[]⟩) s:=by
 rw [first_at]
 unfold firstOf
 rw [if_neg (by rw [h];decide),if_pos h]
theorem first_nil {E r:Nat}{lo:Rd}{s:PS}(h:(look E s 0).text=⟨#[110,105,108]⟩):first E r lo s=((next E).bind fun _=>put ⟨35,(look E s 0).pos,0,⟨#[]⟩,[]⟩) s:=by
 rw [first_at]
 unfold firstOf
 rw [if_neg (by rw [h];decide),if_neg (by rw [h];decide),if_pos h]
theorem first_paren {E r:Nat}{lo:Rd}{s:PS}(h:(look E s 0).text=⟨#[40]⟩):first E r lo s=((opens E r [⟨#[40]⟩]).bind fun _=>lo.expr.bind fun k=>(want E [⟨#[41]⟩]).bind fun _=>M.ret k) s:=by
 rw [first_at]
 unfold firstOf
 rw [if_neg (by rw [h];decide),if_neg (by rw [h];decide),if_neg (by rw [h];decide),if_pos h]
theorem first_lit {E r:Nat}{lo:Rd}{s:PS}(h:(look E s 0).text=⟨#[102,117,110,99]⟩):first E r lo s=((next E).bind fun _=>(sig E r lo).bind fun g=>(block E r lo).bind fun b=>put ⟨40,(look E s 0).pos,0,⟨#[]⟩,[g,b]⟩) s:=by
 rw [first_at]
 unfold firstOf
 rw [if_neg (by rw [h];decide),if_neg (by rw [h];decide),if_neg (by rw [h];decide),if_neg (by rw [h];decide),if_pos h]
theorem first_new {E r:Nat}{lo:Rd}{s:PS}(h:(look E s 0).text=⟨#[110,101,119]⟩):first E r lo s=(newOf E r) s:=by
 rw [first_at]
 unfold firstOf
 rw [if_neg (by rw [h];decide),if_neg (by rw [h];decide),if_neg (by rw [h];decide),if_neg (by rw [h];decide),if_neg (by rw [h];decide),if_pos h]
theorem first_make {E r:Nat}{lo:Rd}{s:PS}(h:(look E s 0).text=⟨#[109,97,107,101]⟩):first E r lo s=(makeOf E r lo) s:=by
 rw [first_at]
 unfold firstOf
 rw [if_neg (by rw [h];decide),if_neg (by rw [h];decide),if_neg (by rw [h];decide),if_neg (by rw [h];decide),if_neg (by rw [h];decide),if_neg (by rw [h];decide),if_pos h]
theorem first_num {E r:Nat}{lo:Rd}{s:PS}(h0:¬ (look E s 0).text=⟨#[116,114,117,101]⟩) (h1:¬ (look E s 0).text=⟨#[102,97,108,115,101]⟩) (h2:¬ (look E s 0).text=⟨#[110,105,108]⟩) (h3:¬ (look E s 0).text=⟨#[40]⟩) (h4:¬ (look E s 0).text=⟨#[102,117,110,99]⟩) (h5:¬ (look E s 0).text=⟨#[110,101,119]⟩) (h6:¬ (look E s 0).text=⟨#[109,97,107,101]⟩) (hk:(look E s 0).kind=2):first E r lo s=((next E).bind fun _=>put ⟨33,(look E s 0).pos,(look E s 0).num,⟨#[]⟩,[]⟩) s:=by
 rw [first_at]
 unfold firstOf
 rw [if_neg h0,if_neg h1,if_neg h2,if_neg h3,if_neg h4,if_neg h5,if_neg h6,if_pos hk]
theorem first_name {E r:Nat}{lo:Rd}{s:PS}(h0:¬ (look E s 0).text=⟨#[116,114,117,101]⟩) (h1:¬ (look E s 0).text=⟨#[102,97,108,115,101]⟩) (h2:¬ (look E s 0).text=⟨#[110,105,108]⟩) (h3:¬ (look E s 0).text=⟨#[40]⟩) (h4:¬ (look E s 0).text=⟨#[102,117,110,99]⟩) (h5:¬ (look E s 0).text=⟨#[110,101,119]⟩) (h6:¬ (look E s 0).text=⟨#[109,97,107,101]⟩) (hk:¬ (look E s 0).kind=2):first E r lo s=((wantName E).bind fun n=>put ⟨36,(look E s 0).pos,0,n,[]⟩) s:=by
 rw [first_at]
 unfold firstOf
 rw [if_neg h0,if_neg h1,if_neg h2,if_neg h3,if_neg h4,if_neg h5,if_neg h6,if_neg hk]
set_option maxHeartbeats 8000000 in
theorem first_any_true {p T tv E r A s w}(h:PSt p T tv E r A s w) {lo:Rd}(hlo:Los p T tv E r lo) (ht:(look E s 0).text=⟨#[116,114,117,101]⟩) :
  Calls Tryz.prog 195 #[.pointer (some ⟨p,0,none⟩)] w (Out p T tv E r A w.heap.size 2 s w (first E r lo s) RNat):=by
 have hp:=h.lt
 have hroom:=h.room
 have hcap:=h.cap
 obtain⟨res,hres⟩:∃ res,res=first E r lo s:=⟨_,rfl⟩
 rw [← hres]
 rw [first_true ht] at hres
 have HM:=hide hres
 have hf:=Fr.refl (p:=p) (Nat.le_refl w.heap.size) hp
 have hst:=h
 clear h hres
 have hne:=hide (rest_ne_text ht (by decide))
 go_enter Tryz.func195,Tryz.ntmps195
 go_wp2_with (first
  | (go_at_call 126;refine (look0_any hst).mono ?_;rintro e w1 ⟨rfl,hb1⟩;replace hst:=hst.new hb1;replace hf:=hf.new hb1;clear hb1)
  | (go_at_call 102;refine (next_any (hst.alloc _) (uh hne)).mono ?_;clear hst;intro e w1 ho;rcases ho.elim with⟨a,s1,v,hq,rfl,hR,hst,hf1,hd⟩ | ⟨c,q,hq,rfl,hb⟩;rotate_left;(first | exact⟨rfl,Out.ill (bind_bad (uh HM) hq) ((hf.new (blA _ _)).below' hb)⟩ | exact⟨rfl,Out.ill ((uh HM).trans hq) ((hf.new (blA _ _)).below' hb)⟩);(first | (replace HM:=hide (bind_ok (uh HM) hq)) | (replace HM:=hide ((uh HM).trans hq)));have hbx:=hide (hf1.keep _ _ (by first | (rw [szA];omega) | (show _<(World.alloc _ _).heap.size;rw [szA];omega)) (heap_alloc_new _ _) (by simp [PlainObj]));obtain⟨x0,x1,x2,x3,y0,y1,y2,y3⟩:=box4g (uh hbx);have hbl:=(Array.getElem?_eq_some_iff.1 (uh hbx)).1;replace hf:=(hf.new (blA _ _)).step hf1;unfold RTok at hR;subst hR;clear ho hf1 hq)
  | (go_at_call 69;refine (put0 hst (by omega)).mono ?_;clear hst;intro e w1 ho;rcases ho with⟨k,s1,hq,rfl,hst,hf1,hd⟩ | hfalse;rotate_left;exact hfalse.elim;(first | (replace HM:=hide (bind_ok (uh HM) hq)) | (replace HM:=hide ((uh HM).trans hq)));replace hf:=hf.step hf1;clear hf1 hq))
 go_returns
 exact Out.good (uh HM) rfl hst hf (by omega)
set_option maxHeartbeats 8000000 in
theorem first_any_false {p T tv E r A s w}(h:PSt p T tv E r A s w) {lo:Rd}(hlo:Los p T tv E r lo) (ht:(look E s 0).text=⟨#[102,97,108,115,101]⟩) :
  Calls Tryz.prog 195 #[.pointer (some ⟨p,0,none⟩)] w (Out p T tv E r A w.heap.size 2 s w (first E r lo s) RNat):=by
 have hp:=h.lt
 have hroom:=h.room
 have hcap:=h.cap
 obtain⟨res,hres⟩:∃ res,res=first E r lo s:=⟨_,rfl⟩
 rw [← hres]
 rw [first_false ht] at hres
 have HM:=hide hres
 have hf:=Fr.refl (p:=p) (Nat.le_refl w.heap.size) hp
 have hst:=h
 clear h hres
 have hne:=hide (rest_ne_text ht (by decide))
 go_enter Tryz.func195,Tryz.ntmps195
 go_wp2_with (first
  | (go_at_call 126;refine (look0_any hst).mono ?_;rintro e w1 ⟨rfl,hb1⟩;replace hst:=hst.new hb1;replace hf:=hf.new hb1;clear hb1)
  | (go_at_call 102;refine (next_any (hst.alloc _) (uh hne)).mono ?_;clear hst;intro e w1 ho;rcases ho.elim with⟨a,s1,v,hq,rfl,hR,hst,hf1,hd⟩ | ⟨c,q,hq,rfl,hb⟩;rotate_left;(first | exact⟨rfl,Out.ill (bind_bad (uh HM) hq) ((hf.new (blA _ _)).below' hb)⟩ | exact⟨rfl,Out.ill ((uh HM).trans hq) ((hf.new (blA _ _)).below' hb)⟩);(first | (replace HM:=hide (bind_ok (uh HM) hq)) | (replace HM:=hide ((uh HM).trans hq)));have hbx:=hide (hf1.keep _ _ (by first | (rw [szA];omega) | (show _<(World.alloc _ _).heap.size;rw [szA];omega)) (heap_alloc_new _ _) (by simp [PlainObj]));obtain⟨x0,x1,x2,x3,y0,y1,y2,y3⟩:=box4g (uh hbx);have hbl:=(Array.getElem?_eq_some_iff.1 (uh hbx)).1;replace hf:=(hf.new (blA _ _)).step hf1;unfold RTok at hR;subst hR;clear ho hf1 hq)
  | (go_at_call 69;refine (put0 hst (by omega)).mono ?_;clear hst;intro e w1 ho;rcases ho with⟨k,s1,hq,rfl,hst,hf1,hd⟩ | hfalse;rotate_left;exact hfalse.elim;(first | (replace HM:=hide (bind_ok (uh HM) hq)) | (replace HM:=hide ((uh HM).trans hq)));replace hf:=hf.step hf1;clear hf1 hq))
 go_returns
 exact Out.good (uh HM) rfl hst hf (by omega)
set_option maxHeartbeats 8000000 in
theorem first_any_nil {p T tv E r A s w}(h:PSt p T tv E r A s w) {lo:Rd}(hlo:Los p T tv E r lo) (ht:(look E s 0).text=⟨#[110,105,108]⟩) :
  Calls Tryz.prog 195 #[.pointer (some ⟨p,0,none⟩)] w (Out p T tv E r A w.heap.size 2 s w (first E r lo s) RNat):=by
 have hp:=h.lt
 have hroom:=h.room
 have hcap:=h.cap
 obtain⟨res,hres⟩:∃ res,res=first E r lo s:=⟨_,rfl⟩
 rw [← hres]
 rw [first_nil ht] at hres
 have HM:=hide hres
 have hf:=Fr.refl (p:=p) (Nat.le_refl w.heap.size) hp
 have hst:=h
 clear h hres
 have hne:=hide (rest_ne_text ht (by decide))
 go_enter Tryz.func195,Tryz.ntmps195
 go_wp2_with (first
  | (go_at_call 126;refine (look0_any hst).mono ?_;rintro e w1 ⟨rfl,hb1⟩;replace hst:=hst.new hb1;replace hf:=hf.new hb1;clear hb1)
  | (go_at_call 102;refine (next_any (hst.alloc _) (uh hne)).mono ?_;clear hst;intro e w1 ho;rcases ho.elim with⟨a,s1,v,hq,rfl,hR,hst,hf1,hd⟩ | ⟨c,q,hq,rfl,hb⟩;rotate_left;(first | exact⟨rfl,Out.ill (bind_bad (uh HM) hq) ((hf.new (blA _ _)).below' hb)⟩ | exact⟨rfl,Out.ill ((uh HM).trans hq) ((hf.new (blA _ _)).below' hb)⟩);(first | (replace HM:=hide (bind_ok (uh HM) hq)) | (replace HM:=hide ((uh HM).trans hq)));have hbx:=hide (hf1.keep _ _ (by first | (rw [szA];omega) | (show _<(World.alloc _ _).heap.size;rw [szA];omega)) (heap_alloc_new _ _) (by simp [PlainObj]));obtain⟨x0,x1,x2,x3,y0,y1,y2,y3⟩:=box4g (uh hbx);have hbl:=(Array.getElem?_eq_some_iff.1 (uh hbx)).1;replace hf:=(hf.new (blA _ _)).step hf1;unfold RTok at hR;subst hR;clear ho hf1 hq)
  | (go_at_call 69;refine (put0 hst (by omega)).mono ?_;clear hst;intro e w1 ho;rcases ho with⟨k,s1,hq,rfl,hst,hf1,hd⟩ | hfalse;rotate_left;exact hfalse.elim;(first | (replace HM:=hide (bind_ok (uh HM) hq)) | (replace HM:=hide ((uh HM).trans hq)));replace hf:=hf.step hf1;clear hf1 hq))
 go_returns
 exact Out.good (uh HM) rfl hst hf (by omega)
set_option maxHeartbeats 8000000 in
theorem first_any_paren {p T tv E r A s w}(h:PSt p T tv E r A s w) {lo:Rd}(hlo:Los p T tv E r lo) (ht:(look E s 0).text=⟨#[40]⟩) :
  Calls Tryz.prog 195 #[.pointer (some ⟨p,0,none⟩)] w (Out p T tv E r A w.heap.size 2 s w (first E r lo s) RNat):=by
 have hp:=h.lt
 have hroom:=h.room
 have hcap:=h.cap
 obtain⟨res,hres⟩:∃ res,res=first E r lo s:=⟨_,rfl⟩
 rw [← hres]
 rw [first_paren ht] at hres
 have HM:=hide hres
 have hf:=Fr.refl (p:=p) (Nat.le_refl w.heap.size) hp
 have hst:=h
 clear h hres
 have hne:=hide (rest_ne_text ht (by decide))
 go_enter Tryz.func195,Tryz.ntmps195
 go_wp2_with (first
  | (go_at_call 126;refine (look0_any hst).mono ?_;rintro e w1 ⟨rfl,hb1⟩;replace hst:=hst.new hb1;replace hf:=hf.new hb1;clear hb1)
  | (go_at_call_of 146 (1:Nat);refine (open1n (hst.alloc _) (by rw [szA]) (by decide)).mono ?_;clear hst;intro e w1 ho;rcases ho with⟨r',a,s1,rfl,hq,rfl,hst,hf1,hd⟩ | ⟨c,q,hq,rfl,hb⟩;rotate_left;exact⟨rfl,Out.ill (bind_bad (uh HM) hq) ((hf.new (blA _ _)).below' hb)⟩;replace HM:=hide (bind_ok (uh HM) hq);have hbx:=hide (hf1.keep _ _ (by first | (rw [szA];omega) | (show _<(World.alloc _ _).heap.size;rw [szA];omega)) (heap_alloc_new _ _) (by simp [PlainObj]));obtain⟨x0,x1,x2,x3,y0,y1,y2,y3⟩:=box4g (uh hbx);have hbl:=(Array.getElem?_eq_some_iff.1 (uh hbx)).1;replace hf:=(hf.new (blA _ _)).step hf1;clear hf1 hq)
  | (go_at_call 166;refine ((hlo _ rfl).expr _ _ _ hst).mono ?_;clear hst;intro e w1 ho;rcases ho.elim with⟨a,s1,v,hq,rfl,hR,hst,hf1,hd⟩ | ⟨c,q,hq,rfl,hb⟩;rotate_left;(first | exact⟨rfl,Out.ill (bind_bad (uh HM) hq) (hf.below' hb)⟩ | exact⟨rfl,Out.ill ((uh HM).trans hq) (hf.below' hb)⟩);(first | (replace HM:=hide (bind_ok (uh HM) hq)) | (replace HM:=hide ((uh HM).trans hq)));skip;replace hf:=hf.step hf1;unfold RNat at hR;subst hR;clear ho hf1 hq)
  | (go_at_call 148;refine (shut_any hst (by omega) _ (by decide)).mono ?_;clear hst;intro e w1 ho;rcases ho.elim with⟨a,s1,v,hq,rfl,hR,hst,hf1,hd⟩ | ⟨c,q,hq,rfl,hb⟩;rotate_left;(first | exact⟨rfl,Out.ill (bind_bad (uh HM) hq) (hf.below' hb)⟩ | exact⟨rfl,Out.ill ((uh HM).trans hq) (hf.below' hb)⟩);(first | (replace HM:=hide (bind_ok (uh HM) hq)) | (replace HM:=hide ((uh HM).trans hq)));replace hf:=hf.step hf1;unfold RUnit at hR;subst hR;clear ho hf1 hq))
 go_returns
 exact Out.good (uh HM) rfl hst hf (by omega)
set_option maxHeartbeats 8000000 in
theorem first_any_new {p T tv E r A s w}(h:PSt p T tv E r A s w) {lo:Rd}(hlo:Los p T tv E r lo) (ht:(look E s 0).text=⟨#[110,101,119]⟩) :
  Calls Tryz.prog 195 #[.pointer (some ⟨p,0,none⟩)] w (Out p T tv E r A w.heap.size 2 s w (first E r lo s) RNat):=by
 have hp:=h.lt
 have hroom:=h.room
 have hcap:=h.cap
 obtain⟨res,hres⟩:∃ res,res=first E r lo s:=⟨_,rfl⟩
 rw [← hres]
 rw [first_new ht] at hres
 have HM:=hide hres
 have hf:=Fr.refl (p:=p) (Nat.le_refl w.heap.size) hp
 have hst:=h
 clear h hres
 have hne:=hide (rest_ne_text ht (by decide))
 go_enter Tryz.func195,Tryz.ntmps195
 go_wp2_with (first
  | (go_at_call 126;refine (look0_any hst).mono ?_;rintro e w1 ⟨rfl,hb1⟩;replace hst:=hst.new hb1;replace hf:=hf.new hb1;clear hb1)
  | (go_at_call 202;refine (newOf_any (hst.alloc _)).mono ?_;clear hst;intro e w1 ho;rcases ho.elim with⟨a,s1,v,hq,rfl,hR,hst,hf1,hd⟩ | ⟨c,q,hq,rfl,hb⟩;rotate_left;(first | exact⟨rfl,Out.ill (bind_bad (uh HM) hq) ((hf.new (blA _ _)).below' hb)⟩ | exact⟨rfl,Out.ill ((uh HM).trans hq) ((hf.new (blA _ _)).below' hb)⟩);(first | (replace HM:=hide (bind_ok (uh HM) hq)) | (replace HM:=hide ((uh HM).trans hq)));have hbx:=hide (hf1.keep _ _ (by first | (rw [szA];omega) | (show _<(World.alloc _ _).heap.size;rw [szA];omega)) (heap_alloc_new _ _) (by simp [PlainObj]));obtain⟨x0,x1,x2,x3,y0,y1,y2,y3⟩:=box4g (uh hbx);have hbl:=(Array.getElem?_eq_some_iff.1 (uh hbx)).1;replace hf:=(hf.new (blA _ _)).step hf1;unfold RNat at hR;subst hR;clear ho hf1 hq))
 go_returns
 exact Out.good (uh HM) rfl hst hf (by omega)
set_option maxHeartbeats 8000000 in
theorem first_any_make {p T tv E r A s w}(h:PSt p T tv E r A s w) {lo:Rd}(hlo:Los p T tv E r lo) (ht:(look E s 0).text=⟨#[109,97,107,101]⟩) :
  Calls Tryz.prog 195 #[.pointer (some ⟨p,0,none⟩)] w (Out p T tv E r A w.heap.size 2 s w (first E r lo s) RNat):=by
 have hp:=h.lt
 have hroom:=h.room
 have hcap:=h.cap
 obtain⟨res,hres⟩:∃ res,res=first E r lo s:=⟨_,rfl⟩
 rw [← hres]
 rw [first_make ht] at hres
 have HM:=hide hres
 have hf:=Fr.refl (p:=p) (Nat.le_refl w.heap.size) hp
 have hst:=h
 clear h hres
 have hne:=hide (rest_ne_text ht (by decide))
 go_enter Tryz.func195,Tryz.ntmps195
 go_wp2_with (first
  | (go_at_call 126;refine (look0_any hst).mono ?_;rintro e w1 ⟨rfl,hb1⟩;replace hst:=hst.new hb1;replace hf:=hf.new hb1;clear hb1)
  | (go_at_call 203;refine (makeOf_any (hst.alloc _) hlo).mono ?_;clear hst;intro e w1 ho;rcases ho.elim with⟨a,s1,v,hq,rfl,hR,hst,hf1,hd⟩ | ⟨c,q,hq,rfl,hb⟩;rotate_left;(first | exact⟨rfl,Out.ill (bind_bad (uh HM) hq) ((hf.new (blA _ _)).below' hb)⟩ | exact⟨rfl,Out.ill ((uh HM).trans hq) ((hf.new (blA _ _)).below' hb)⟩);(first | (replace HM:=hide (bind_ok (uh HM) hq)) | (replace HM:=hide ((uh HM).trans hq)));have hbx:=hide (hf1.keep _ _ (by first | (rw [szA];omega) | (show _<(World.alloc _ _).heap.size;rw [szA];omega)) (heap_alloc_new _ _) (by simp [PlainObj]));obtain⟨x0,x1,x2,x3,y0,y1,y2,y3⟩:=box4g (uh hbx);have hbl:=(Array.getElem?_eq_some_iff.1 (uh hbx)).1;replace hf:=(hf.new (blA _ _)).step hf1;unfold RNat at hR;subst hR;clear ho hf1 hq))
 go_returns
 exact Out.good (uh HM) rfl hst hf (by omega)
set_option maxHeartbeats 8000000 in
theorem first_any_lit {p T tv E r A s w}(h:PSt p T tv E r A s w) {lo:Rd}(hlo:Los p T tv E r lo) (ht:(look E s 0).text=⟨#[102,117,110,99]⟩) :
  Calls Tryz.prog 195 #[.pointer (some ⟨p,0,none⟩)] w (Out p T tv E r A w.heap.size 2 s w (first E r lo s) RNat):=by
 have hp:=h.lt
 have hroom:=h.room
 have hcap:=h.cap
 obtain⟨res,hres⟩:∃ res,res=first E r lo s:=⟨_,rfl⟩
 rw [← hres]
 rw [first_lit ht] at hres
 have HM:=hide hres
 have hf:=Fr.refl (p:=p) (Nat.le_refl w.heap.size) hp
 have hst:=h
 clear h hres
 have hne:=hide (rest_ne_text ht (by decide))
 go_enter Tryz.func195,Tryz.ntmps195
 go_wp2_with (first
  | (go_at_call 126;refine (look0_any hst).mono ?_;rintro e w1 ⟨rfl,hb1⟩;replace hst:=hst.new hb1;replace hf:=hf.new hb1;clear hb1)
  | (go_at_call 102;refine (next_any (hst.alloc _) (uh hne)).mono ?_;clear hst;intro e w1 ho;rcases ho.elim with⟨a,s1,v,hq,rfl,hR,hst,hf1,hd⟩ | ⟨c,q,hq,rfl,hb⟩;rotate_left;(first | exact⟨rfl,Out.ill (bind_bad (uh HM) hq) ((hf.new (blA _ _)).below' hb)⟩ | exact⟨rfl,Out.ill ((uh HM).trans hq) ((hf.new (blA _ _)).below' hb)⟩);(first | (replace HM:=hide (bind_ok (uh HM) hq)) | (replace HM:=hide ((uh HM).trans hq)));have hbx:=hide (hf1.keep _ _ (by first | (rw [szA];omega) | (show _<(World.alloc _ _).heap.size;rw [szA];omega)) (heap_alloc_new _ _) (by simp [PlainObj]));obtain⟨x0,x1,x2,x3,y0,y1,y2,y3⟩:=box4g (uh hbx);have hbl:=(Array.getElem?_eq_some_iff.1 (uh hbx)).1;replace hf:=(hf.new (blA _ _)).step hf1;unfold RTok at hR;subst hR;clear ho hf1 hq)
  | (go_at_call 132;refine (sig_any hst hlo).mono ?_;clear hst;intro e w1 ho;rcases ho.elim with⟨a,s1,v,hq,rfl,hR,hst,hf1,hd⟩ | ⟨c,q,hq,rfl,hb⟩;rotate_left;(first | exact⟨rfl,Out.ill (bind_bad (uh HM) hq) (hf.below' hb)⟩ | exact⟨rfl,Out.ill ((uh HM).trans hq) (hf.below' hb)⟩);(first | (replace HM:=hide (bind_ok (uh HM) hq)) | (replace HM:=hide ((uh HM).trans hq)));replace hbx:=hide (hf1.keep _ _ (Array.getElem?_eq_some_iff.1 (uh hbx)).1 (uh hbx) (by simp [PlainObj]));obtain⟨x0,x1,x2,x3,y0,y1,y2,y3⟩:=box4g (uh hbx);have hbl:=(Array.getElem?_eq_some_iff.1 (uh hbx)).1;replace hf:=hf.step hf1;unfold RNat at hR;subst hR;clear ho hf1 hq))
 go_region_with (first
  | (go_at_call 133;refine (block_any hst.drew hlo).mono ?_;intro e w2 ho;rcases ho.elim with⟨k1,s2,v,hq,rfl,hR,hst2,hf2,hd2⟩ | ⟨c,q,hq,rfl,hb⟩;rotate_left;exact⟨rfl,Out.ill (bind_bad (uh HM) hq) ((hf.new (below_drew _)).below' hb)⟩;have HM2:=hide (bind_ok (uh HM) hq);have hfb:=(hf.new (below_drew _)).step hf2;have hbx2:=hide (hf2.keep _ _ (Array.getElem?_eq_some_iff.1 (uh hbx)).1 (uh hbx) (by simp [PlainObj]));obtain⟨x0,x1,x2,x3,y0,y1,y2,y3⟩:=box4g (uh hbx2);have hbl2:=(Array.getElem?_eq_some_iff.1 (uh hbx2)).1;unfold RNat at hR;subst hR;clear ho hq hf2)
  | (go_at_call 69;refine (put2 hst2 (by omega)).mono ?_;intro e w3 ho;rcases ho with⟨k2,s3,hq,rfl,hst3,hf3,hd3⟩ | hfalse;rotate_left;exact hfalse.elim;(first | (have HM3:=hide (bind_ok (uh HM2) hq)) | (have HM3:=hide ((uh HM2).trans hq)));have hfc:=hfb.step hf3;clear hf3 hq))
 all_goals
  go_wp2
  go_returns
  exact Out.good (uh HM3) rfl hst3 hfc (by omega)
set_option maxHeartbeats 8000000 in
theorem first_any_num {p T tv E r A s w}(h:PSt p T tv E r A s w) {lo:Rd}(hlo:Los p T tv E r lo) (h0:¬ (look E s 0).text=⟨#[116,114,117,101]⟩) (h1:¬ (look E s 0).text=⟨#[102,97,108,115,101]⟩) (h2:¬ (look E s 0).text=⟨#[110,105,108]⟩) (h3:¬ (look E s 0).text=⟨#[40]⟩) (h4:¬ (look E s 0).text=⟨#[102,117,110,99]⟩) (h5:¬ (look E s 0).text=⟨#[110,101,119]⟩) (h6:¬ (look E s 0).text=⟨#[109,97,107,101]⟩) (hk:(look E s 0).kind=2) :
  Calls Tryz.prog 195 #[.pointer (some ⟨p,0,none⟩)] w (Out p T tv E r A w.heap.size 2 s w (first E r lo s) RNat):=by
 have hp:=h.lt
 have hroom:=h.room
 have hcap:=h.cap
 obtain⟨res,hres⟩:∃ res,res=first E r lo s:=⟨_,rfl⟩
 rw [← hres]
 rw [first_num h0 h1 h2 h3 h4 h5 h6 hk] at hres
 have HM:=hide hres
 have hf:=Fr.refl (p:=p) (Nat.le_refl w.heap.size) hp
 have hst:=h
 clear h hres
 have n0:((look E s 0).text.toList == [116,114,117,101])=false:=text_ne h0
 have n1:((look E s 0).text.toList == [102,97,108,115,101])=false:=text_ne h1
 have n2:((look E s 0).text.toList == [110,105,108])=false:=text_ne h2
 have n3:((look E s 0).text.toList == [40])=false:=text_ne h3
 have n4:((look E s 0).text.toList == [102,117,110,99])=false:=text_ne h4
 have n5:((look E s 0).text.toList == [110,101,119])=false:=text_ne h5
 have n6:((look E s 0).text.toList == [109,97,107,101])=false:=text_ne h6
 have hne:=hide (rest_ne_kind hk (by decide))
 go_enter Tryz.func195,Tryz.ntmps195
 go_wp2_with (first
  | (go_at_call 126;refine (look0_any hst).mono ?_;rintro e w1 ⟨rfl,hb1⟩;replace hst:=hst.new hb1;replace hf:=hf.new hb1;clear hb1)
  | (go_at_call 102;refine (next_any (hst.alloc _) (uh hne)).mono ?_;clear hst;intro e w1 ho;rcases ho.elim with⟨a,s1,v,hq,rfl,hR,hst,hf1,hd⟩ | ⟨c,q,hq,rfl,hb⟩;rotate_left;(first | exact⟨rfl,Out.ill (bind_bad (uh HM) hq) ((hf.new (blA _ _)).below' hb)⟩ | exact⟨rfl,Out.ill ((uh HM).trans hq) ((hf.new (blA _ _)).below' hb)⟩);(first | (replace HM:=hide (bind_ok (uh HM) hq)) | (replace HM:=hide ((uh HM).trans hq)));have hbx:=hide (hf1.keep _ _ (by first | (rw [szA];omega) | (show _<(World.alloc _ _).heap.size;rw [szA];omega)) (heap_alloc_new _ _) (by simp [PlainObj]));obtain⟨x0,x1,x2,x3,y0,y1,y2,y3⟩:=box4g (uh hbx);have hbl:=(Array.getElem?_eq_some_iff.1 (uh hbx)).1;replace hf:=(hf.new (blA _ _)).step hf1;unfold RTok at hR;subst hR;clear ho hf1 hq)
  | (go_at_call 69;refine (put0 hst (by omega)).mono ?_;clear hst;intro e w1 ho;rcases ho with⟨k,s1,hq,rfl,hst,hf1,hd⟩ | hfalse;rotate_left;exact hfalse.elim;(first | (replace HM:=hide (bind_ok (uh HM) hq)) | (replace HM:=hide ((uh HM).trans hq)));replace hf:=hf.step hf1;clear hf1 hq))
 go_returns
 exact Out.good (uh HM) rfl hst hf (by omega)
set_option maxHeartbeats 8000000 in
theorem first_any_name {p T tv E r A s w}(h:PSt p T tv E r A s w) {lo:Rd}(hlo:Los p T tv E r lo) (h0:¬ (look E s 0).text=⟨#[116,114,117,101]⟩) (h1:¬ (look E s 0).text=⟨#[102,97,108,115,101]⟩) (h2:¬ (look E s 0).text=⟨#[110,105,108]⟩) (h3:¬ (look E s 0).text=⟨#[40]⟩) (h4:¬ (look E s 0).text=⟨#[102,117,110,99]⟩) (h5:¬ (look E s 0).text=⟨#[110,101,119]⟩) (h6:¬ (look E s 0).text=⟨#[109,97,107,101]⟩) (hk:¬ (look E s 0).kind=2) :
  Calls Tryz.prog 195 #[.pointer (some ⟨p,0,none⟩)] w (Out p T tv E r A w.heap.size 2 s w (first E r lo s) RNat):=by
 have hp:=h.lt
 have hroom:=h.room
 have hcap:=h.cap
 obtain⟨res,hres⟩:∃ res,res=first E r lo s:=⟨_,rfl⟩
 rw [← hres]
 rw [first_name h0 h1 h2 h3 h4 h5 h6 hk] at hres
 have HM:=hide hres
 have hf:=Fr.refl (p:=p) (Nat.le_refl w.heap.size) hp
 have hst:=h
 clear h hres
 have n0:((look E s 0).text.toList == [116,114,117,101])=false:=text_ne h0
 have n1:((look E s 0).text.toList == [102,97,108,115,101])=false:=text_ne h1
 have n2:((look E s 0).text.toList == [110,105,108])=false:=text_ne h2
 have n3:((look E s 0).text.toList == [40])=false:=text_ne h3
 have n4:((look E s 0).text.toList == [102,117,110,99])=false:=text_ne h4
 have n5:((look E s 0).text.toList == [110,101,119])=false:=text_ne h5
 have n6:((look E s 0).text.toList == [109,97,107,101])=false:=text_ne h6
 go_enter Tryz.func195,Tryz.ntmps195
 go_wp2_with (first
  | (go_at_call 126;refine (look0_any hst).mono ?_;rintro e w1 ⟨rfl,hb1⟩;replace hst:=hst.new hb1;replace hf:=hf.new hb1;clear hb1))
 go_region_with (first
  | (go_at_call 127;refine (wantName_any ((hst.alloc _).drew)).mono ?_;intro e w2 ho;rcases ho.elim with⟨k1,s2,v,hq,rfl,hR,hst2,hf2,hd2⟩ | ⟨c,q,hq,rfl,hb⟩;rotate_left;exact⟨rfl,Out.ill (bind_bad (uh HM) hq) (((hf.new (blA _ _)).new (below_drew _)).below' hb)⟩;have HM2:=hide (bind_ok (uh HM) hq);have hfb:=((hf.new (blA _ _)).new (below_drew _)).step hf2;have hbx:=hide (hf2.keep _ _ (by first | (rw [szA];omega) | (show _<(World.alloc _ _).heap.size;rw [szA];omega)) (heap_alloc_new _ _) (by simp [PlainObj]));obtain⟨x0,x1,x2,x3,y0,y1,y2,y3⟩:=box4g (uh hbx);have hbl:=(Array.getElem?_eq_some_iff.1 (uh hbx)).1;unfold RStr at hR;subst hR;clear ho hq hf2)
  | (go_at_call 69;refine (put0 hst2 (by omega)).mono ?_;intro e w3 ho;rcases ho with⟨k2,s3,hq,rfl,hst3,hf3,hd3⟩ | hfalse;rotate_left;exact hfalse.elim;(first | (have HM3:=hide (bind_ok (uh HM2) hq)) | (have HM3:=hide ((uh HM2).trans hq)));have hfc:=hfb.step hf3;clear hf3 hq))
 all_goals
  go_wp2
  go_returns
  exact Out.good (uh HM3) rfl hst3 hfc (by omega)
theorem first_any {p T tv E r A s w}(h:PSt p T tv E r A s w) {lo:Rd}(hlo:Los p T tv E r lo) :
  Calls Tryz.prog 195 #[.pointer (some ⟨p,0,none⟩)] w (Out p T tv E r A w.heap.size 2 s w (first E r lo s) RNat):=by
 by_cases h0:(look E s 0).text=⟨#[116,114,117,101]⟩
 ·exact first_any_true h hlo h0
 by_cases h1:(look E s 0).text=⟨#[102,97,108,115,101]⟩
 ·exact first_any_false h hlo h1
 by_cases h2:(look E s 0).text=⟨#[110,105,108]⟩
 ·exact first_any_nil h hlo h2
 by_cases h3:(look E s 0).text=⟨#[40]⟩
 ·exact first_any_paren h hlo h3
 by_cases h4:(look E s 0).text=⟨#[102,117,110,99]⟩
 ·exact first_any_lit h hlo h4
 by_cases h5:(look E s 0).text=⟨#[110,101,119]⟩
 ·exact first_any_new h hlo h5
 by_cases h6:(look E s 0).text=⟨#[109,97,107,101]⟩
 ·exact first_any_make h hlo h6
 by_cases hk:(look E s 0).kind=2
 ·exact first_any_num h hlo h0 h1 h2 h3 h4 h5 h6 hk
 ·exact first_any_name h hlo h0 h1 h2 h3 h4 h5 h6 hk
end
section
open Go.RowKit
theorem PSt.grow {p T tv E r A s w}{B:Nat}{v v1:Value}{ks ks1:List Nat}{w4:World}(h:PSt p T tv E r (Au A v) s w) (hI:Ints w B v ks) (hg:w.grownBy w4 v.ownBlock) (hv:v1.ownBlock=v.ownBlock∨∀ k,v1.ownBlock=some k→w.heap.size≤k) (hI1:Ints w4 B v1 ks1) :
  PSt p T tv E r (Au A v1) s w4:=by
 obtain⟨u,kvs,hblk,hown,hl,hk⟩:=h.own
 have hsz:w.heap.size≤w4.heap.size:=hg.size
 have hkeep:∀ (k:Nat) (ob:Obj),w.heap[k]? = some ob→v.ownBlock≠some k→w4.heap[k]? = some ob:=by
  intro k ob hob hne
  have hlt:=(Array.getElem?_eq_some_iff.1 hob).1
  rw [hg.block k hlt (Ne.symm hne)];exact hob
 have hrow:∀ {b e z:Nat}{u:Value}{n:Nat}{xs:List Value},w.ownsRow b e z u n xs→(∀ k,u.ownBlock=some k→v.ownBlock≠some k)→w4.ownsRow b e z u n xs:=by
  intro b e z u n xs hr hne
  refine⟨hr.1,?_⟩
  rcases hr.2 with h2 | ⟨g,cap,cur,hvv,hgg,hh,rr⟩
  ·exact Or.inl h2
  ·exact Or.inr ⟨g,cap,cur,hvv,hgg,hkeep g _ hh (hne g (by rw [hvv];rfl)),rr⟩
 have hty:∀ {b e z:Nat}{u:Value}{n:Nat}{xs:List Value},w.ownsRow b e z u n xs→e≠3→∀ k,u.ownBlock=some k→v.ownBlock≠some k:=by
  intro b e z u n xs hr hne k hk hvk
  obtain⟨c1,h1⟩:=own_type hr hk
  obtain⟨c2,h2⟩:=own_type hI hvk
  rw [h1] at h2
  simp at h2
  exact hne h2.2
 have hpv:v.ownBlock≠some p:=by
  intro hvp
  obtain⟨c2,h2⟩:=own_type hI hvp
  rw [hblk] at h2
  simp at h2
 refine⟨h.room,h.suffix,h.few,h.small,h.cap,?_,⟨u,kvs,hkeep p _ hblk hpv,hrow hown (hty hown (by decide)),⟨hl.1,hl.2.1,fun k hkk hAk=>?_⟩,fun i n kv hi hj=>?_⟩,hrow h.toks (hty h.toks (by decide))⟩
 ·intro k hAk
  rcases hAk with hA | hA
  ·exact Nat.lt_of_lt_of_le (h.sep k (Or.inl hA)) hsz
  ·exact hI1.lt k hA
 ·rcases hAk with hA | hA
  ·exact hl.2.2 k hkk (Or.inl hA)
  ·rcases hv with hv | hv
   ·exact hl.2.2 k hkk (Or.inr (by rw [← hv];exact hA))
   ·have h1:=hv k hA
    have h2:=(hown.lt k hkk).2
    omega
 ·obtain⟨q1,q2⟩:=hk i n kv hi hj
  refine⟨hrow q1 fun k hkk hvk=>q2 k hkk (Or.inr hvk),fun k hkk hAk=>?_⟩
  rcases hAk with hA | hA
  ·exact q2 k hkk (Or.inl hA)
  ·rcases hv with hv | hv
   ·exact q2 k hkk (Or.inr (by rw [← hv];exact hA))
   ·have h1:=hv k hA
    have h2:=q1.lt k hkk
    omega
theorem Fr.grow {p B:Nat}{w0 w w4:World}{v:Value}{ks:List Nat}(hf:Fr p B w0 w) (hI:Ints w B v ks) (hpB:p<B) (hg:w.grownBy w4 v.ownBlock):Fr p B w0 w4:=by
 have hsz:=hg.size
 have hle:=hf.le
 have hs:=hf.size
 have hb:∀ k,v.ownBlock=some k→B≤k:=fun k hk=>(World.ownsRow.lt hI k hk).1
 refine⟨hf.le,hf.lp,hf.below.grown hg (by have:=hf.lp;omega) (fun k hk=>by have:=hb k hk;omega),fun k ob hk hob hq=>?_⟩
 rw [hg.block k (by omega) (fun he=>by have:=hb k he.symm;omega)]
 exact hf.keep k ob hk hob hq
theorem wpList_icat {w:World}{ops:Array Oper}{rest:List Oper}{o:Oper}{a:Act}{Q:Exit→Act→World→Prop}
  (hg:o.guard=none) (s x:Operand) (hop:o.op=Op.call { callee:=Callee.builtin Builtin.append,args:=#[s,x],argTypes:=#[34,34] })
  (B g:Nat) (k:Nat) (hs:a.eval s=.slice (some ⟨g,0,none⟩) 1 1) (hI:Ints w B (.slice (some ⟨g,0,none⟩) 1 1) [k]) (B2:Nat) (v2:Value) (ks:List Nat) (hx:a.eval x=v2) (hI2:Ints w B2 v2 ks)
  (hl:ks.length≤1000000) (hB:B≤w.heap.size)
  (hK:∀ v' w',Ints w' B v' (k :: ks)→w.grownBy w' (Value.slice (some ⟨g,0,none⟩) 1 1).ownBlock→(v'.ownBlock=(Value.slice (some ⟨g,0,none⟩) 1 1).ownBlock∨∀ j,v'.ownBlock=some j→w.heap.size≤j)→wpList Tryz.prog ops Q rest (a.put o.dst v') w') :
  wpList Tryz.prog ops Q (o :: rest) a w:=by
 obtain⟨i0,hi0,hz0,hz1,hz2⟩:=info_parts Tryz.infoInt
 have hones:∀ u ∈ ivals ks,u.oneCell'=true:=by
  intro u hu;simp [ivals] at hu;obtain⟨j,_,rfl⟩:=hu;rfl
 rcases hI2.2 with⟨hv,hn⟩ | ⟨b,cap,cur,hv,hb,hh,hcap,hmax,hcs,htk⟩
 ·have hks:ks = []:=List.length_eq_zero_iff.1 hn
  subst hks
  refine wpList_plain hg fun K hK'=>?_
  have hrun:=run_append_owned_none (P:=Tryz.prog) w B 34 o.type 3 i0 1 Tryz.underlying34 hi0 _ _ _ hI
  unfold Oper.wp
  simp [execOp,hop,resolve,invoke,builtin,hs,hx,hv,hrun,Result.andThen]
  exact hK' _ _ (hK _ _ hI (World.grownBy.refl _ _) (Or.inl rfl))
 ·have hcells:∀ j u,(ivals ks)[j]? = some u→w.cell? ((⟨b,0,none⟩:Addr).add j)=some u:=World.ownsRow.cells hI2 (by rw [hv];rfl)
  by_cases h0:ks = []
  ·subst h0
   refine wpList_append_fits w hg s x 34 hop B 3 i0 1 Tryz.underlying34 hi0 hz1 g 1 1 (ivals [k]) hs hI ⟨b,0,none⟩ 0 cap [] (hx.trans hv) rfl (by intro j u hj;simp at hj) (by intro u hu;simp at hu) (by omega) ?_
   intro w' h1 h2
   exact hK _ w' (by simpa [Ints] using h1) h2 (Or.inl rfl)
  ·have h1:0<ks.length:=List.length_pos_iff.2 h0
   refine wpList_append_grows w hg s x 34 hop 3 i0 _ 1 8 Tryz.underlying34 hi0 hz0 hz1 hz2 rfl (by decide) (some ⟨g,0,none⟩) 1 1 (ivals [k]) hs (by intro h;cases h) rfl (by intro b' hb';simp only [Option.some.injEq] at hb';subst hb';exact World.ownsRow.cells hI rfl) ⟨b,0,none⟩ ks.length cap (ivals ks) (hx.trans hv) (by simp [ivals]) hcells hones (by omega) (by unfold maxLen;omega) (by omega) ?_
   intro v' w' h1 h2
   refine hK v' w' ?_ ⟨h2.os,h2.tape,h2.output,h2.size,fun j hj _=>h2.block j hj (by intro h;cases h)⟩ (Or.inr fun j hj=>(h1.lt j hj).1)
   have h3:=own_lower h1 hB
   unfold Ints
   have h4:(k :: ks).length=1+ks.length:=by simp;omega
   rw [h4]
   simpa [ivals] using h3
theorem PSt.fresh {p T tv E r A s w}(h:PSt p T tv E r A s w) (c:Array Value) (t:TypeId):PSt p T tv E r (Au A (.slice (some ⟨w.heap.size,0,none⟩) 1 1)) s (w.alloc (.cells c t)):=by
 have h1:=h.alloc (.cells c t)
 obtain⟨v,kvs,hblk,hown,hl,hk⟩:=h.own
 obtain⟨v',kvs',hblk',hown',hl',hk'⟩:=h1.own
 refine⟨h1.room,h1.suffix,h1.few,h1.small,h1.cap,?_,⟨v,kvs,?_,hown.alloc _,⟨hl.1,hl.2.1,fun k hkk hAk=>?_⟩,fun i n kv hi hj=>⟨own_below (hk i n kv hi hj).1 (blA w _),fun k hkk hAk=>?_⟩⟩,h1.toks⟩
 ·intro k hAk
  rcases hAk with hA | hA
  ·exact h1.sep k hA
  ·simp [Value.ownBlock] at hA;rw [szA];omega
 ·rw [Below.heap_alloc _ _ _ h.lt];exact hblk
 ·rcases hAk with hA | hA
  ·exact hl.2.2 k hkk hA
  ·simp [Value.ownBlock] at hA
   have:=(hown.lt k hkk).2
   omega
 ·rcases hAk with hA | hA
  ·exact (hk i n kv hi hj).2 k hkk hA
  ·simp [Value.ownBlock] at hA
   have:=(hk i n kv hi hj).1.lt k hkk
   omega
set_option maxHeartbeats 8000000 in
theorem call_any {p T tv E r A s w}(h:PSt p T tv E r A s w) {lo:Rd}(hlo:Los p T tv E r lo) (left:Nat) :
  Calls Tryz.prog 196 #[.pointer (some ⟨p,0,none⟩),.int .i64 (left:Int)] w (Out p T tv E r A w.heap.size 2 s w (call E r lo left s) RNat):=by
 have HA:=h.sep
 have hp:=h.lt
 have hroom:=h.room
 have hcap:=h.cap
 obtain⟨res,hres⟩:∃ res,res=call E r lo left s:=⟨_,rfl⟩
 rw [← hres]
 unfold call at hres
 have HM:=hide hres
 have hf:=Fr.refl (p:=p) (Nat.le_refl w.heap.size) hp
 have hst:=h
 clear h hres
 have hff1:=field_text
 have hff2:=field_pos
 have hff3:=field_kind
 have hff4:=field_num
 go_enter Tryz.func196,Tryz.ntmps196
 go_wp2_with (first
  | (go_at_call 126;refine (look0_any hst).mono ?_;rintro e w1 ⟨rfl,hb1⟩;replace hst:=hst.new hb1;replace hf:=hf.new hb1;replace HM:=hide (bind_look (uh HM));clear hb1)
  | (go_at_call 150;refine (listed_expr (hst.fresh _ _) lo.expr (fun r' A' hr=>((hlo r' hr).expr A').mono (by decide))).mono ?_;intro e w2 ho;rcases ho with⟨ks,s2,kv,hq,rfl,hI,hst2,hf2,hd2,hkl⟩ | ⟨c,q,hq,rfl,hb⟩;rotate_left;exact⟨rfl,Out.ill (bind_bad (uh HM) hq) ((hf.new (blA _ _)).below' hb)⟩;replace HM:=hide (bind_ok (uh HM) hq);have hI1:Ints _ w.heap.size _ [left]:=own_fr (ints_new hf.size [left] (by simp)) hf2 (by decide) (by decide);replace hf:=(hf.new (blA _ _)).step hf2;obtain⟨kva,kvc,rfl⟩:=own_len hI;clear hq hf2 hst)
  | (at_builtin;refine wpList_icat rfl (.tmp 11) (.tmp 15) rfl w.heap.size _ left rfl hI1 _ _ ks rfl hI (by omega) hf.size ?_;intro v5 w5 hI5 hg5 hv5;have hst5:=hst2.unlist.grow hI1 hg5 hv5 hI5;replace hf:=hf.grow hI1 hp hg5;clear hst2 hg5 hv5 hI1 hI)
  | (go_at_call 69;refine (putL hst5.unlist (by omega) hI5 hp HA).mono ?_;intro e w6 ho;rcases ho with⟨k,s6,hq,rfl,hst6,hf6,hd6⟩ | hfalse;rotate_left;exact hfalse.elim;replace HM:=hide ((uh HM).trans hq);replace hf:=hf.step hf6;clear hf6 hq))
 go_returns
 exact Out.good (uh HM) rfl hst6 hf (by omega)
end
end Go.Proofs.YtdemnolanlfblaaGreatDoor
