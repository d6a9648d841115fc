import Derived.Test.YtdemnolanlfblaaGreatDoorYPSel
set_option linter.all false
namespace Go.Proofs.YtdemnolanlfblaaGreatDoor
section
open Go.RowKit
theorem casesGo_at {E:Nat}{it:M Nat}{n:Nat}{ks:List Nat}{s:PS}:casesGo E it (n+1) ks s=(if isB E s [⟨#[125]⟩]=true then M.ret ks else it.bind fun k=>casesGo E it n (ks++[k])) s:=rfl
theorem casesGo_end {E:Nat}{it:M Nat}{n:Nat}{ks:List Nat}{s:PS}(h:isB E s [⟨#[125]⟩]=true):casesGo E it (n+1) ks s=.ok ks s:=by
 rw [casesGo_at,if_pos h];rfl
theorem casesGo_step {E:Nat}{it:M Nat}{n:Nat}{ks:List Nat}{s:PS}(h:isB E s [⟨#[125]⟩]=false):casesGo E it (n+1) ks s=(it s).andThen fun k s2=>casesGo E it n (ks++[k]) s2:=by
 rw [casesGo_at,if_neg (by rw [h];decide)];rfl
set_option maxHeartbeats 8000000 in
theorem selectStmt_any {p T tv E r A s w}(h:PSt p T tv E r A s w) {lo:Rd}(hlo:Los p T tv E r lo) :
  Calls Tryz.prog 170 #[.pointer (some ⟨p,0,none⟩)] w (Out p T tv E r A w.heap.size 2 s w (selectStmt E r lo s) RNat):=by
 have HA:=h.sep
 have hp:=h.lt
 have hroom:=h.room
 have hcap:=h.cap
 obtain⟨res,hres⟩:∃ res,res=selectStmt E r lo s:=⟨_,rfl⟩
 rw [← hres]
 unfold selectStmt at hres
 have HM:=hide hres
 have hf:=Fr.refl (p:=p) (Nat.le_refl w.heap.size) hp
 have hst:=h
 clear h hres
 have hff1:=field_text
 have hff2:=field_pos
 have hff3:=field_kind
 have hff4:=field_num
 go_enter Tryz.func170,Tryz.ntmps170
 go_wp2_with (first
  | (go_at_call_of 68 (1:Nat);refine (want1 hst (by decide)).mono ?_;clear hst;intro e w1 ho;rcases ho.elim with⟨a,s1,v,hq,rfl,hR,hst,hf1,hd⟩ | ⟨c,q,hq,rfl,hb⟩;rotate_left;exact⟨rfl,Out.ill (bind_bad (uh HM) hq) (hf.below' hb)⟩;replace HM:=hide (bind_ok (uh HM) hq);replace hf:=hf.step hf1;unfold RTok at hR;subst hR;clear ho hf1 hq)
  | (go_at_call_of 146 (1:Nat);refine (open1 hst (by decide)).mono ?_;clear hst;intro e w3 ho;rcases ho with⟨r',b,s3,rfl,hq,rfl,hst,hf1,hd3⟩ | ⟨c,q,hq,rfl,hb⟩;rotate_left;exact⟨rfl,Out.ill (bind_bad (uh HM) hq) (hf.below' hb)⟩;replace HM:=hide (bind_ok (uh HM) hq);replace hf:=hf.step hf1;clear hf1 hq))
 have HM2:Hid (res=(casesGo E lo.sel (phi s3+1) [] s3).andThen fun ks=>(want E [⟨#[125]⟩]).bind fun _=>put ⟨26,a.pos,0,⟨#[]⟩,ks⟩):=HM
 clear HM
 go_loopg [4] (phi s3+1) (fun k v wr=>∃ ks s2,phi s2<k∧ks.length+phi s2≤phi s3∧Ints wr w.heap.size v ks∧PSt p T tv E r' (Au A v) s2 wr∧Fr p w.heap.size w wr∧Hid (res=(casesGo E lo.sel k ks s2).andThen fun ks=>(want E [⟨#[125]⟩]).bind fun _=>put ⟨26,a.pos,0,⟨#[]⟩,ks⟩))
 case atStart=>exact⟨[],s3,by omega,by simp,World.ownsRow_nil _ _ _ _,hst.empty,hf,HM2⟩
 case round =>
  clear hst hf HM2
  obtain⟨ks,s2,hk,hkl,hI,hst,hf,HM⟩:=hrel
  obtain⟨n,rfl⟩:∃ n,gk=n+1:=⟨gk - 1,by omega⟩
  obtain⟨va,vc,rfl⟩:=own_len hI
  go_wp2_with (first
   | (go_at_call 98;refine (is1b hst).mono ?_;rintro e w4 ⟨y,rfl,hy,hb4⟩;replace hst:=hst.new hb4;replace hf:=hf.new hb4;replace hI:=own_below hI hb4;cases y;(replace HM:=hide (andThen_of_step (uh HM) (casesGo_step hy)));rotate_left;(replace HM:=hide (andThen_of_ok (uh HM) (casesGo_end hy)));rotate_left)
   | (go_at_call 179;refine ((hlo _ rfl).sel _ _ _ hst).mono ?_;intro e w5 ho;clear hst;rcases ho.elim with⟨k,s5,v5,hq,rfl,hR,hst,hf5,hd5⟩ | ⟨c,q,hq,rfl,hb⟩;rotate_left;exact⟨rfl,Out.ill (andThen_bad_in (uh HM) hq) (hf.below' hb)⟩;replace HM:=hide (andThen_ok_in (uh HM) hq);unfold RNat at hR;subst hR;replace hI:=own_fr hI hf5 (by decide) (by decide);replace hf:=hf.step hf5;clear ho hq hf5)
   | (at_builtin;refine wpList_iapp rfl (.tmp 16) (.tmp 19) rfl w.heap.size _ ks rfl (hI.alloc _) _ k rfl (by simp [go_sem]) (by omega) (by rw [szA];have:=hf.size;omega) ?_;intro v6 w6 hI6 hg6 hv6)
   | (go_at_call 148;refine (shut_any hst (by omega) _ (by decide)).mono ?_;intro e w7 ho;clear hst;rcases ho.elim with⟨a7,s7,v7,hq,rfl,hR,hst,hf7,hd7⟩ | ⟨c,q,hq,rfl,hb⟩;rotate_left;exact⟨rfl,Out.ill (bind_bad (uh HM) hq) (hf.below' hb)⟩;replace HM:=hide (bind_ok (uh HM) hq);unfold RUnit at hR;subst hR;replace hI:=own_fr hI hf7 (by decide) (by decide);replace hf:=hf.step hf7;clear ho hq hf7)
   | (go_at_call 69;refine (putL hst.unlist (by omega) hI hp HA).mono ?_;clear hst;intro e w1 ho;rcases ho with⟨k,s1,hq,rfl,hst,hf1,hd⟩ | hfalse;rotate_left;exact hfalse.elim;(first | (replace HM:=hide (bind_ok (uh HM) hq)) | (replace HM:=hide ((uh HM).trans hq)));replace hf:=hf.step hf1;clear hf1 hq))
  ·go_roundg n
   case measure=>omega
   case rel=>exact⟨ks++[k],_,by omega,by simp;omega,hI6,hst.iapp hI hg6 (hv6.imp id fun hh j hj=>by have:=hh j hj;rw [szA] at this;omega) hI6,hf.iapp hI hp hg6,HM⟩
  ·go_returns
   exact Out.good (uh HM) rfl hst hf (by omega)
def stmtOf (E r:Nat) (lo:Rd) (t:Tok):M Nat :=
 if t.text=⟨#[103,111]⟩ then (next E).bind fun _=>(expr E r lo).bind fun k=>put ⟨21,t.pos,0,⟨#[]⟩,[k]⟩
 else if t.text=⟨#[99,108,111,115,101]⟩ then wordStmt E r lo 30
 else if t.text=⟨#[112,97,110,105,99]⟩ then wordStmt E r lo 31
 else if t.text=⟨#[112,114,105,110,116]⟩ then wordStmt E r lo 32
 else if t.text=⟨#[105,102]⟩ then ifStmt E r lo
 else if t.text=⟨#[102,111,114]⟩ then (next E).bind fun _=>(expr E r lo).bind fun c=>(block E r lo).bind fun b=>put ⟨23,t.pos,0,⟨#[]⟩,[c,b]⟩
 else if t.text=⟨#[114,101,116,117,114,110]⟩ then returnStmt E r lo
 else if t.text=⟨#[98,114,101,97,107]⟩ then (next E).bind fun _=>put ⟨25,t.pos,0,⟨#[]⟩,[]⟩
 else if t.text=⟨#[115,101,108,101,99,116]⟩ then selectStmt E r lo
 else plainStmt E r lo
theorem stmt_at {E r:Nat}{lo:Rd}{s:PS}:stmt E r lo s=stmtOf E r lo (look E s 0) s:=rfl
set_option maxHeartbeats 8000000 in
theorem stmt_any_go {p T tv E r A s w}(h:PSt p T tv E r A s w) {lo:Rd}(hlo:Los p T tv E r lo) (ht:(look E s 0).text=⟨#[103,111]⟩) :
  Calls Tryz.prog 153 #[.pointer (some ⟨p,0,none⟩)] w (Out p T tv E r A w.heap.size 1 s w (stmt E r lo s) RNat):=by
 have hp:=h.lt
 have hroom:=h.room
 have hcap:=h.cap
 obtain⟨res,hres⟩:∃ res,res=stmt E r lo s:=⟨_,rfl⟩
 rw [← hres]
 have hpu:stmt E r lo s=((next E).bind fun _=>(expr E r lo).bind fun k=>put ⟨21,(look E s 0).pos,0,⟨#[]⟩,[k]⟩) s:=by
  rw [stmt_at]
  unfold stmtOf
  rw [if_pos ht]
 rw [hpu] at hres
 have HM:=hide hres
 have hf:=Fr.refl (p:=p) (Nat.le_refl w.heap.size) hp
 have hst:=h
 clear h hres hpu
 have hne:=hide (rest_ne_text ht (by decide))
 go_enter Tryz.func153,Tryz.ntmps153
 go_wp2_with (first
  | (go_at_call 126;refine (look0_any hst).mono ?_;rintro e w1 ⟨rfl,hb1⟩;replace hst:=hst.new hb1;replace hf:=hf.new hb1;clear hb1)
  | (go_at_call 102;refine (next_any (hst.alloc _) (uh hne)).mono ?_;clear hst;intro e w1 ho;rcases ho.elim with⟨a,s1,v,hq,rfl,hR,hst,hf1,hd⟩ | ⟨c,q,hq,rfl,hb⟩;rotate_left;(first | exact⟨rfl,Out.ill (bind_bad (uh HM) hq) ((hf.new (blA _ _)).below' hb)⟩ | exact⟨rfl,Out.ill ((uh HM).trans hq) ((hf.new (blA _ _)).below' hb)⟩);(first | (replace HM:=hide (bind_ok (uh HM) hq)) | (replace HM:=hide ((uh HM).trans hq)));have hbx:=hide (hf1.keep _ _ (by first | (rw [szA];omega) | (show _<(World.alloc _ _).heap.size;rw [szA];omega)) (heap_alloc_new _ _) (by simp [PlainObj]));obtain⟨x0,x1,x2,x3,y0,y1,y2,y3⟩:=box4g (uh hbx);have hbl:=(Array.getElem?_eq_some_iff.1 (uh hbx)).1;replace hf:=(hf.new (blA _ _)).step hf1;unfold RTok at hR;subst hR;clear ho hf1 hq))
 go_region_with (first
  | (go_at_call 166;refine (expr_any hst.drew hlo).mono ?_;intro e w2 ho;rcases ho.elim with⟨k1,s2,v,hq,rfl,hR,hst2,hf2,hd2⟩ | ⟨c,q,hq,rfl,hb⟩;rotate_left;exact⟨rfl,Out.ill (bind_bad (uh HM) hq) ((hf.new (below_drew _)).below' hb)⟩;have HM2:=hide (bind_ok (uh HM) hq);have hfb:=(hf.new (below_drew _)).step hf2;have hbx2:=hide (hf2.keep _ _ (Array.getElem?_eq_some_iff.1 (uh hbx)).1 (uh hbx) (by simp [PlainObj]));obtain⟨x0,x1,x2,x3,y0,y1,y2,y3⟩:=box4g (uh hbx2);have hbl2:=(Array.getElem?_eq_some_iff.1 (uh hbx2)).1;unfold RNat at hR;subst hR;clear ho hq hf2)
  | (go_at_call 69;refine (put1 hst2 (by omega)).mono ?_;intro e w3 ho;rcases ho with⟨k2,s3,hq,rfl,hst3,hf3,hd3⟩ | hfalse;rotate_left;exact hfalse.elim;(first | (have HM3:=hide (bind_ok (uh HM2) hq)) | (have HM3:=hide ((uh HM2).trans hq)));have hfc:=hfb.step hf3;clear hf3 hq))
 all_goals
  go_wp2
  go_returns
  exact Out.good (uh HM3) rfl hst3 hfc (by omega)
set_option maxHeartbeats 8000000 in
theorem stmt_any_close {p T tv E r A s w}(h:PSt p T tv E r A s w) {lo:Rd}(hlo:Los p T tv E r lo) (ht:(look E s 0).text=⟨#[99,108,111,115,101]⟩) :
  Calls Tryz.prog 153 #[.pointer (some ⟨p,0,none⟩)] w (Out p T tv E r A w.heap.size 1 s w (stmt E r lo s) RNat):=by
 have hp:=h.lt
 have hroom:=h.room
 have hcap:=h.cap
 obtain⟨res,hres⟩:∃ res,res=stmt E r lo s:=⟨_,rfl⟩
 rw [← hres]
 have hpu:stmt E r lo s=(wordStmt E r lo 30) s:=by
  rw [stmt_at]
  unfold stmtOf
  rw [if_neg (by rw [ht];decide),if_pos ht]
 rw [hpu] at hres
 have HM:=hide hres
 have hf:=Fr.refl (p:=p) (Nat.le_refl w.heap.size) hp
 have hst:=h
 clear h hres hpu
 have hne:=hide (rest_ne_text ht (by decide))
 go_enter Tryz.func153,Tryz.ntmps153
 go_wp2_with (first
  | (go_at_call 126;refine (look0_any hst).mono ?_;rintro e w1 ⟨rfl,hb1⟩;replace hst:=hst.new hb1;replace hf:=hf.new hb1;clear hb1)
  | (go_at_call 167;refine (wordStmt_any (hst.alloc _) hlo _ (uh hne)).mono ?_;clear hst;intro e w1 ho;rcases ho.elim with⟨a,s1,v,hq,rfl,hR,hst,hf1,hd⟩ | ⟨c,q,hq,rfl,hb⟩;rotate_left;(first | exact⟨rfl,Out.ill (bind_bad (uh HM) hq) ((hf.new (blA _ _)).below' hb)⟩ | exact⟨rfl,Out.ill ((uh HM).trans hq) ((hf.new (blA _ _)).below' hb)⟩);(first | (replace HM:=hide (bind_ok (uh HM) hq)) | (replace HM:=hide ((uh HM).trans hq)));have hbx:=hide (hf1.keep _ _ (by first | (rw [szA];omega) | (show _<(World.alloc _ _).heap.size;rw [szA];omega)) (heap_alloc_new _ _) (by simp [PlainObj]));obtain⟨x0,x1,x2,x3,y0,y1,y2,y3⟩:=box4g (uh hbx);have hbl:=(Array.getElem?_eq_some_iff.1 (uh hbx)).1;replace hf:=(hf.new (blA _ _)).step hf1;unfold RNat at hR;subst hR;clear ho hf1 hq))
 go_returns
 exact Out.good (uh HM) rfl hst hf (by omega)
set_option maxHeartbeats 8000000 in
theorem stmt_any_panic {p T tv E r A s w}(h:PSt p T tv E r A s w) {lo:Rd}(hlo:Los p T tv E r lo) (ht:(look E s 0).text=⟨#[112,97,110,105,99]⟩) :
  Calls Tryz.prog 153 #[.pointer (some ⟨p,0,none⟩)] w (Out p T tv E r A w.heap.size 1 s w (stmt E r lo s) RNat):=by
 have hp:=h.lt
 have hroom:=h.room
 have hcap:=h.cap
 obtain⟨res,hres⟩:∃ res,res=stmt E r lo s:=⟨_,rfl⟩
 rw [← hres]
 have hpu:stmt E r lo s=(wordStmt E r lo 31) s:=by
  rw [stmt_at]
  unfold stmtOf
  rw [if_neg (by rw [ht];decide),if_neg (by rw [ht];decide),if_pos ht]
 rw [hpu] at hres
 have HM:=hide hres
 have hf:=Fr.refl (p:=p) (Nat.le_refl w.heap.size) hp
 have hst:=h
 clear h hres hpu
 have hne:=hide (rest_ne_text ht (by decide))
 go_enter Tryz.func153,Tryz.ntmps153
 go_wp2_with (first
  | (go_at_call 126;refine (look0_any hst).mono ?_;rintro e w1 ⟨rfl,hb1⟩;replace hst:=hst.new hb1;replace hf:=hf.new hb1;clear hb1)
  | (go_at_call 167;refine (wordStmt_any (hst.alloc _) hlo _ (uh hne)).mono ?_;clear hst;intro e w1 ho;rcases ho.elim with⟨a,s1,v,hq,rfl,hR,hst,hf1,hd⟩ | ⟨c,q,hq,rfl,hb⟩;rotate_left;(first | exact⟨rfl,Out.ill (bind_bad (uh HM) hq) ((hf.new (blA _ _)).below' hb)⟩ | exact⟨rfl,Out.ill ((uh HM).trans hq) ((hf.new (blA _ _)).below' hb)⟩);(first | (replace HM:=hide (bind_ok (uh HM) hq)) | (replace HM:=hide ((uh HM).trans hq)));have hbx:=hide (hf1.keep _ _ (by first | (rw [szA];omega) | (show _<(World.alloc _ _).heap.size;rw [szA];omega)) (heap_alloc_new _ _) (by simp [PlainObj]));obtain⟨x0,x1,x2,x3,y0,y1,y2,y3⟩:=box4g (uh hbx);have hbl:=(Array.getElem?_eq_some_iff.1 (uh hbx)).1;replace hf:=(hf.new (blA _ _)).step hf1;unfold RNat at hR;subst hR;clear ho hf1 hq))
 go_returns
 exact Out.good (uh HM) rfl hst hf (by omega)
set_option maxHeartbeats 8000000 in
theorem stmt_any_print {p T tv E r A s w}(h:PSt p T tv E r A s w) {lo:Rd}(hlo:Los p T tv E r lo) (ht:(look E s 0).text=⟨#[112,114,105,110,116]⟩) :
  Calls Tryz.prog 153 #[.pointer (some ⟨p,0,none⟩)] w (Out p T tv E r A w.heap.size 1 s w (stmt E r lo s) RNat):=by
 have hp:=h.lt
 have hroom:=h.room
 have hcap:=h.cap
 obtain⟨res,hres⟩:∃ res,res=stmt E r lo s:=⟨_,rfl⟩
 rw [← hres]
 have hpu:stmt E r lo s=(wordStmt E r lo 32) s:=by
  rw [stmt_at]
  unfold stmtOf
  rw [if_neg (by rw [ht];decide),if_neg (by rw [ht];decide),if_neg (by rw [ht];decide),if_pos ht]
 rw [hpu] at hres
 have HM:=hide hres
 have hf:=Fr.refl (p:=p) (Nat.le_refl w.heap.size) hp
 have hst:=h
 clear h hres hpu
 have hne:=hide (rest_ne_text ht (by decide))
 go_enter Tryz.func153,Tryz.ntmps153
 go_wp2_with (first
  | (go_at_call 126;refine (look0_any hst).mono ?_;rintro e w1 ⟨rfl,hb1⟩;replace hst:=hst.new hb1;replace hf:=hf.new hb1;clear hb1)
  | (go_at_call 167;refine (wordStmt_any (hst.alloc _) hlo _ (uh hne)).mono ?_;clear hst;intro e w1 ho;rcases ho.elim with⟨a,s1,v,hq,rfl,hR,hst,hf1,hd⟩ | ⟨c,q,hq,rfl,hb⟩;rotate_left;(first | exact⟨rfl,Out.ill (bind_bad (uh HM) hq) ((hf.new (blA _ _)).below' hb)⟩ | exact⟨rfl,Out.ill ((uh HM).trans hq) ((hf.new (blA _ _)).below' hb)⟩);(first | (replace HM:=hide (bind_ok (uh HM) hq)) | (replace HM:=hide ((uh HM).trans hq)));have hbx:=hide (hf1.keep _ _ (by first | (rw [szA];omega) | (show _<(World.alloc _ _).heap.size;rw [szA];omega)) (heap_alloc_new _ _) (by simp [PlainObj]));obtain⟨x0,x1,x2,x3,y0,y1,y2,y3⟩:=box4g (uh hbx);have hbl:=(Array.getElem?_eq_some_iff.1 (uh hbx)).1;replace hf:=(hf.new (blA _ _)).step hf1;unfold RNat at hR;subst hR;clear ho hf1 hq))
 go_returns
 exact Out.good (uh HM) rfl hst hf (by omega)
set_option maxHeartbeats 8000000 in
theorem stmt_any_if {p T tv E r A s w}(h:PSt p T tv E r A s w) {lo:Rd}(hlo:Los p T tv E r lo) (ht:(look E s 0).text=⟨#[105,102]⟩) :
  Calls Tryz.prog 153 #[.pointer (some ⟨p,0,none⟩)] w (Out p T tv E r A w.heap.size 1 s w (stmt E r lo s) RNat):=by
 have hp:=h.lt
 have hroom:=h.room
 have hcap:=h.cap
 obtain⟨res,hres⟩:∃ res,res=stmt E r lo s:=⟨_,rfl⟩
 rw [← hres]
 have hpu:stmt E r lo s=(ifStmt E r lo) s:=by
  rw [stmt_at]
  unfold stmtOf
  rw [if_neg (by rw [ht];decide),if_neg (by rw [ht];decide),if_neg (by rw [ht];decide),if_neg (by rw [ht];decide),if_pos ht]
 rw [hpu] at hres
 have HM:=hide hres
 have hf:=Fr.refl (p:=p) (Nat.le_refl w.heap.size) hp
 have hst:=h
 clear h hres hpu
 have hne:=hide (rest_ne_text ht (by decide))
 go_enter Tryz.func153,Tryz.ntmps153
 go_wp2_with (first
  | (go_at_call 126;refine (look0_any hst).mono ?_;rintro e w1 ⟨rfl,hb1⟩;replace hst:=hst.new hb1;replace hf:=hf.new hb1;clear hb1)
  | (go_at_call 168;refine (ifStmt_any (hst.alloc _) hlo).mono ?_;clear hst;intro e w1 ho;rcases ho.elim with⟨a,s1,v,hq,rfl,hR,hst,hf1,hd⟩ | ⟨c,q,hq,rfl,hb⟩;rotate_left;(first | exact⟨rfl,Out.ill (bind_bad (uh HM) hq) ((hf.new (blA _ _)).below' hb)⟩ | exact⟨rfl,Out.ill ((uh HM).trans hq) ((hf.new (blA _ _)).below' hb)⟩);(first | (replace HM:=hide (bind_ok (uh HM) hq)) | (replace HM:=hide ((uh HM).trans hq)));have hbx:=hide (hf1.keep _ _ (by first | (rw [szA];omega) | (show _<(World.alloc _ _).heap.size;rw [szA];omega)) (heap_alloc_new _ _) (by simp [PlainObj]));obtain⟨x0,x1,x2,x3,y0,y1,y2,y3⟩:=box4g (uh hbx);have hbl:=(Array.getElem?_eq_some_iff.1 (uh hbx)).1;replace hf:=(hf.new (blA _ _)).step hf1;unfold RNat at hR;subst hR;clear ho hf1 hq))
 go_returns
 exact Out.good (uh HM) rfl hst hf (by omega)
set_option maxHeartbeats 8000000 in
theorem stmt_any_for {p T tv E r A s w}(h:PSt p T tv E r A s w) {lo:Rd}(hlo:Los p T tv E r lo) (ht:(look E s 0).text=⟨#[102,111,114]⟩) :
  Calls Tryz.prog 153 #[.pointer (some ⟨p,0,none⟩)] w (Out p T tv E r A w.heap.size 1 s w (stmt E r lo s) RNat):=by
 have hp:=h.lt
 have hroom:=h.room
 have hcap:=h.cap
 obtain⟨res,hres⟩:∃ res,res=stmt E r lo s:=⟨_,rfl⟩
 rw [← hres]
 have hpu:stmt E r lo s=((next E).bind fun _=>(expr E r lo).bind fun c=>(block E r lo).bind fun b=>put ⟨23,(look E s 0).pos,0,⟨#[]⟩,[c,b]⟩) s:=by
  rw [stmt_at]
  unfold stmtOf
  rw [if_neg (by rw [ht];decide),if_neg (by rw [ht];decide),if_neg (by rw [ht];decide),if_neg (by rw [ht];decide),if_neg (by rw [ht];decide),if_pos ht]
 rw [hpu] at hres
 have HM:=hide hres
 have hf:=Fr.refl (p:=p) (Nat.le_refl w.heap.size) hp
 have hst:=h
 clear h hres hpu
 have hne:=hide (rest_ne_text ht (by decide))
 go_enter Tryz.func153,Tryz.ntmps153
 go_wp2_with (first
  | (go_at_call 126;refine (look0_any hst).mono ?_;rintro e w1 ⟨rfl,hb1⟩;replace hst:=hst.new hb1;replace hf:=hf.new hb1;clear hb1)
  | (go_at_call 102;refine (next_any (hst.alloc _) (uh hne)).mono ?_;clear hst;intro e w1 ho;rcases ho.elim with⟨a,s1,v,hq,rfl,hR,hst,hf1,hd⟩ | ⟨c,q,hq,rfl,hb⟩;rotate_left;(first | exact⟨rfl,Out.ill (bind_bad (uh HM) hq) ((hf.new (blA _ _)).below' hb)⟩ | exact⟨rfl,Out.ill ((uh HM).trans hq) ((hf.new (blA _ _)).below' hb)⟩);(first | (replace HM:=hide (bind_ok (uh HM) hq)) | (replace HM:=hide ((uh HM).trans hq)));have hbx:=hide (hf1.keep _ _ (by first | (rw [szA];omega) | (show _<(World.alloc _ _).heap.size;rw [szA];omega)) (heap_alloc_new _ _) (by simp [PlainObj]));obtain⟨x0,x1,x2,x3,y0,y1,y2,y3⟩:=box4g (uh hbx);have hbl:=(Array.getElem?_eq_some_iff.1 (uh hbx)).1;replace hf:=(hf.new (blA _ _)).step hf1;unfold RTok at hR;subst hR;clear ho hf1 hq)
  | (go_at_call 166;refine (expr_any hst hlo).mono ?_;clear hst;intro e w1 ho;rcases ho.elim with⟨a,s1,v,hq,rfl,hR,hst,hf1,hd⟩ | ⟨c,q,hq,rfl,hb⟩;rotate_left;(first | exact⟨rfl,Out.ill (bind_bad (uh HM) hq) (hf.below' hb)⟩ | exact⟨rfl,Out.ill ((uh HM).trans hq) (hf.below' hb)⟩);(first | (replace HM:=hide (bind_ok (uh HM) hq)) | (replace HM:=hide ((uh HM).trans hq)));replace hbx:=hide (hf1.keep _ _ (Array.getElem?_eq_some_iff.1 (uh hbx)).1 (uh hbx) (by simp [PlainObj]));obtain⟨x0,x1,x2,x3,y0,y1,y2,y3⟩:=box4g (uh hbx);have hbl:=(Array.getElem?_eq_some_iff.1 (uh hbx)).1;replace hf:=hf.step hf1;unfold RNat at hR;subst hR;clear ho hf1 hq))
 go_region_with (first
  | (go_at_call 133;refine (block_any hst.drew hlo).mono ?_;intro e w2 ho;rcases ho.elim with⟨k1,s2,v,hq,rfl,hR,hst2,hf2,hd2⟩ | ⟨c,q,hq,rfl,hb⟩;rotate_left;exact⟨rfl,Out.ill (bind_bad (uh HM) hq) ((hf.new (below_drew _)).below' hb)⟩;have HM2:=hide (bind_ok (uh HM) hq);have hfb:=(hf.new (below_drew _)).step hf2;have hbx2:=hide (hf2.keep _ _ (Array.getElem?_eq_some_iff.1 (uh hbx)).1 (uh hbx) (by simp [PlainObj]));obtain⟨x0,x1,x2,x3,y0,y1,y2,y3⟩:=box4g (uh hbx2);have hbl2:=(Array.getElem?_eq_some_iff.1 (uh hbx2)).1;unfold RNat at hR;subst hR;clear ho hq hf2)
  | (go_at_call 69;refine (put2 hst2 (by omega)).mono ?_;intro e w3 ho;rcases ho with⟨k2,s3,hq,rfl,hst3,hf3,hd3⟩ | hfalse;rotate_left;exact hfalse.elim;(first | (have HM3:=hide (bind_ok (uh HM2) hq)) | (have HM3:=hide ((uh HM2).trans hq)));have hfc:=hfb.step hf3;clear hf3 hq))
 all_goals
  go_wp2
  go_returns
  exact Out.good (uh HM3) rfl hst3 hfc (by omega)
set_option maxHeartbeats 8000000 in
theorem stmt_any_return {p T tv E r A s w}(h:PSt p T tv E r A s w) {lo:Rd}(hlo:Los p T tv E r lo) (ht:(look E s 0).text=⟨#[114,101,116,117,114,110]⟩) :
  Calls Tryz.prog 153 #[.pointer (some ⟨p,0,none⟩)] w (Out p T tv E r A w.heap.size 1 s w (stmt E r lo s) RNat):=by
 have hp:=h.lt
 have hroom:=h.room
 have hcap:=h.cap
 obtain⟨res,hres⟩:∃ res,res=stmt E r lo s:=⟨_,rfl⟩
 rw [← hres]
 have hpu:stmt E r lo s=(returnStmt E r lo) s:=by
  rw [stmt_at]
  unfold stmtOf
  rw [if_neg (by rw [ht];decide),if_neg (by rw [ht];decide),if_neg (by rw [ht];decide),if_neg (by rw [ht];decide),if_neg (by rw [ht];decide),if_neg (by rw [ht];decide),if_pos ht]
 rw [hpu] at hres
 have HM:=hide hres
 have hf:=Fr.refl (p:=p) (Nat.le_refl w.heap.size) hp
 have hst:=h
 clear h hres hpu
 have hne:=hide (rest_ne_text ht (by decide))
 go_enter Tryz.func153,Tryz.ntmps153
 go_wp2_with (first
  | (go_at_call 126;refine (look0_any hst).mono ?_;rintro e w1 ⟨rfl,hb1⟩;replace hst:=hst.new hb1;replace hf:=hf.new hb1;clear hb1)
  | (go_at_call 169;refine (returnStmt_any (hst.alloc _) hlo).mono ?_;clear hst;intro e w1 ho;rcases ho.elim with⟨a,s1,v,hq,rfl,hR,hst,hf1,hd⟩ | ⟨c,q,hq,rfl,hb⟩;rotate_left;(first | exact⟨rfl,Out.ill (bind_bad (uh HM) hq) ((hf.new (blA _ _)).below' hb)⟩ | exact⟨rfl,Out.ill ((uh HM).trans hq) ((hf.new (blA _ _)).below' hb)⟩);(first | (replace HM:=hide (bind_ok (uh HM) hq)) | (replace HM:=hide ((uh HM).trans hq)));have hbx:=hide (hf1.keep _ _ (by first | (rw [szA];omega) | (show _<(World.alloc _ _).heap.size;rw [szA];omega)) (heap_alloc_new _ _) (by simp [PlainObj]));obtain⟨x0,x1,x2,x3,y0,y1,y2,y3⟩:=box4g (uh hbx);have hbl:=(Array.getElem?_eq_some_iff.1 (uh hbx)).1;replace hf:=(hf.new (blA _ _)).step hf1;unfold RNat at hR;subst hR;clear ho hf1 hq))
 go_returns
 exact Out.good (uh HM) rfl hst hf (by omega)
set_option maxHeartbeats 8000000 in
theorem stmt_any_break {p T tv E r A s w}(h:PSt p T tv E r A s w) {lo:Rd}(hlo:Los p T tv E r lo) (ht:(look E s 0).text=⟨#[98,114,101,97,107]⟩) :
  Calls Tryz.prog 153 #[.pointer (some ⟨p,0,none⟩)] w (Out p T tv E r A w.heap.size 1 s w (stmt E r lo s) RNat):=by
 have hp:=h.lt
 have hroom:=h.room
 have hcap:=h.cap
 obtain⟨res,hres⟩:∃ res,res=stmt E r lo s:=⟨_,rfl⟩
 rw [← hres]
 have hpu:stmt E r lo s=((next E).bind fun _=>put ⟨25,(look E s 0).pos,0,⟨#[]⟩,[]⟩) s:=by
  rw [stmt_at]
  unfold stmtOf
  rw [if_neg (by rw [ht];decide),if_neg (by rw [ht];decide),if_neg (by rw [ht];decide),if_neg (by rw [ht];decide),if_neg (by rw [ht];decide),if_neg (by rw [ht];decide),if_neg (by rw [ht];decide),if_pos ht]
 rw [hpu] at hres
 have HM:=hide hres
 have hf:=Fr.refl (p:=p) (Nat.le_refl w.heap.size) hp
 have hst:=h
 clear h hres hpu
 have hne:=hide (rest_ne_text ht (by decide))
 go_enter Tryz.func153,Tryz.ntmps153
 go_wp2_with (first
  | (go_at_call 126;refine (look0_any hst).mono ?_;rintro e w1 ⟨rfl,hb1⟩;replace hst:=hst.new hb1;replace hf:=hf.new hb1;clear hb1)
  | (go_at_call 102;refine (next_any (hst.alloc _) (uh hne)).mono ?_;clear hst;intro e w1 ho;rcases ho.elim with⟨a,s1,v,hq,rfl,hR,hst,hf1,hd⟩ | ⟨c,q,hq,rfl,hb⟩;rotate_left;(first | exact⟨rfl,Out.ill (bind_bad (uh HM) hq) ((hf.new (blA _ _)).below' hb)⟩ | exact⟨rfl,Out.ill ((uh HM).trans hq) ((hf.new (blA _ _)).below' hb)⟩);(first | (replace HM:=hide (bind_ok (uh HM) hq)) | (replace HM:=hide ((uh HM).trans hq)));have hbx:=hide (hf1.keep _ _ (by first | (rw [szA];omega) | (show _<(World.alloc _ _).heap.size;rw [szA];omega)) (heap_alloc_new _ _) (by simp [PlainObj]));obtain⟨x0,x1,x2,x3,y0,y1,y2,y3⟩:=box4g (uh hbx);have hbl:=(Array.getElem?_eq_some_iff.1 (uh hbx)).1;replace hf:=(hf.new (blA _ _)).step hf1;unfold RTok at hR;subst hR;clear ho hf1 hq)
  | (go_at_call 69;refine (put0 hst (by omega)).mono ?_;clear hst;intro e w1 ho;rcases ho with⟨k,s1,hq,rfl,hst,hf1,hd⟩ | hfalse;rotate_left;exact hfalse.elim;(first | (replace HM:=hide (bind_ok (uh HM) hq)) | (replace HM:=hide ((uh HM).trans hq)));replace hf:=hf.step hf1;clear hf1 hq))
 go_returns
 exact Out.good (uh HM) rfl hst hf (by omega)
set_option maxHeartbeats 8000000 in
theorem stmt_any_select {p T tv E r A s w}(h:PSt p T tv E r A s w) {lo:Rd}(hlo:Los p T tv E r lo) (ht:(look E s 0).text=⟨#[115,101,108,101,99,116]⟩) :
  Calls Tryz.prog 153 #[.pointer (some ⟨p,0,none⟩)] w (Out p T tv E r A w.heap.size 1 s w (stmt E r lo s) RNat):=by
 have hp:=h.lt
 have hroom:=h.room
 have hcap:=h.cap
 obtain⟨res,hres⟩:∃ res,res=stmt E r lo s:=⟨_,rfl⟩
 rw [← hres]
 have hpu:stmt E r lo s=(selectStmt E r lo) s:=by
  rw [stmt_at]
  unfold stmtOf
  rw [if_neg (by rw [ht];decide),if_neg (by rw [ht];decide),if_neg (by rw [ht];decide),if_neg (by rw [ht];decide),if_neg (by rw [ht];decide),if_neg (by rw [ht];decide),if_neg (by rw [ht];decide),if_neg (by rw [ht];decide),if_pos ht]
 rw [hpu] at hres
 have HM:=hide hres
 have hf:=Fr.refl (p:=p) (Nat.le_refl w.heap.size) hp
 have hst:=h
 clear h hres hpu
 have hne:=hide (rest_ne_text ht (by decide))
 go_enter Tryz.func153,Tryz.ntmps153
 go_wp2_with (first
  | (go_at_call 126;refine (look0_any hst).mono ?_;rintro e w1 ⟨rfl,hb1⟩;replace hst:=hst.new hb1;replace hf:=hf.new hb1;clear hb1)
  | (go_at_call 170;refine (selectStmt_any (hst.alloc _) hlo).mono ?_;clear hst;intro e w1 ho;rcases ho.elim with⟨a,s1,v,hq,rfl,hR,hst,hf1,hd⟩ | ⟨c,q,hq,rfl,hb⟩;rotate_left;(first | exact⟨rfl,Out.ill (bind_bad (uh HM) hq) ((hf.new (blA _ _)).below' hb)⟩ | exact⟨rfl,Out.ill ((uh HM).trans hq) ((hf.new (blA _ _)).below' hb)⟩);(first | (replace HM:=hide (bind_ok (uh HM) hq)) | (replace HM:=hide ((uh HM).trans hq)));have hbx:=hide (hf1.keep _ _ (by first | (rw [szA];omega) | (show _<(World.alloc _ _).heap.size;rw [szA];omega)) (heap_alloc_new _ _) (by simp [PlainObj]));obtain⟨x0,x1,x2,x3,y0,y1,y2,y3⟩:=box4g (uh hbx);have hbl:=(Array.getElem?_eq_some_iff.1 (uh hbx)).1;replace hf:=(hf.new (blA _ _)).step hf1;unfold RNat at hR;subst hR;clear ho hf1 hq))
 go_returns
 exact Out.good (uh HM) rfl hst hf (by omega)
set_option maxHeartbeats 8000000 in
theorem stmt_any_plain {p T tv E r A s w}(h:PSt p T tv E r A s w) {lo:Rd}(hlo:Los p T tv E r lo) (h0:¬ (look E s 0).text=⟨#[103,111]⟩) (h1:¬ (look E s 0).text=⟨#[99,108,111,115,101]⟩) (h2:¬ (look E s 0).text=⟨#[112,97,110,105,99]⟩) (h3:¬ (look E s 0).text=⟨#[112,114,105,110,116]⟩) (h4:¬ (look E s 0).text=⟨#[105,102]⟩) (h5:¬ (look E s 0).text=⟨#[102,111,114]⟩) (h6:¬ (look E s 0).text=⟨#[114,101,116,117,114,110]⟩) (h7:¬ (look E s 0).text=⟨#[98,114,101,97,107]⟩) (h8:¬ (look E s 0).text=⟨#[115,101,108,101,99,116]⟩) :
  Calls Tryz.prog 153 #[.pointer (some ⟨p,0,none⟩)] w (Out p T tv E r A w.heap.size 1 s w (stmt E r lo s) RNat):=by
 have hp:=h.lt
 have hroom:=h.room
 have hcap:=h.cap
 obtain⟨res,hres⟩:∃ res,res=stmt E r lo s:=⟨_,rfl⟩
 rw [← hres]
 have hpu:stmt E r lo s=(plainStmt E r lo) s:=by
  rw [stmt_at]
  unfold stmtOf
  rw [if_neg h0,if_neg h1,if_neg h2,if_neg h3,if_neg h4,if_neg h5,if_neg h6,if_neg h7,if_neg h8]
 rw [hpu] at hres
 have HM:=hide hres
 have hf:=Fr.refl (p:=p) (Nat.le_refl w.heap.size) hp
 have hst:=h
 clear h hres hpu
 have n0:((look E s 0).text.toList == [103,111])=false:=text_ne h0
 have n1:((look E s 0).text.toList == [99,108,111,115,101])=false:=text_ne h1
 have n2:((look E s 0).text.toList == [112,97,110,105,99])=false:=text_ne h2
 have n3:((look E s 0).text.toList == [112,114,105,110,116])=false:=text_ne h3
 have n4:((look E s 0).text.toList == [105,102])=false:=text_ne h4
 have n5:((look E s 0).text.toList == [102,111,114])=false:=text_ne h5
 have n6:((look E s 0).text.toList == [114,101,116,117,114,110])=false:=text_ne h6
 have n7:((look E s 0).text.toList == [98,114,101,97,107])=false:=text_ne h7
 have n8:((look E s 0).text.toList == [115,101,108,101,99,116])=false:=text_ne h8
 go_enter Tryz.func153,Tryz.ntmps153
 go_wp2_with (first
  | (go_at_call 126;refine (look0_any hst).mono ?_;rintro e w1 ⟨rfl,hb1⟩;replace hst:=hst.new hb1;replace hf:=hf.new hb1;clear hb1)
  | (go_at_call 171;refine (plainStmt_any (hst.alloc _) hlo).mono ?_;clear hst;intro e w1 ho;rcases ho.elim with⟨a,s1,v,hq,rfl,hR,hst,hf1,hd⟩ | ⟨c,q,hq,rfl,hb⟩;rotate_left;(first | exact⟨rfl,Out.ill (bind_bad (uh HM) hq) ((hf.new (blA _ _)).below' hb)⟩ | exact⟨rfl,Out.ill ((uh HM).trans hq) ((hf.new (blA _ _)).below' hb)⟩);(first | (replace HM:=hide (bind_ok (uh HM) hq)) | (replace HM:=hide ((uh HM).trans hq)));have hbx:=hide (hf1.keep _ _ (by first | (rw [szA];omega) | (show _<(World.alloc _ _).heap.size;rw [szA];omega)) (heap_alloc_new _ _) (by simp [PlainObj]));obtain⟨x0,x1,x2,x3,y0,y1,y2,y3⟩:=box4g (uh hbx);have hbl:=(Array.getElem?_eq_some_iff.1 (uh hbx)).1;replace hf:=(hf.new (blA _ _)).step hf1;unfold RNat at hR;subst hR;clear ho hf1 hq))
 go_returns
 exact Out.good (uh HM) rfl hst hf (by omega)
theorem stmt_any {p T tv E r A s w}(h:PSt p T tv E r A s w) {lo:Rd}(hlo:Los p T tv E r lo) :
  Calls Tryz.prog 153 #[.pointer (some ⟨p,0,none⟩)] w (Out p T tv E r A w.heap.size 1 s w (stmt E r lo s) RNat):=by
 by_cases h0:(look E s 0).text=⟨#[103,111]⟩
 ·exact stmt_any_go h hlo h0
 by_cases h1:(look E s 0).text=⟨#[99,108,111,115,101]⟩
 ·exact stmt_any_close h hlo h1
 by_cases h2:(look E s 0).text=⟨#[112,97,110,105,99]⟩
 ·exact stmt_any_panic h hlo h2
 by_cases h3:(look E s 0).text=⟨#[112,114,105,110,116]⟩
 ·exact stmt_any_print h hlo h3
 by_cases h4:(look E s 0).text=⟨#[105,102]⟩
 ·exact stmt_any_if h hlo h4
 by_cases h5:(look E s 0).text=⟨#[102,111,114]⟩
 ·exact stmt_any_for h hlo h5
 by_cases h6:(look E s 0).text=⟨#[114,101,116,117,114,110]⟩
 ·exact stmt_any_return h hlo h6
 by_cases h7:(look E s 0).text=⟨#[98,114,101,97,107]⟩
 ·exact stmt_any_break h hlo h7
 by_cases h8:(look E s 0).text=⟨#[115,101,108,101,99,116]⟩
 ·exact stmt_any_select h hlo h8
 exact stmt_any_plain h hlo h0 h1 h2 h3 h4 h5 h6 h7 h8
theorem lo_of {p:Nat}{T:List Tok}{tv:Value}{E r:Nat}{lo:Rd}(hlo:Los p T tv E r lo):Lo p T tv E r (readers E r lo):={
 typ:=fun _ _ _ hs=>typ_any hs hlo
 typs:=fun _ _ _ hs=>listed_typ hs lo.typ fun r' A' hr=>((hlo r' hr).typ A').mono (by decide)
 chan:=fun _ _ _ hs=>channel_any hs hlo
 one:=fun _ _ _ hs=>one_any hs hlo
 expr:=fun _ _ _ hs=>expr_any hs hlo
 stmt:=fun _ _ _ hs=>stmt_any hs hlo
 ifs:=fun _ _ _ hs=>ifStmt_any hs hlo
 sel:=fun _ _ _ hs=>selectCase_any hs (fun _ _ _ hs'=>expr_any hs' hlo) (fun _ _ _ hs'=>stmt_any hs' hlo) }
theorem lo_all (p:Nat) (T:List Tok) (tv:Value) (E:Nat):∀ r,Lo p T tv E r (rd E r)
 | 0=>lo_of (lo:=noRd) fun r' hr=>by omega
 | r+1=>lo_of (lo:=rd E r) fun r' hr=>by
  have:r'=r:=by omega
  subst this
  exact lo_all p T tv E r'
theorem los_all (p:Nat) (T:List Tok) (tv:Value) (E r:Nat):Los p T tv E r (lower E r):=by
 intro r' hr
 subst hr
 exact lo_all p T tv E r'
end
section
open Go.RowKit
set_option maxHeartbeats 4000000 in
theorem methodSig_any {p T tv E r A s w}(h:PSt p T tv E r A s w) {lo:Rd}(hlo:Los p T tv E r lo) :
  Calls Tryz.prog 129 #[.pointer (some ⟨p,0,none⟩)] w (Out p T tv E r A w.heap.size 2 s w (methodSig E r lo s) RNat):=by
 have hp:=h.lt
 have hroom:=h.room
 have hcap:=h.cap
 obtain⟨res,hres⟩:∃ res,res=methodSig E r lo s:=⟨_,rfl⟩
 rw [← hres]
 unfold methodSig at hres
 have HM:=hide hres
 have hf:=Fr.refl (p:=p) (Nat.le_refl w.heap.size) hp
 have hst:=h
 clear h hres
 have hff1:=field_text
 have hff2:=field_pos
 have hff3:=field_kind
 have hff4:=field_num
 go_enter Tryz.func129,Tryz.ntmps129
 go_wp2_with (first
  | (go_at_call 144;refine (wantKind_any hst _ (by decide)).mono ?_;clear hst;intro e w1 ho;rcases ho.elim with⟨a,s1,v,hq,rfl,hR,hst,hf1,hd⟩ | ⟨c,q,hq,rfl,hb⟩;rotate_left;(first | exact⟨rfl,Out.ill (bind_bad (uh HM) hq) (hf.below' hb)⟩ | exact⟨rfl,Out.ill ((uh HM).trans hq) (hf.below' hb)⟩);(first | (replace HM:=hide (bind_ok (uh HM) hq)) | (replace HM:=hide ((uh HM).trans hq)));replace hf:=hf.step hf1;unfold RTok at hR;subst hR;clear ho hf1 hq))
 go_region_with (first
  | (go_at_call 132;refine (sig_any ((hst.alloc _).drew) hlo).mono ?_;intro e w2 ho;rcases ho.elim with⟨k1,s2,v,hq,rfl,hR,hst2,hf2,hd2⟩ | ⟨c,q,hq,rfl,hb⟩;rotate_left;exact⟨rfl,Out.ill (bind_bad (uh HM) hq) (((hf.new (blA _ _)).new (below_drew _)).below' hb)⟩;have HM2:=hide (bind_ok (uh HM) hq);have hfb:=((hf.new (blA _ _)).new (below_drew _)).step hf2;have hbx:=hide (hf2.keep _ _ (by first | (rw [szA];omega) | (show _<(World.alloc _ _).heap.size;rw [szA];omega)) (heap_alloc_new _ _) (by simp [PlainObj]));obtain⟨x0,x1,x2,x3,y0,y1,y2,y3⟩:=box4g (uh hbx);have hbl:=(Array.getElem?_eq_some_iff.1 (uh hbx)).1;unfold RNat at hR;subst hR;clear ho hq hf2)
  | (go_at_call 69;refine (put1 hst2 (by omega)).mono ?_;intro e w3 ho;rcases ho with⟨k2,s3,hq,rfl,hst3,hf3,hd3⟩ | hfalse;rotate_left;exact hfalse.elim;(first | (have HM3:=hide (bind_ok (uh HM2) hq)) | (have HM3:=hide ((uh HM2).trans hq)));have hfc:=hfb.step hf3;clear hf3 hq))
 all_goals
  go_wp2
  go_returns
  exact Out.good (uh HM3) rfl hst3 hfc (by omega)
set_option maxHeartbeats 4000000 in
theorem receiver_any {p T tv E r A s w}(h:PSt p T tv E r A s w) :
  Calls Tryz.prog 131 #[.pointer (some ⟨p,0,none⟩)] w (Out p T tv E r A w.heap.size 2 s w (receiver E r s) RNat):=by
 have hp:=h.lt
 have hroom:=h.room
 have hcap:=h.cap
 obtain⟨res,hres⟩:∃ res,res=receiver E r s:=⟨_,rfl⟩
 rw [← hres]
 unfold receiver at hres
 have HM:=hide hres
 have hf:=Fr.refl (p:=p) (Nat.le_refl w.heap.size) hp
 have hst:=h
 clear h hres
 have hff1:=field_text
 have hff2:=field_pos
 have hff3:=field_kind
 have hff4:=field_num
 go_enter Tryz.func131,Tryz.ntmps131
 go_wp2_with (first
  | (go_at_call_of 146 (1:Nat);refine (open1 hst (by decide)).mono ?_;clear hst;intro e w1 ho;rcases ho with⟨r',a,s1,rfl,hq,rfl,hst,hf1,hd⟩ | ⟨c,q,hq,rfl,hb⟩;rotate_left;exact⟨rfl,Out.ill (bind_bad (uh HM) hq) (hf.below' hb)⟩;replace HM:=hide (bind_ok (uh HM) hq);replace hf:=hf.step hf1;clear hf1 hq)
  | (go_at_call 144;refine (wantKind_any hst _ (by decide)).mono ?_;clear hst;intro e w1 ho;rcases ho.elim with⟨a,s1,v,hq,rfl,hR,hst,hf1,hd⟩ | ⟨c,q,hq,rfl,hb⟩;rotate_left;(first | exact⟨rfl,Out.ill (bind_bad (uh HM) hq) (hf.below' hb)⟩ | exact⟨rfl,Out.ill ((uh HM).trans hq) (hf.below' hb)⟩);(first | (replace HM:=hide (bind_ok (uh HM) hq)) | (replace HM:=hide ((uh HM).trans hq)));replace hf:=hf.step hf1;unfold RTok at hR;subst hR;clear ho hf1 hq)
  | (go_at_call 149;refine (pointer_any (hst.alloc _)).mono ?_;clear hst;intro e w1 ho;rcases ho.elim with⟨pk,s1,v,hq,rfl,hR,hst,hf1,hd⟩ | ⟨c,q,hq,rfl,hb⟩;rotate_left;exact⟨rfl,Out.ill (bind_bad (uh HM) hq) ((hf.new (blA _ _)).below' hb)⟩;replace HM:=hide (bind_ok (uh HM) hq);have hbx:=hide (hf1.keep _ _ (by first | (rw [szA];omega) | (show _<(World.alloc _ _).heap.size;rw [szA];omega)) (heap_alloc_new _ _) (by simp [PlainObj]));obtain⟨x0,x1,x2,x3,y0,y1,y2,y3⟩:=box4g (uh hbx);have hbl:=(Array.getElem?_eq_some_iff.1 (uh hbx)).1;replace hf:=(hf.new (blA _ _)).step hf1;unfold RNat at hR;subst hR;clear ho hf1 hq)
  | (go_at_call 148;refine (shut_any hst (by omega) _ (by decide)).mono ?_;clear hst;intro e w1 ho;rcases ho.elim with⟨a,s1,v,hq,rfl,hR,hst,hf1,hd⟩ | ⟨c,q,hq,rfl,hb⟩;rotate_left;(first | exact⟨rfl,Out.ill (bind_bad (uh HM) hq) (hf.below' hb)⟩ | exact⟨rfl,Out.ill ((uh HM).trans hq) (hf.below' hb)⟩);(first | (replace HM:=hide (bind_ok (uh HM) hq)) | (replace HM:=hide ((uh HM).trans hq)));replace hbx:=hide (hf1.keep _ _ (Array.getElem?_eq_some_iff.1 (uh hbx)).1 (uh hbx) (by simp [PlainObj]));obtain⟨x0,x1,x2,x3,y0,y1,y2,y3⟩:=box4g (uh hbx);have hbl:=(Array.getElem?_eq_some_iff.1 (uh hbx)).1;replace hf:=hf.step hf1;unfold RUnit at hR;subst hR;clear ho hf1 hq)
  | (go_at_call_of 69 (1:Nat);refine (put1 hst (by omega)).mono ?_;clear hst;intro e w1 ho;rcases ho with⟨k,s1,hq,rfl,hst,hf1,hd⟩ | hfalse;rotate_left;exact hfalse.elim;(first | (replace HM:=hide (bind_ok (uh HM) hq)) | (replace HM:=hide ((uh HM).trans hq)));replace hf:=hf.step hf1;clear hf1 hq))
 go_returns
 exact Out.good (uh HM) rfl hst hf (by omega)
def typeDecl (E r:Nat) (lo:Rd):M Nat :=
 (want E [⟨#[116,121,112,101]⟩]).bind fun t =>
 (wantName E).bind fun n =>
 (want E [⟨#[115,116,114,117,99,116]⟩,⟨#[105,110,116,101,114,102,97,99,101]⟩]).bind fun k =>
 if k.text=⟨#[105,110,116,101,114,102,97,99,101]⟩ then
  (braced E r (methodSig E (r - 1) (lower E (r - 1)))).bind fun c =>
  put ⟨12,t.pos,0,n,c.2⟩
 else
  (braced E r (typed E lo.typ 9)).bind fun c =>
  put ⟨10,t.pos,0,n,c.2⟩
theorem methodSig_reads {p:Nat}{T:List Tok}{tv:Value}{E r:Nat}:∀ r',r=r'+1→∀ A',Reads p T tv E r' A' 1 129 (methodSig E (r - 1) (lower E (r - 1))):=by
 intro r' hr A' s' w' hs'
 subst hr
 exact (methodSig_any hs' (los_all p T tv E r')).mono fun _ _ ho=>ho.mono (by decide)
set_option maxHeartbeats 4000000 in
theorem typeDecl_any {p T tv E r A s w}(h:PSt p T tv E r A s w) :
  Calls Tryz.prog 99 #[.pointer (some ⟨p,0,none⟩)] w (Out p T tv E r A w.heap.size 2 s w (typeDecl E r (lower E r) s) RNat):=by
 have HA:=h.sep
 have hp:=h.lt
 have hroom:=h.room
 have hcap:=h.cap
 obtain⟨res,hres⟩:∃ res,res=typeDecl E r (lower E r) s:=⟨_,rfl⟩
 rw [← hres]
 unfold typeDecl at hres
 have HM:=hide hres
 have hf:=Fr.refl (p:=p) (Nat.le_refl w.heap.size) hp
 have hst:=h
 clear h hres
 have hff1:=field_text
 have hff2:=field_pos
 have hff3:=field_kind
 have hff4:=field_num
 have hlo:=los_all p T tv E r
 go_enter Tryz.func99,Tryz.ntmps99
 go_wp2_with (first
  | (go_at_call_of 68 (1:Nat);refine (want1 hst (by decide)).mono ?_;clear hst;intro e w1 ho;rcases ho.elim with⟨a,s1,v,hq,rfl,hR,hst,hf1,hd⟩ | ⟨c,q,hq,rfl,hb⟩;rotate_left;(first | exact⟨rfl,Out.ill (bind_bad (uh HM) hq) (hf.below' hb)⟩ | exact⟨rfl,Out.ill ((uh HM).trans hq) (hf.below' hb)⟩);(first | (replace HM:=hide (bind_ok (uh HM) hq)) | (replace HM:=hide ((uh HM).trans hq)));replace hf:=hf.step hf1;unfold RTok at hR;subst hR;clear ho hf1 hq)
  | (go_at_call 127;refine (wantName_any hst).mono ?_;clear hst;intro e w1 ho;rcases ho.elim with⟨a,s1,v,hq,rfl,hR,hst,hf1,hd⟩ | ⟨c,q,hq,rfl,hb⟩;rotate_left;(first | exact⟨rfl,Out.ill (bind_bad (uh HM) hq) (hf.below' hb)⟩ | exact⟨rfl,Out.ill ((uh HM).trans hq) (hf.below' hb)⟩);(first | (replace HM:=hide (bind_ok (uh HM) hq)) | (replace HM:=hide ((uh HM).trans hq)));replace hf:=hf.step hf1;unfold RStr at hR;subst hR;clear ho hf1 hq)
  | (go_at_call_of 68 (2:Nat);refine (want2 hst (by decide)).mono ?_;clear hst;intro e w1 ho;rcases ho.elim with⟨kw,s1,v,hq,rfl,hR,hst,hf1,hd⟩ | ⟨c,q,hq,rfl,hb⟩;rotate_left;exact⟨rfl,Out.ill (bind_bad (uh HM) hq) (hf.below' hb)⟩;replace HM:=hide (bind_ok (uh HM) hq);replace hf:=hf.step hf1;unfold RTok at hR;subst hR;clear ho hf1 hq;by_cases hdef:kw.text=⟨#[105,110,116,101,114,102,97,99,101]⟩;(replace HM:=hide (ite_pos' (uh HM) hdef));rotate_left;(replace HM:=hide (ite_neg' (uh HM) hdef));have hn:=text_ne (a:=[105,110,116,101,114,102,97,99,101]) hdef;clear hdef;rotate_left)
  | (go_at_call_of 130 (129:Nat);refine (braced_methodSig hst _ methodSig_reads).mono ?_;intro e w1 ho;clear hst;rcases ho with⟨bx,ks,s1,kv,hq,rfl,hI,hst,hf1,hd,hkl⟩ | ⟨c,q,hq,rfl,hb⟩;rotate_left;exact⟨rfl,Out.ill (bind_bad (uh HM) hq) (hf.below' hb)⟩;replace HM:=hide (bind_ok (uh HM) hq);replace hI:=own_lower hI hf.size;replace hf:=hf.step hf1;obtain⟨kva,kvc,rfl⟩:=own_len hI;clear hq hf1)
  | (go_at_call_of 130 (128:Nat);refine (braced_field hst _ fun r' hr A' s' w' hs'=>(field_any hs' (hlo r' hr).typ).mono fun _ _ ho=>ho.mono (by decide)).mono ?_;intro e w1 ho;clear hst;rcases ho with⟨bx,ks,s1,kv,hq,rfl,hI,hst,hf1,hd,hkl⟩ | ⟨c,q,hq,rfl,hb⟩;rotate_left;exact⟨rfl,Out.ill (bind_bad (uh HM) hq) (hf.below' hb)⟩;replace HM:=hide (bind_ok (uh HM) hq);replace hI:=own_lower hI hf.size;replace hf:=hf.step hf1;obtain⟨kva,kvc,rfl⟩:=own_len hI;clear hq hf1)
  | (go_at_call 69;refine (putL hst.unlist (by omega) hI hp HA).mono ?_;clear hst;intro e w1 ho;rcases ho with⟨k,s1,hq,rfl,hst,hf1,hd⟩ | hfalse;rotate_left;exact hfalse.elim;(first | (replace HM:=hide (bind_ok (uh HM) hq)) | (replace HM:=hide ((uh HM).trans hq)));replace hf:=hf.step hf1;clear hf1 hq))
 all_goals
  go_returns
  exact Out.good (uh HM) rfl hst hf (by omega)
theorem box5 {w1:World}{g:Nat}{a b c d f:Value}{t:TypeId}(h:w1.heap[g]? = some (.cells #[a,b,c,d,f] t (0,0))) :
  w1.cell? ⟨g,0,none⟩=some a∧w1.cell? ⟨g,1,none⟩=some b∧w1.cell? ⟨g,2,none⟩=some c∧w1.cell? ⟨g,3,none⟩=some d∧w1.cell? ⟨g,4,none⟩=some f ∧
  w1.frozen? ⟨g,0,none⟩=false∧w1.frozen? ⟨g,3,none⟩=false:=by
 simp [World.cell?,World.frozen?,h]
end
end Go.Proofs.YtdemnolanlfblaaGreatDoor
