import Derived.Test.YtdemnolanlfblaaGreatDoorYPCat
set_option linter.all false
namespace Go.Proofs.YtdemnolanlfblaaGreatDoor
section
open Go.RowKit
theorem partGo_at {E r:Nat}{lo:Rd}{n k:Nat}{s:PS}:partGo E r lo (n+1) k s=M.bind (is E [⟨#[46]⟩,⟨#[40]⟩]) (fun yes=>if yes=true then (is E [⟨#[40]⟩]).bind fun yes=>if yes=true then (call E r lo k).bind fun k'=>partGo E r lo n k' else (dot E r lo k).bind fun k'=>partGo E r lo n k' else M.ret k) s:=rfl
set_option maxHeartbeats 8000000 in
theorem npart_any {p T tv E r A s w}(h:PSt p T tv E r A s w) {lo:Rd}(hlo:Los p T tv E r lo) :
  Calls Tryz.prog 190 #[.pointer (some ⟨p,0,none⟩)] w (Out p T tv E r A w.heap.size 2 s w (part E r lo s) RNat):=by
 have hp:=h.lt
 have hroom:=h.room
 have hcap:=h.cap
 obtain⟨res,hres⟩:∃ res,res=part E r lo s:=⟨_,rfl⟩
 rw [← hres]
 unfold part at hres
 have HM:=hide hres
 have hf:=Fr.refl (p:=p) (Nat.le_refl w.heap.size) hp
 have hst:=h
 clear h hres
 have hff1:=field_text
 have hff2:=field_pos
 have hff3:=field_kind
 have hff4:=field_num
 go_enter Tryz.func190,Tryz.ntmps190
 go_wp2_with (first
  | (go_at_call 195;refine (first_any hst hlo).mono ?_;clear hst;intro e w1 ho;rcases ho.elim with⟨a,s1,v,hq,rfl,hR,hst,hf1,hd⟩ | ⟨c,q,hq,rfl,hb⟩;rotate_left;(first | exact⟨rfl,Out.ill (bind_bad (uh HM) hq) (hf.below' hb)⟩ | exact⟨rfl,Out.ill ((uh HM).trans hq) (hf.below' hb)⟩);(first | (replace HM:=hide (bind_ok (uh HM) hq)) | (replace HM:=hide ((uh HM).trans hq)));replace hf:=hf.step hf1;unfold RNat at hR;subst hR;clear ho hf1 hq))
 have HM2:Hid (res=partGo E r lo (phi s1+1) a s1):=HM
 clear HM
 go_loopg [3] (phi s1+1) (fun k v wr=>∃ n s2,v=.int .i64 ((n:Nat):Int)∧phi s2<k∧phi s2≤phi s1∧PSt p T tv E r A s2 wr∧Fr p w.heap.size w wr∧Hid (res=partGo E r lo k n s2))
 case atStart=>exact⟨a,s1,rfl,by omega,Nat.le_refl _,hst,hf,HM2⟩
 case round =>
  clear hst hf HM2
  obtain⟨k,s2,rfl,hk,hle,hst,hf,HM⟩:=hrel
  obtain⟨n,rfl⟩:∃ n,gk=n+1:=⟨gk - 1,by omega⟩
  replace HM:=hide ((uh HM).trans partGo_at)
  go_wp2_with (first
   | (go_at_call_of 98 (2:Nat);refine (is2b hst).mono ?_;rintro e w1 ⟨y,rfl,hy,hb1⟩;replace hst:=hst.new hb1;replace hf:=hf.new hb1;replace HM:=hide (bind_is (uh HM) hy);clear hb1;cases y;(try (replace HM:=hide (ite_no (uh HM) rfl)));rotate_left;(try (replace HM:=hide (ite_yes (uh HM) rfl)));(try (have hne:=hide (rest_ne_is hy (by decide))));(try (clear hy));rotate_left;(try (clear hy)))
   | (go_at_call_of 98 (1:Nat);refine (is1b hst).mono ?_;rintro e w1 ⟨y,rfl,hy,hb1⟩;replace hst:=hst.new hb1;replace hf:=hf.new hb1;replace HM:=hide (bind_is (uh HM) hy);clear hb1;cases y;(try (replace HM:=hide (ite_no (uh HM) rfl)));rotate_left;(try (replace HM:=hide (ite_yes (uh HM) rfl)));(try (have hne:=hide (rest_ne_is hy (by decide))));(try (clear hy));rotate_left;(try (clear hy)))
   | (go_at_call 196;refine (call_any hst hlo _).mono ?_;clear hst;intro e w1 ho;rcases ho.elim with⟨a,s1,v,hq,rfl,hR,hst,hf1,hd⟩ | ⟨c,q,hq,rfl,hb⟩;rotate_left;(first | exact⟨rfl,Out.ill (bind_bad (uh HM) hq) (hf.below' hb)⟩ | exact⟨rfl,Out.ill ((uh HM).trans hq) (hf.below' hb)⟩);(first | (replace HM:=hide (bind_ok (uh HM) hq)) | (replace HM:=hide ((uh HM).trans hq)));replace hf:=hf.step hf1;unfold RNat at hR;subst hR;clear ho hf1 hq)
   | (go_at_call 197;refine (dot_any hst hlo _).mono ?_;clear hst;intro e w1 ho;rcases ho.elim with⟨a,s1,v,hq,rfl,hR,hst,hf1,hd⟩ | ⟨c,q,hq,rfl,hb⟩;rotate_left;(first | exact⟨rfl,Out.ill (bind_bad (uh HM) hq) (hf.below' hb)⟩ | exact⟨rfl,Out.ill ((uh HM).trans hq) (hf.below' hb)⟩);(first | (replace HM:=hide (bind_ok (uh HM) hq)) | (replace HM:=hide ((uh HM).trans hq)));replace hf:=hf.step hf1;unfold RNat at hR;subst hR;clear ho hf1 hq))
  ·go_returns
   exact Out.good (uh HM) rfl hst hf (by omega)
  ·go_roundg n
   case measure=>omega
   case rel=>exact⟨_,_,rfl,by omega,by omega,hst,hf,HM⟩
  ·go_roundg n
   case measure=>omega
   case rel=>exact⟨_,_,rfl,by omega,by omega,hst,hf,HM⟩
set_option maxHeartbeats 8000000 in
theorem signed_any {p T tv E r A s w}(h:PSt p T tv E r A s w) {lo:Rd}(hlo:Los p T tv E r lo) (kind:Int) :
  Calls Tryz.prog 189 #[.pointer (some ⟨p,0,none⟩),.int .i64 kind] w (Out p T tv E r A w.heap.size 2 s w (signed E r lo kind s) RNat):=by
 have hp:=h.lt
 have hroom:=h.room
 have hcap:=h.cap
 obtain⟨res,hres⟩:∃ res,res=signed E r lo kind s:=⟨_,rfl⟩
 rw [← hres]
 unfold signed at hres
 have HM:=hide hres
 have hf:=Fr.refl (p:=p) (Nat.le_refl w.heap.size) hp
 have hst:=h
 clear h hres
 have hff1:=field_text
 have hff2:=field_pos
 have hff3:=field_kind
 have hff4:=field_num
 go_enter Tryz.func189,Tryz.ntmps189
 go_wp2_with (first
  | (go_at_call_of 146 (3:Nat);refine (open3 hst (by decide)).mono ?_;clear hst;intro e w1 ho;rcases ho with⟨r',a,s1,rfl,hq,rfl,hst,hf1,hd⟩ | ⟨c,q,hq,rfl,hb⟩;rotate_left;exact⟨rfl,Out.ill (bind_bad (uh HM) hq) (hf.below' hb)⟩;replace HM:=hide (bind_ok (uh HM) hq);replace hf:=hf.step hf1;clear hf1 hq)
  | (go_at_call 184;refine ((hlo _ rfl).one _ _ _ hst).mono ?_;clear hst;intro e w1 ho;rcases ho.elim with⟨a,s1,v,hq,rfl,hR,hst,hf1,hd⟩ | ⟨c,q,hq,rfl,hb⟩;rotate_left;(first | exact⟨rfl,Out.ill (bind_bad (uh HM) hq) (hf.below' hb)⟩ | exact⟨rfl,Out.ill ((uh HM).trans hq) (hf.below' hb)⟩);(first | (replace HM:=hide (bind_ok (uh HM) hq)) | (replace HM:=hide ((uh HM).trans hq)));replace hf:=hf.step hf1;unfold RNat at hR;subst hR;clear ho hf1 hq)
  | (go_at_call 165;refine (leave_any hst (by omega)).mono ?_;clear hst;rintro e w1 ⟨rfl,hst,hf1⟩;(try (replace hI:=own_fr hI hf1 (by decide) (by decide)));replace hf:=hf.step hf1;clear hf1)
  | (go_at_call_of 69 (1:Nat);refine (put1 hst (by omega)).mono ?_;clear hst;intro e w1 ho;rcases ho with⟨k,s1,hq,rfl,hst,hf1,hd⟩ | hfalse;rotate_left;exact hfalse.elim;(first | (replace HM:=hide (bind_ok (uh HM) hq)) | (replace HM:=hide ((uh HM).trans hq)));replace hf:=hf.step hf1;clear hf1 hq))
 go_returns
 exact Out.good (uh HM) rfl hst hf (by omega)
def oneOf (E r:Nat) (lo:Rd) (t:Tok):M Nat :=
 if t.text=⟨#[33]⟩ then signed E r lo 43
 else if t.text=⟨#[45]⟩ then signed E r lo 44
 else if t.text=⟨#[60,45]⟩ then signed E r lo 45
 else part E r lo
theorem one_at {E r:Nat}{lo:Rd}{s:PS}:one E r lo s=oneOf E r lo (look E s 0) s:=rfl
set_option maxHeartbeats 8000000 in
theorem one_any_not {p T tv E r A s w}(h:PSt p T tv E r A s w) {lo:Rd}(hlo:Los p T tv E r lo) (ht:(look E s 0).text=⟨#[33]⟩) :
  Calls Tryz.prog 184 #[.pointer (some ⟨p,0,none⟩)] w (Out p T tv E r A w.heap.size 2 s w (one E r lo s) RNat):=by
 have hp:=h.lt
 have hroom:=h.room
 have hcap:=h.cap
 have hff1:=field_text
 obtain⟨res,hres⟩:∃ res,res=one E r lo s:=⟨_,rfl⟩
 rw [← hres]
 have hpu:one E r lo s=(signed E r lo 43) s:=by
  rw [one_at]
  unfold oneOf
  rw [if_pos ht]
 rw [hpu] at hres
 have HM:=hide hres
 have hf:=Fr.refl (p:=p) (Nat.le_refl w.heap.size) hp
 have hst:=h
 clear h hres hpu
 go_enter Tryz.func184,Tryz.ntmps184
 go_wp2_with (first
  | (go_at_call 126;refine (look0_any hst).mono ?_;rintro e w1 ⟨rfl,hb1⟩;replace hst:=hst.new hb1;replace hf:=hf.new hb1;clear hb1)
  | (go_at_call 189;refine (signed_any hst hlo _).mono ?_;clear hst;intro e w1 ho;rcases ho.elim with⟨a,s1,v,hq,rfl,hR,hst,hf1,hd⟩ | ⟨c,q,hq,rfl,hb⟩;rotate_left;(first | exact⟨rfl,Out.ill (bind_bad (uh HM) hq) (hf.below' hb)⟩ | exact⟨rfl,Out.ill ((uh HM).trans hq) (hf.below' hb)⟩);(first | (replace HM:=hide (bind_ok (uh HM) hq)) | (replace HM:=hide ((uh HM).trans hq)));skip;replace hf:=hf.step hf1;unfold RNat at hR;subst hR;clear ho hf1 hq))
 go_returns
 exact Out.good (uh HM) rfl hst hf (by omega)
set_option maxHeartbeats 8000000 in
theorem one_any_neg {p T tv E r A s w}(h:PSt p T tv E r A s w) {lo:Rd}(hlo:Los p T tv E r lo) (ht:(look E s 0).text=⟨#[45]⟩) :
  Calls Tryz.prog 184 #[.pointer (some ⟨p,0,none⟩)] w (Out p T tv E r A w.heap.size 2 s w (one E r lo s) RNat):=by
 have hp:=h.lt
 have hroom:=h.room
 have hcap:=h.cap
 have hff1:=field_text
 obtain⟨res,hres⟩:∃ res,res=one E r lo s:=⟨_,rfl⟩
 rw [← hres]
 have hpu:one E r lo s=(signed E r lo 44) s:=by
  rw [one_at]
  unfold oneOf
  rw [if_neg (by rw [ht];decide),if_pos ht]
 rw [hpu] at hres
 have HM:=hide hres
 have hf:=Fr.refl (p:=p) (Nat.le_refl w.heap.size) hp
 have hst:=h
 clear h hres hpu
 go_enter Tryz.func184,Tryz.ntmps184
 go_wp2_with (first
  | (go_at_call 126;refine (look0_any hst).mono ?_;rintro e w1 ⟨rfl,hb1⟩;replace hst:=hst.new hb1;replace hf:=hf.new hb1;clear hb1)
  | (go_at_call 189;refine (signed_any hst hlo _).mono ?_;clear hst;intro e w1 ho;rcases ho.elim with⟨a,s1,v,hq,rfl,hR,hst,hf1,hd⟩ | ⟨c,q,hq,rfl,hb⟩;rotate_left;(first | exact⟨rfl,Out.ill (bind_bad (uh HM) hq) (hf.below' hb)⟩ | exact⟨rfl,Out.ill ((uh HM).trans hq) (hf.below' hb)⟩);(first | (replace HM:=hide (bind_ok (uh HM) hq)) | (replace HM:=hide ((uh HM).trans hq)));skip;replace hf:=hf.step hf1;unfold RNat at hR;subst hR;clear ho hf1 hq))
 go_returns
 exact Out.good (uh HM) rfl hst hf (by omega)
set_option maxHeartbeats 8000000 in
theorem one_any_recv {p T tv E r A s w}(h:PSt p T tv E r A s w) {lo:Rd}(hlo:Los p T tv E r lo) (ht:(look E s 0).text=⟨#[60,45]⟩) :
  Calls Tryz.prog 184 #[.pointer (some ⟨p,0,none⟩)] w (Out p T tv E r A w.heap.size 2 s w (one E r lo s) RNat):=by
 have hp:=h.lt
 have hroom:=h.room
 have hcap:=h.cap
 have hff1:=field_text
 obtain⟨res,hres⟩:∃ res,res=one E r lo s:=⟨_,rfl⟩
 rw [← hres]
 have hpu:one E r lo s=(signed E r lo 45) s:=by
  rw [one_at]
  unfold oneOf
  rw [if_neg (by rw [ht];decide),if_neg (by rw [ht];decide),if_pos ht]
 rw [hpu] at hres
 have HM:=hide hres
 have hf:=Fr.refl (p:=p) (Nat.le_refl w.heap.size) hp
 have hst:=h
 clear h hres hpu
 go_enter Tryz.func184,Tryz.ntmps184
 go_wp2_with (first
  | (go_at_call 126;refine (look0_any hst).mono ?_;rintro e w1 ⟨rfl,hb1⟩;replace hst:=hst.new hb1;replace hf:=hf.new hb1;clear hb1)
  | (go_at_call 189;refine (signed_any hst hlo _).mono ?_;clear hst;intro e w1 ho;rcases ho.elim with⟨a,s1,v,hq,rfl,hR,hst,hf1,hd⟩ | ⟨c,q,hq,rfl,hb⟩;rotate_left;(first | exact⟨rfl,Out.ill (bind_bad (uh HM) hq) (hf.below' hb)⟩ | exact⟨rfl,Out.ill ((uh HM).trans hq) (hf.below' hb)⟩);(first | (replace HM:=hide (bind_ok (uh HM) hq)) | (replace HM:=hide ((uh HM).trans hq)));skip;replace hf:=hf.step hf1;unfold RNat at hR;subst hR;clear ho hf1 hq))
 go_returns
 exact Out.good (uh HM) rfl hst hf (by omega)
set_option maxHeartbeats 8000000 in
theorem one_any_part {p T tv E r A s w}(h:PSt p T tv E r A s w) {lo:Rd}(hlo:Los p T tv E r lo) (h0:¬ (look E s 0).text=⟨#[33]⟩) (h1:¬ (look E s 0).text=⟨#[45]⟩) (h2:¬ (look E s 0).text=⟨#[60,45]⟩) :
  Calls Tryz.prog 184 #[.pointer (some ⟨p,0,none⟩)] w (Out p T tv E r A w.heap.size 2 s w (one E r lo s) RNat):=by
 have hp:=h.lt
 have hroom:=h.room
 have hcap:=h.cap
 have hff1:=field_text
 obtain⟨res,hres⟩:∃ res,res=one E r lo s:=⟨_,rfl⟩
 rw [← hres]
 have hpu:one E r lo s=(part E r lo) s:=by
  rw [one_at]
  unfold oneOf
  rw [if_neg h0,if_neg h1,if_neg h2]
 rw [hpu] at hres
 have HM:=hide hres
 have hf:=Fr.refl (p:=p) (Nat.le_refl w.heap.size) hp
 have hst:=h
 clear h hres hpu
 have n0:((look E s 0).text.toList == [33])=false:=text_ne h0
 have n1:((look E s 0).text.toList == [45])=false:=text_ne h1
 have n2:((look E s 0).text.toList == [60,45])=false:=text_ne h2
 go_enter Tryz.func184,Tryz.ntmps184
 go_wp2_with (first
  | (go_at_call 126;refine (look0_any hst).mono ?_;rintro e w1 ⟨rfl,hb1⟩;replace hst:=hst.new hb1;replace hf:=hf.new hb1;clear hb1)
  | (go_at_call 190;refine (npart_any hst hlo).mono ?_;clear hst;intro e w1 ho;rcases ho.elim with⟨a,s1,v,hq,rfl,hR,hst,hf1,hd⟩ | ⟨c,q,hq,rfl,hb⟩;rotate_left;(first | exact⟨rfl,Out.ill (bind_bad (uh HM) hq) (hf.below' hb)⟩ | exact⟨rfl,Out.ill ((uh HM).trans hq) (hf.below' hb)⟩);(first | (replace HM:=hide (bind_ok (uh HM) hq)) | (replace HM:=hide ((uh HM).trans hq)));skip;replace hf:=hf.step hf1;unfold RNat at hR;subst hR;clear ho hf1 hq))
 go_returns
 exact Out.good (uh HM) rfl hst hf (by omega)
theorem one_any {p T tv E r A s w}(h:PSt p T tv E r A s w) {lo:Rd}(hlo:Los p T tv E r lo) :
  Calls Tryz.prog 184 #[.pointer (some ⟨p,0,none⟩)] w (Out p T tv E r A w.heap.size 2 s w (one E r lo s) RNat):=by
 by_cases h0:(look E s 0).text=⟨#[33]⟩
 ·exact one_any_not h hlo h0
 by_cases h1:(look E s 0).text=⟨#[45]⟩
 ·exact one_any_neg h hlo h1
 by_cases h2:(look E s 0).text=⟨#[60,45]⟩
 ·exact one_any_recv h hlo h2
 exact one_any_part h hlo h0 h1 h2
end
section
open Go.RowKit
set_option maxHeartbeats 4000000 in
theorem signLevel_any (x:ByteArray) (w:World):Calls Tryz.prog 185 #[.string x] w fun e w'=>e=.returned (.int .i64 ((signLevel x:Nat):Int))∧w'=w:=by
 by_cases h0:x=⟨#[124,124]⟩
 ·subst h0
  have hl:signLevel ⟨#[124,124]⟩=1:=by decide
  rw [hl]
  go_enter Tryz.func185,Tryz.ntmps185
  go_wp2
  go_ret
  exact⟨rfl,rfl⟩
 by_cases h1:x=⟨#[38,38]⟩
 ·subst h1
  have hl:signLevel ⟨#[38,38]⟩=2:=by decide
  rw [hl]
  go_enter Tryz.func185,Tryz.ntmps185
  go_wp2
  go_ret
  exact⟨rfl,rfl⟩
 by_cases h2:x=⟨#[61,61]⟩
 ·subst h2
  have hl:signLevel ⟨#[61,61]⟩=3:=by decide
  rw [hl]
  go_enter Tryz.func185,Tryz.ntmps185
  go_wp2
  go_ret
  exact⟨rfl,rfl⟩
 by_cases h3:x=⟨#[33,61]⟩
 ·subst h3
  have hl:signLevel ⟨#[33,61]⟩=3:=by decide
  rw [hl]
  go_enter Tryz.func185,Tryz.ntmps185
  go_wp2
  go_ret
  exact⟨rfl,rfl⟩
 by_cases h4:x=⟨#[60]⟩
 ·subst h4
  have hl:signLevel ⟨#[60]⟩=3:=by decide
  rw [hl]
  go_enter Tryz.func185,Tryz.ntmps185
  go_wp2
  go_ret
  exact⟨rfl,rfl⟩
 by_cases h5:x=⟨#[60,61]⟩
 ·subst h5
  have hl:signLevel ⟨#[60,61]⟩=3:=by decide
  rw [hl]
  go_enter Tryz.func185,Tryz.ntmps185
  go_wp2
  go_ret
  exact⟨rfl,rfl⟩
 by_cases h6:x=⟨#[62]⟩
 ·subst h6
  have hl:signLevel ⟨#[62]⟩=3:=by decide
  rw [hl]
  go_enter Tryz.func185,Tryz.ntmps185
  go_wp2
  go_ret
  exact⟨rfl,rfl⟩
 by_cases h7:x=⟨#[62,61]⟩
 ·subst h7
  have hl:signLevel ⟨#[62,61]⟩=3:=by decide
  rw [hl]
  go_enter Tryz.func185,Tryz.ntmps185
  go_wp2
  go_ret
  exact⟨rfl,rfl⟩
 by_cases h8:x=⟨#[43]⟩
 ·subst h8
  have hl:signLevel ⟨#[43]⟩=4:=by decide
  rw [hl]
  go_enter Tryz.func185,Tryz.ntmps185
  go_wp2
  go_ret
  exact⟨rfl,rfl⟩
 by_cases h9:x=⟨#[45]⟩
 ·subst h9
  have hl:signLevel ⟨#[45]⟩=4:=by decide
  rw [hl]
  go_enter Tryz.func185,Tryz.ntmps185
  go_wp2
  go_ret
  exact⟨rfl,rfl⟩
 by_cases h10:x=⟨#[42]⟩
 ·subst h10
  have hl:signLevel ⟨#[42]⟩=5:=by decide
  rw [hl]
  go_enter Tryz.func185,Tryz.ntmps185
  go_wp2
  go_ret
  exact⟨rfl,rfl⟩
 by_cases h11:x=⟨#[47]⟩
 ·subst h11
  have hl:signLevel ⟨#[47]⟩=5:=by decide
  rw [hl]
  go_enter Tryz.func185,Tryz.ntmps185
  go_wp2
  go_ret
  exact⟨rfl,rfl⟩
 by_cases h12:x=⟨#[37]⟩
 ·subst h12
  have hl:signLevel ⟨#[37]⟩=5:=by decide
  rw [hl]
  go_enter Tryz.func185,Tryz.ntmps185
  go_wp2
  go_ret
  exact⟨rfl,rfl⟩
 have hl:signLevel x=0:=by
  unfold signLevel
  simp [h0,h1,h2,h3,h4,h5,h6,h7,h8,h9,h10,h11,h12]
 rw [hl]
 have n0:(x.toList == [124,124])=false:=text_ne h0
 have n1:(x.toList == [38,38])=false:=text_ne h1
 have n2:(x.toList == [61,61])=false:=text_ne h2
 have n3:(x.toList == [33,61])=false:=text_ne h3
 have n4:(x.toList == [60])=false:=text_ne h4
 have n5:(x.toList == [60,61])=false:=text_ne h5
 have n6:(x.toList == [62])=false:=text_ne h6
 have n7:(x.toList == [62,61])=false:=text_ne h7
 have n8:(x.toList == [43])=false:=text_ne h8
 have n9:(x.toList == [45])=false:=text_ne h9
 have n10:(x.toList == [42])=false:=text_ne h10
 have n11:(x.toList == [47])=false:=text_ne h11
 have n12:(x.toList == [37])=false:=text_ne h12
 go_enter Tryz.func185,Tryz.ntmps185
 go_wp2
 go_ret
 exact⟨rfl,rfl⟩
theorem opsGo_yes {E level n left:Nat}{o:M Nat}{s:PS}(h:signLevel (look E s 0).text=level):opsGo E level o (n+1) left s=M.bind (next E) (fun g=>o.bind fun k=>(put ⟨46,g.pos,0,g.text,[left,k]⟩).bind fun left'=>opsGo E level o n left') s:=by
 have h1:opsGo E level o (n+1) left s=(if signLevel (look E s 0).text=level then (next E).bind (fun g=>o.bind fun k=>(put ⟨46,g.pos,0,g.text,[left,k]⟩).bind fun left'=>opsGo E level o n left') else M.ret left) s:=rfl
 rw [h1,if_pos h]
theorem opsGo_no {E level n left:Nat}{o:M Nat}{s:PS}(h:¬ signLevel (look E s 0).text=level):opsGo E level o (n+1) left s=.ok left s:=by
 have h1:opsGo E level o (n+1) left s=(if signLevel (look E s 0).text=level then (next E).bind (fun g=>o.bind fun k=>(put ⟨46,g.pos,0,g.text,[left,k]⟩).bind fun left'=>opsGo E level o n left') else M.ret left) s:=rfl
 rw [h1,if_neg h]
 rfl
theorem wrap_small (L:Int) (hL1:1≤L) (hL5:L≤5):IntKind.i64.wrap (L+1)=L+1:=by
 unfold IntKind.wrap
 simp [IntKind.bits,IntKind.signed]
 omega
theorem rest_ne_level {E:Nat}{s:PS}(h:¬ signLevel (look E s 0).text=0):s.rest≠[]:=by
 intro h0
 apply h
 simp [look,h0,signLevel]
set_option maxHeartbeats 8000000 in
theorem row6_any {p T tv E r A s w}(h:PSt p T tv E r A s w) {lo:Rd}(hlo:Los p T tv E r lo) :
  Calls Tryz.prog 177 #[.pointer (some ⟨p,0,none⟩),.int .i64 6] w (Out p T tv E r A w.heap.size 2 s w (row E (one E r lo) 0 s) RNat):=by
 have HO:=hide (one_any h hlo)
 have hR:row E (one E r lo) 0=one E r lo:=rfl
 rw [hR]
 go_enter Tryz.func177,Tryz.ntmps177
 go_wp2_with (go_at_call 184;refine (uh HO).mono ?_;intro e w1 ho;rcases ho.elim with⟨a,s1,v,hq,rfl,hR,hst,hf1,hd⟩ | ⟨c,q,hq,rfl,hb⟩;rotate_left;exact⟨rfl,Out.ill hq hb⟩;have HM:=hide hq;clear hq)
 go_returns
 exact Out.good (uh HM) hR hst hf1 hd
set_option maxHeartbeats 8000000 in
theorem row_step {p T tv E r A s w}(h:PSt p T tv E r A s w) (L:Int) (l:Nat) (hLl:L=(l:Int)) (hL1:1≤L) (hL5:L≤5) (tighter:M Nat)
  (hrow:∀ A' s' w',PSt p T tv E r A' s' w'→Calls Tryz.prog 177 #[.pointer (some ⟨p,0,none⟩),.int .i64 (L+1)] w' (Out p T tv E r A' w'.heap.size 2 s' w' (tighter s') RNat)) :
  Calls Tryz.prog 177 #[.pointer (some ⟨p,0,none⟩),.int .i64 L] w (Out p T tv E r A w.heap.size 2 s w (M.bind tighter (fun left=>fun s=>opsGo E l tighter (phi s+1) left s) s) RNat):=by
 have hp:=h.lt
 have hroom:=h.room
 have hcap:=h.cap
 have hff1:=field_text
 have hff2:=field_pos
 obtain⟨res,hres⟩:∃ res,res=M.bind tighter (fun left=>fun s=>opsGo E l tighter (phi s+1) left s) s:=⟨_,rfl⟩
 rw [← hres]
 have HM:=hide hres
 have HLl:=hide hLl
 have HROW:=hide hrow
 have hL6:¬ 5<L:=by omega
 have hw64:=wrap_small L hL1 hL5
 have HROW2:Hid (∀ A' s' w',PSt p T tv E r A' s' w'→Calls Tryz.prog 177 #[.pointer (some ⟨p,0,none⟩),.int .i64 (IntKind.i64.wrap (L+1))] w' (Out p T tv E r A' w'.heap.size 2 s' w' (tighter s') RNat)):=by
  intro A' s' w' hs'
  rw [hw64]
  exact hrow A' s' w' hs'
 clear hw64
 have hf:=Fr.refl (p:=p) (Nat.le_refl w.heap.size) hp
 have hst:=h
 clear h hres hLl hrow
 go_enter Tryz.func177,Tryz.ntmps177
 go_wp2_with (first
  | (go_at_call 177;refine (uh HROW _ _ _ hst).mono ?_;clear hst;intro e w1 ho;rcases ho.elim with⟨a,s1,v,hq,rfl,hR,hst,hf1,hd⟩ | ⟨c,q,hq,rfl,hb⟩;rotate_left;(first | exact⟨rfl,Out.ill (bind_bad (uh HM) hq) (hf.below' hb)⟩ | exact⟨rfl,Out.ill ((uh HM).trans hq) (hf.below' hb)⟩);(first | (replace HM:=hide (bind_ok (uh HM) hq)) | (replace HM:=hide ((uh HM).trans hq)));skip;replace hf:=hf.step hf1;unfold RNat at hR;subst hR;clear ho hf1 hq))
 have HM2:Hid (res=opsGo E l tighter (phi s1+1) a s1):=HM
 clear HM
 go_loopg [5] (phi s1+1) (fun k v wr=>∃ n s2,v=.int .i64 ((n:Nat):Int)∧phi s2<k∧phi s2≤phi s1∧PSt p T tv E r A s2 wr∧Fr p w.heap.size w wr∧Hid (res=opsGo E l tighter k n s2))
 case atStart=>exact⟨a,s1,rfl,by omega,Nat.le_refl _,hst,hf,HM2⟩
 case round =>
  clear hst hf HM2
  obtain⟨k,s2,rfl,hk,hle,hst,hf,HM⟩:=hrel
  obtain⟨n,rfl⟩:∃ n,gk=n+1:=⟨gk - 1,by omega⟩
  have HSL:=hide (signLevel_any (look E s2 0).text)
  by_cases hl:signLevel (look E s2 0).text=l
  ·replace HM:=hide ((uh HM).trans (opsGo_yes hl))
   have hne:=hide (rest_ne_level (E:=E) (s:=s2) (by have:=uh HLl;omega))
   rw [hl,← uh HLl] at HSL
   clear hl
   go_wp2_with (first
    | (go_at_call 126;refine (look0_any hst).mono ?_;rintro e w1 ⟨rfl,hb1⟩;replace hst:=hst.new hb1;replace hf:=hf.new hb1;clear hb1)
    | (go_at_call 185;refine (uh HSL _).mono ?_;intro e w9 ⟨he,hw9⟩;subst he;subst w9)
    | (go_at_call 102;refine (next_any hst (uh hne)).mono ?_;clear hst;intro e w1 ho;rcases ho.elim with⟨a,s1,v,hq,rfl,hR,hst,hf1,hd⟩ | ⟨c,q,hq,rfl,hb⟩;rotate_left;(first | exact⟨rfl,Out.ill (bind_bad (uh HM) hq) (hf.below' hb)⟩ | exact⟨rfl,Out.ill ((uh HM).trans hq) (hf.below' hb)⟩);(first | (replace HM:=hide (bind_ok (uh HM) hq)) | (replace HM:=hide ((uh HM).trans hq)));skip;replace hf:=hf.step hf1;unfold RTok at hR;subst hR;clear ho hf1 hq))
   go_region_with (first
    | (go_at_call 177;refine (uh HROW2 _ _ _ ((hst.alloc _).drew)).mono ?_;intro e w2 ho;rcases ho.elim with⟨k1,s2,v,hq,rfl,hR,hst2,hf2,hd2⟩ | ⟨c,q,hq,rfl,hb⟩;rotate_left;exact⟨rfl,Out.ill (bind_bad (uh HM) hq) (((hf.new (blA _ _)).new (below_drew _)).below' hb)⟩;have HM2:=hide (bind_ok (uh HM) hq);have hfb:=((hf.new (blA _ _)).new (below_drew _)).step hf2;have hbx:=hide (hf2.keep _ _ (by first | (rw [szA];omega) | (show _<(World.alloc _ _).heap.size;rw [szA];omega)) (heap_alloc_new _ _) (by simp [PlainObj]));obtain⟨x0,x1,x2,x3,y0,y1,y2,y3⟩:=box4g (uh hbx);have hbl:=(Array.getElem?_eq_some_iff.1 (uh hbx)).1;unfold RNat at hR;subst hR;clear ho hq hf2)
    | (go_at_call 69;refine (put2 hst2 (by omega)).mono ?_;intro e w3 ho;rcases ho with⟨k2,s3,hq,rfl,hst3,hf3,hd3⟩ | hfalse;rotate_left;exact hfalse.elim;(first | (have HM3:=hide (bind_ok (uh HM2) hq)) | (have HM3:=hide ((uh HM2).trans hq)));have hfc:=hfb.step hf3;clear hf3 hq))
   all_goals
    go_wp2
    go_roundg n
    case measure=>omega
    case rel=>exact⟨_,_,rfl,by omega,by omega,hst3,hfc,HM3⟩
  ·replace HM:=hide ((uh HM).trans (opsGo_no hl))
   have hz:¬ ((signLevel (look E s2 0).text:Nat):Int)=L:=by have:=uh HLl;omega
   clear hl
   generalize signLevel (look E s2 0).text=sl at *
   go_wp2_with (first
    | (go_at_call 126;refine (look0_any hst).mono ?_;rintro e w1 ⟨rfl,hb1⟩;replace hst:=hst.new hb1;replace hf:=hf.new hb1;clear hb1)
    | (go_at_call 185;refine (uh HSL _).mono ?_;intro e w9 ⟨he,hw9⟩;subst he;subst w9))
   go_returns
   exact Out.good (uh HM) rfl hst hf (by omega)
theorem expr_row {p T tv E r A s w}(h:PSt p T tv E r A s w) {lo:Rd}(hlo:Los p T tv E r lo) :
  Calls Tryz.prog 177 #[.pointer (some ⟨p,0,none⟩),.int .i64 1] w (Out p T tv E r A w.heap.size 2 s w (expr E r lo s) RNat) :=
 row_step h 1 1 rfl (by decide) (by decide) _ fun A' s' w' hs'=>row_step hs' 2 2 rfl (by decide) (by decide) _ fun A' s' w' hs'=>row_step hs' 3 3 rfl (by decide) (by decide) _ fun A' s' w' hs'=>row_step hs' 4 4 rfl (by decide) (by decide) _ fun A' s' w' hs'=>row_step hs' 5 5 rfl (by decide) (by decide) _ fun A' s' w' hs'=>row6_any hs' hlo
set_option maxHeartbeats 4000000 in
theorem expr_any {p T tv E r A s w}(h:PSt p T tv E r A s w) {lo:Rd}(hlo:Los p T tv E r lo) :
  Calls Tryz.prog 166 #[.pointer (some ⟨p,0,none⟩)] w (Out p T tv E r A w.heap.size 2 s w (expr E r lo s) RNat):=by
 go_enter Tryz.func166,Tryz.ntmps166
 go_wp2_with (go_at_call 177;refine (expr_row h hlo).mono ?_;intro e w1 ho;rcases ho.elim with⟨a,s1,v,hq,rfl,hR,hst,hf1,hd⟩ | ⟨c,q,hq,rfl,hb⟩;rotate_left;exact⟨rfl,Out.ill hq hb⟩;have HM:=hide hq;clear hq)
 go_returns
 exact Out.good (uh HM) hR hst hf1 hd
end
section
open Go.RowKit
set_option maxHeartbeats 4000000 in
theorem definesb {p T tv E r A s w}(h:PSt p T tv E r A s w) :
  Calls Tryz.prog 180 #[.pointer (some ⟨p,0,none⟩)] w (OutB (defines E s) w):=by
 have HK:=hide (isKind_any h 1)
 have hff1:=field_text
 have HL:=hide (fun w1 (hb:Below w.heap.size w w1)=>look1_any (h.new hb))
 obtain⟨y,hy⟩:∃ y,defines E s=y:=⟨_,rfl⟩
 rw [hy]
 by_cases hk:(look E s 0).kind=1
 ·by_cases ht:(look E s 1).text=⟨#[58,61]⟩
  ·have:y=true:=by rw [← hy];simp [defines,hk,ht]
   subst this
   clear hy
   rw [decide_eq_true hk] at HK
   clear hk
   go_enter Tryz.func180,Tryz.ntmps180
   go_wp2_with (first
    | (go_at_call 163;refine (uh HK).mono ?_;rintro e w1 ⟨rfl,hb1⟩)
    | (go_at_call 126;refine (uh HL _ hb1).mono ?_;rintro e w2 ⟨rfl,hb2⟩))
   go_returns
   exact⟨_,rfl,rfl,hb1.trans (hb2.mono hb1.size)⟩
  ·have:y=false:=by rw [← hy];simp [defines,hk,ht]
   subst this
   clear hy
   rw [decide_eq_true hk] at HK
   clear hk
   have hn:=text_ne (a:=[58,61]) ht
   go_enter Tryz.func180,Tryz.ntmps180
   go_wp2_with (first
    | (go_at_call 163;refine (uh HK).mono ?_;rintro e w1 ⟨rfl,hb1⟩)
    | (go_at_call 126;refine (uh HL _ hb1).mono ?_;rintro e w2 ⟨rfl,hb2⟩))
   go_returns
   exact⟨_,rfl,rfl,hb1.trans (hb2.mono hb1.size)⟩
 ·have:y=false:=by rw [← hy];simp [defines,hk]
  subst this
  clear hy
  rw [decide_eq_false hk] at HK
  clear hk
  go_enter Tryz.func180,Tryz.ntmps180
  go_wp2_with (first
   | (go_at_call 163;refine (uh HK).mono ?_;rintro e w1 ⟨rfl,hb1⟩))
  go_returns
  exact⟨_,rfl,rfl,hb1⟩
theorem bind_ask {β:Type}{res:Res β}{g:PS→Bool}{f:Bool→M β}{s:PS}{y:Bool}(h:res=M.bind (asking g) f s) (hy:g s=y):res=f y s:=by rw [h,← hy];rfl
set_option maxHeartbeats 4000000 in
theorem wordStmt_any {p T tv E r A s w}(h:PSt p T tv E r A s w) {lo:Rd}(hlo:Los p T tv E r lo) (kind:Int) (hne0:s.rest≠[]) :
  Calls Tryz.prog 167 #[.pointer (some ⟨p,0,none⟩),.int .i64 kind] w (Out p T tv E r A w.heap.size 2 s w (wordStmt E r lo kind s) RNat):=by
 have hp:=h.lt
 have hroom:=h.room
 have hcap:=h.cap
 obtain⟨res,hres⟩:∃ res,res=wordStmt E r lo kind s:=⟨_,rfl⟩
 rw [← hres]
 unfold wordStmt at hres
 have HM:=hide hres
 have hf:=Fr.refl (p:=p) (Nat.le_refl w.heap.size) hp
 have hst:=h
 clear h hres
 have hff1:=field_text
 have hff2:=field_pos
 have hff3:=field_kind
 have hff4:=field_num
 have hne:=hide hne0
 clear hne0
 go_enter Tryz.func167,Tryz.ntmps167
 go_wp2_with (first
  | (go_at_call 102;refine (next_any hst (uh hne)).mono ?_;clear hst;intro e w1 ho;rcases ho.elim with⟨a,s1,v,hq,rfl,hR,hst,hf1,hd⟩ | ⟨c,q,hq,rfl,hb⟩;rotate_left;(first | exact⟨rfl,Out.ill (bind_bad (uh HM) hq) (hf.below' hb)⟩ | exact⟨rfl,Out.ill ((uh HM).trans hq) (hf.below' hb)⟩);(first | (replace HM:=hide (bind_ok (uh HM) hq)) | (replace HM:=hide ((uh HM).trans hq)));replace hf:=hf.step hf1;unfold RTok at hR;subst hR;clear ho hf1 hq)
  | (go_at_call_of 146 (1:Nat);refine (open1 hst (by decide)).mono ?_;clear hst;intro e w1 ho;rcases ho with⟨r',a,s1,rfl,hq,rfl,hst,hf1,hd⟩ | ⟨c,q,hq,rfl,hb⟩;rotate_left;exact⟨rfl,Out.ill (bind_bad (uh HM) hq) (hf.below' hb)⟩;replace HM:=hide (bind_ok (uh HM) hq);replace hf:=hf.step hf1;clear hf1 hq)
  | (go_at_call 166;refine ((hlo _ rfl).expr _ _ _ hst).mono ?_;clear hst;intro e w1 ho;rcases ho.elim with⟨a,s1,v,hq,rfl,hR,hst,hf1,hd⟩ | ⟨c,q,hq,rfl,hb⟩;rotate_left;(first | exact⟨rfl,Out.ill (bind_bad (uh HM) hq) (hf.below' hb)⟩ | exact⟨rfl,Out.ill ((uh HM).trans hq) (hf.below' hb)⟩);(first | (replace HM:=hide (bind_ok (uh HM) hq)) | (replace HM:=hide ((uh HM).trans hq)));replace hf:=hf.step hf1;unfold RNat at hR;subst hR;clear ho hf1 hq)
  | (go_at_call 148;refine (shut_any hst (by omega) _ (by decide)).mono ?_;clear hst;intro e w1 ho;rcases ho.elim with⟨a,s1,v,hq,rfl,hR,hst,hf1,hd⟩ | ⟨c,q,hq,rfl,hb⟩;rotate_left;(first | exact⟨rfl,Out.ill (bind_bad (uh HM) hq) (hf.below' hb)⟩ | exact⟨rfl,Out.ill ((uh HM).trans hq) (hf.below' hb)⟩);(first | (replace HM:=hide (bind_ok (uh HM) hq)) | (replace HM:=hide ((uh HM).trans hq)));replace hf:=hf.step hf1;unfold RUnit at hR;subst hR;clear ho hf1 hq)
  | (go_at_call_of 69 (1:Nat);refine (put1 hst (by omega)).mono ?_;clear hst;intro e w1 ho;rcases ho with⟨k,s1,hq,rfl,hst,hf1,hd⟩ | hfalse;rotate_left;exact hfalse.elim;(first | (replace HM:=hide (bind_ok (uh HM) hq)) | (replace HM:=hide ((uh HM).trans hq)));replace hf:=hf.step hf1;clear hf1 hq))
 go_returns
 exact Out.good (uh HM) rfl hst hf (by omega)
theorem elsePart_at {E r:Nat}{lo:Rd}{s:PS}:elsePart E r lo s=(if (look E s 1).text=⟨#[105,102]⟩ then (opens E r [⟨#[101,108,115,101]⟩]).bind fun _=>lo.ifs else (want E [⟨#[101,108,115,101]⟩]).bind fun _=>block E r lo) s:=rfl
set_option maxHeartbeats 4000000 in
theorem elsePart_any {p T tv E r A s w}(h:PSt p T tv E r A s w) {lo:Rd}(hlo:Los p T tv E r lo) :
  Calls Tryz.prog 178 #[.pointer (some ⟨p,0,none⟩)] w (Out p T tv E r A w.heap.size 2 s w (elsePart E r lo s) RNat):=by
 have hp:=h.lt
 have hroom:=h.room
 have hcap:=h.cap
 have hff1:=field_text
 obtain⟨res,hres⟩:∃ res,res=elsePart E r lo s:=⟨_,rfl⟩
 rw [← hres]
 rw [elsePart_at] at hres
 have hf:=Fr.refl (p:=p) (Nat.le_refl w.heap.size) hp
 have HL:=hide (look1_any h)
 have hst:=h
 clear h
 by_cases ht:(look E s 1).text=⟨#[105,102]⟩
 ·rw [if_pos ht] at hres
  have HM:=hide hres
  clear hres
  go_enter Tryz.func178,Tryz.ntmps178
  go_wp2_with (first
   | (go_at_call 126;refine (uh HL).mono ?_;rintro e w1 ⟨rfl,hb1⟩;replace hst:=hst.new hb1;replace hf:=hf.new hb1;clear hb1)
   | (go_at_call_of 146 (1:Nat);refine (open1 hst (by decide)).mono ?_;clear hst;intro e w1 ho;rcases ho with⟨r',a,s1,rfl,hq,rfl,hst,hf1,hd⟩ | ⟨c,q,hq,rfl,hb⟩;rotate_left;exact⟨rfl,Out.ill (bind_bad (uh HM) hq) (hf.below' hb)⟩;replace HM:=hide (bind_ok (uh HM) hq);replace hf:=hf.step hf1;clear hf1 hq)
   | (go_at_call 168;refine ((hlo _ rfl).ifs _ _ _ hst).mono ?_;clear hst;intro e w1 ho;rcases ho.elim with⟨a,s1,v,hq,rfl,hR,hst,hf1,hd⟩ | ⟨c,q,hq,rfl,hb⟩;rotate_left;(first | exact⟨rfl,Out.ill (bind_bad (uh HM) hq) (hf.below' hb)⟩ | exact⟨rfl,Out.ill ((uh HM).trans hq) (hf.below' hb)⟩);(first | (replace HM:=hide (bind_ok (uh HM) hq)) | (replace HM:=hide ((uh HM).trans hq)));replace hf:=hf.step hf1;unfold RNat at hR;subst hR;clear ho hf1 hq)
   | (go_at_call 165;refine (leave_any hst (by omega)).mono ?_;clear hst;rintro e w1 ⟨rfl,hst,hf1⟩;(try (replace hI:=own_fr hI hf1 (by decide) (by decide)));replace hf:=hf.step hf1;clear hf1))
  go_returns
  exact Out.good (uh HM) rfl hst hf (by omega)
 ·rw [if_neg ht] at hres
  have HM:=hide hres
  have hn:=text_ne (a:=[105,102]) ht
  clear hres
  go_enter Tryz.func178,Tryz.ntmps178
  go_wp2_with (first
   | (go_at_call 126;refine (uh HL).mono ?_;rintro e w1 ⟨rfl,hb1⟩;replace hst:=hst.new hb1;replace hf:=hf.new hb1;clear hb1)
   | (go_at_call_of 68 (1:Nat);refine (want1 hst (by decide)).mono ?_;clear hst;intro e w1 ho;rcases ho.elim with⟨a,s1,v,hq,rfl,hR,hst,hf1,hd⟩ | ⟨c,q,hq,rfl,hb⟩;rotate_left;(first | exact⟨rfl,Out.ill (bind_bad (uh HM) hq) (hf.below' hb)⟩ | exact⟨rfl,Out.ill ((uh HM).trans hq) (hf.below' hb)⟩);(first | (replace HM:=hide (bind_ok (uh HM) hq)) | (replace HM:=hide ((uh HM).trans hq)));replace hf:=hf.step hf1;unfold RTok at hR;subst hR;clear ho hf1 hq)
   | (go_at_call 133;refine (block_any hst hlo).mono ?_;clear hst;intro e w1 ho;rcases ho.elim with⟨a,s1,v,hq,rfl,hR,hst,hf1,hd⟩ | ⟨c,q,hq,rfl,hb⟩;rotate_left;(first | exact⟨rfl,Out.ill (bind_bad (uh HM) hq) (hf.below' hb)⟩ | exact⟨rfl,Out.ill ((uh HM).trans hq) (hf.below' hb)⟩);(first | (replace HM:=hide (bind_ok (uh HM) hq)) | (replace HM:=hide ((uh HM).trans hq)));replace hf:=hf.step hf1;unfold RNat at hR;subst hR;clear ho hf1 hq))
  go_returns
  exact Out.good (uh HM) rfl hst hf (by omega)
set_option maxHeartbeats 4000000 in
theorem returnStmt_any {p T tv E r A s w}(h:PSt p T tv E r A s w) {lo:Rd}(hlo:Los p T tv E r lo) :
  Calls Tryz.prog 169 #[.pointer (some ⟨p,0,none⟩)] w (Out p T tv E r A w.heap.size 2 s w (returnStmt E r lo s) RNat):=by
 have hp:=h.lt
 have hroom:=h.room
 have hcap:=h.cap
 obtain⟨res,hres⟩:∃ res,res=returnStmt E r lo s:=⟨_,rfl⟩
 rw [← hres]
 unfold returnStmt at hres
 have HM:=hide hres
 have hf:=Fr.refl (p:=p) (Nat.le_refl w.heap.size) hp
 have hst:=h
 clear h hres
 have hff1:=field_text
 have hff2:=field_pos
 have hff3:=field_kind
 have hff4:=field_num
 go_enter Tryz.func169,Tryz.ntmps169
 go_wp2_with (first
  | (go_at_call_of 68 (1:Nat);refine (want1 hst (by decide)).mono ?_;clear hst;intro e w1 ho;rcases ho.elim with⟨a,s1,v,hq,rfl,hR,hst,hf1,hd⟩ | ⟨c,q,hq,rfl,hb⟩;rotate_left;(first | exact⟨rfl,Out.ill (bind_bad (uh HM) hq) (hf.below' hb)⟩ | exact⟨rfl,Out.ill ((uh HM).trans hq) (hf.below' hb)⟩);(first | (replace HM:=hide (bind_ok (uh HM) hq)) | (replace HM:=hide ((uh HM).trans hq)));replace hf:=hf.step hf1;unfold RTok at hR;subst hR;clear ho hf1 hq)
  | (go_at_call_of 98 (2:Nat);refine (is2b hst).mono ?_;rintro e w1 ⟨y,rfl,hy,hb1⟩;replace hst:=hst.new hb1;replace hf:=hf.new hb1;replace HM:=hide (bind_is (uh HM) hy);clear hb1;cases y;(try (replace HM:=hide (ite_no (uh HM) rfl)));rotate_left;(try (replace HM:=hide (ite_yes (uh HM) rfl)));(try (have hne:=hide (rest_ne_is hy (by decide))));(try (clear hy));rotate_left;(try (clear hy)))
  | (go_at_call 166;refine (expr_any hst hlo).mono ?_;clear hst;intro e w1 ho;rcases ho.elim with⟨a,s1,v,hq,rfl,hR,hst,hf1,hd⟩ | ⟨c,q,hq,rfl,hb⟩;rotate_left;(first | exact⟨rfl,Out.ill (bind_bad (uh HM) hq) (hf.below' hb)⟩ | exact⟨rfl,Out.ill ((uh HM).trans hq) (hf.below' hb)⟩);(first | (replace HM:=hide (bind_ok (uh HM) hq)) | (replace HM:=hide ((uh HM).trans hq)));replace hf:=hf.step hf1;unfold RNat at hR;subst hR;clear ho hf1 hq)
  | (go_at_call_of 69 (1:Nat);refine (put1 hst (by omega)).mono ?_;clear hst;intro e w1 ho;rcases ho with⟨k,s1,hq,rfl,hst,hf1,hd⟩ | hfalse;rotate_left;exact hfalse.elim;(first | (replace HM:=hide (bind_ok (uh HM) hq)) | (replace HM:=hide ((uh HM).trans hq)));replace hf:=hf.step hf1;clear hf1 hq)
  | (go_at_call 69;refine (put0 hst (by omega)).mono ?_;clear hst;intro e w1 ho;rcases ho with⟨k,s1,hq,rfl,hst,hf1,hd⟩ | hfalse;rotate_left;exact hfalse.elim;(first | (replace HM:=hide (bind_ok (uh HM) hq)) | (replace HM:=hide ((uh HM).trans hq)));replace hf:=hf.step hf1;clear hf1 hq))
 all_goals
  go_returns
  exact Out.good (uh HM) rfl hst hf (by omega)
set_option maxHeartbeats 8000000 in
theorem plainStmt_any {p T tv E r A s w}(h:PSt p T tv E r A s w) {lo:Rd}(hlo:Los p T tv E r lo) :
  Calls Tryz.prog 171 #[.pointer (some ⟨p,0,none⟩)] w (Out p T tv E r A w.heap.size 1 s w (plainStmt E r lo s) RNat):=by
 have hp:=h.lt
 have hroom:=h.room
 have hcap:=h.cap
 obtain⟨res,hres⟩:∃ res,res=plainStmt E r lo s:=⟨_,rfl⟩
 rw [← hres]
 unfold plainStmt at hres
 have HM:=hide hres
 have hf:=Fr.refl (p:=p) (Nat.le_refl w.heap.size) hp
 have hst:=h
 clear h hres
 have hff1:=field_text
 have hff2:=field_pos
 have hff3:=field_kind
 have hff4:=field_num
 go_enter Tryz.func171,Tryz.ntmps171
 go_wp2_with (first
  | (go_at_call 126;refine (look0_any hst).mono ?_;rintro e w1 ⟨rfl,hb1⟩;replace hst:=hst.new hb1;replace hf:=hf.new hb1;replace HM:=hide (bind_look (uh HM));clear hb1)
  | (go_at_call 180;refine (definesb hst).mono ?_;rintro e w1 ⟨y,rfl,hy,hb1⟩;replace hst:=hst.new hb1;replace hf:=hf.new hb1;replace HM:=hide (bind_ask (uh HM) hy);clear hb1;cases y;(try (replace HM:=hide (ite_no (uh HM) rfl)));rotate_left;(try (replace HM:=hide (ite_yes (uh HM) rfl)));(skip);(try (clear hy));rotate_left;(try (clear hy)))
  | (go_at_call 127;refine (wantName_any hst).mono ?_;clear hst;intro e w1 ho;rcases ho.elim with⟨a,s1,v,hq,rfl,hR,hst,hf1,hd⟩ | ⟨c,q,hq,rfl,hb⟩;rotate_left;(first | exact⟨rfl,Out.ill (bind_bad (uh HM) hq) (hf.below' hb)⟩ | exact⟨rfl,Out.ill ((uh HM).trans hq) (hf.below' hb)⟩);(first | (replace HM:=hide (bind_ok (uh HM) hq)) | (replace HM:=hide ((uh HM).trans hq)));replace hf:=hf.step hf1;unfold RStr at hR;subst hR;clear ho hf1 hq)
  | (go_at_call_of 68 (1:Nat);refine (want1 hst (by decide)).mono ?_;clear hst;intro e w1 ho;rcases ho.elim with⟨a,s1,v,hq,rfl,hR,hst,hf1,hd⟩ | ⟨c,q,hq,rfl,hb⟩;rotate_left;(first | exact⟨rfl,Out.ill (bind_bad (uh HM) hq) (hf.below' hb)⟩ | exact⟨rfl,Out.ill ((uh HM).trans hq) (hf.below' hb)⟩);(first | (replace HM:=hide (bind_ok (uh HM) hq)) | (replace HM:=hide ((uh HM).trans hq)));replace hf:=hf.step hf1;unfold RTok at hR;subst hR;clear ho hf1 hq)
  | (go_at_call_of 98 (1:Nat);refine (is1b hst).mono ?_;rintro e w1 ⟨y,rfl,hy,hb1⟩;replace hst:=hst.new hb1;replace hf:=hf.new hb1;replace HM:=hide (bind_is (uh HM) hy);clear hb1;cases y;(try (replace HM:=hide (ite_no (uh HM) rfl)));rotate_left;(try (replace HM:=hide (ite_yes (uh HM) rfl)));(try (have hne:=hide (rest_ne_is hy (by decide))));(try (clear hy));rotate_left;(try (clear hy)))
  | (go_at_call 102;refine (next_any hst (uh hne)).mono ?_;clear hst;intro e w1 ho;rcases ho.elim with⟨a,s1,v,hq,rfl,hR,hst,hf1,hd⟩ | ⟨c,q,hq,rfl,hb⟩;rotate_left;(first | exact⟨rfl,Out.ill (bind_bad (uh HM) hq) (hf.below' hb)⟩ | exact⟨rfl,Out.ill ((uh HM).trans hq) (hf.below' hb)⟩);(first | (replace HM:=hide (bind_ok (uh HM) hq)) | (replace HM:=hide ((uh HM).trans hq)));replace hf:=hf.step hf1;unfold RTok at hR;subst hR;clear ho hf1 hq)
  | (go_at_call 166;refine (expr_any hst hlo).mono ?_;clear hst;intro e w1 ho;rcases ho.elim with⟨a,s1,v,hq,rfl,hR,hst,hf1,hd⟩ | ⟨c,q,hq,rfl,hb⟩;rotate_left;(first | exact⟨rfl,Out.ill (bind_bad (uh HM) hq) (hf.below' hb)⟩ | exact⟨rfl,Out.ill ((uh HM).trans hq) (hf.below' hb)⟩);(first | (replace HM:=hide (bind_ok (uh HM) hq)) | (replace HM:=hide ((uh HM).trans hq)));replace hf:=hf.step hf1;unfold RNat at hR;subst hR;clear ho hf1 hq)
  | (go_at_call_of 69 (2:Nat);refine (put2 hst (by omega)).mono ?_;clear hst;intro e w1 ho;rcases ho with⟨k,s1,hq,rfl,hst,hf1,hd⟩ | hfalse;rotate_left;exact hfalse.elim;(first | (replace HM:=hide (bind_ok (uh HM) hq)) | (replace HM:=hide ((uh HM).trans hq)));replace hf:=hf.step hf1;clear hf1 hq)
  | (go_at_call_of 69 (1:Nat);refine (put1 hst (by omega)).mono ?_;clear hst;intro e w1 ho;rcases ho with⟨k,s1,hq,rfl,hst,hf1,hd⟩ | hfalse;rotate_left;exact hfalse.elim;(first | (replace HM:=hide (bind_ok (uh HM) hq)) | (replace HM:=hide ((uh HM).trans hq)));replace hf:=hf.step hf1;clear hf1 hq))
 all_goals
  go_returns
  exact Out.good (uh HM) rfl hst hf (by omega)
set_option maxHeartbeats 8000000 in
theorem ifStmt_any {p T tv E r A s w}(h:PSt p T tv E r A s w) {lo:Rd}(hlo:Los p T tv E r lo) :
  Calls Tryz.prog 168 #[.pointer (some ⟨p,0,none⟩)] w (Out p T tv E r A w.heap.size 2 s w (ifStmt E r lo s) RNat):=by
 have HA:=h.sep
 have hp:=h.lt
 have hroom:=h.room
 have hcap:=h.cap
 obtain⟨res,hres⟩:∃ res,res=ifStmt E r lo s:=⟨_,rfl⟩
 rw [← hres]
 unfold ifStmt at hres
 have HM:=hide hres
 have hf:=Fr.refl (p:=p) (Nat.le_refl w.heap.size) hp
 have hst:=h
 clear h hres
 have hff1:=field_text
 have hff2:=field_pos
 have hff3:=field_kind
 have hff4:=field_num
 go_enter Tryz.func168,Tryz.ntmps168
 go_wp2_with (first
  | (go_at_call_of 68 (1:Nat);refine (want1 hst (by decide)).mono ?_;clear hst;intro e w1 ho;rcases ho.elim with⟨a,s1,v,hq,rfl,hR,hst,hf1,hd⟩ | ⟨c,q,hq,rfl,hb⟩;rotate_left;(first | exact⟨rfl,Out.ill (bind_bad (uh HM) hq) (hf.below' hb)⟩ | exact⟨rfl,Out.ill ((uh HM).trans hq) (hf.below' hb)⟩);(first | (replace HM:=hide (bind_ok (uh HM) hq)) | (replace HM:=hide ((uh HM).trans hq)));replace hf:=hf.step hf1;unfold RTok at hR;subst hR;clear ho hf1 hq)
  | (go_at_call 166;refine (expr_any hst hlo).mono ?_;clear hst;intro e w1 ho;rcases ho.elim with⟨a,s1,v,hq,rfl,hR,hst,hf1,hd⟩ | ⟨c,q,hq,rfl,hb⟩;rotate_left;(first | exact⟨rfl,Out.ill (bind_bad (uh HM) hq) (hf.below' hb)⟩ | exact⟨rfl,Out.ill ((uh HM).trans hq) (hf.below' hb)⟩);(first | (replace HM:=hide (bind_ok (uh HM) hq)) | (replace HM:=hide ((uh HM).trans hq)));replace hf:=hf.step hf1;unfold RNat at hR;subst hR;clear ho hf1 hq)
  | (go_at_call 133;refine (block_any (hst.fresh _ _) hlo).mono ?_;intro e w2 ho;rcases ho.elim with⟨b,s2,v,hq,rfl,hR,hst2,hf2,hd2⟩ | ⟨c,q,hq,rfl,hb⟩;rotate_left;exact⟨rfl,Out.ill (bind_bad (uh HM) hq) ((hf.new (blA _ _)).below' hb)⟩;replace HM:=hide (bind_ok (uh HM) hq);have hI:Ints _ w.heap.size _ [a]:=own_fr (ints_new hf.size [a] (by simp)) hf2 (by decide) (by decide);replace hf:=(hf.new (blA _ _)).step hf2;unfold RNat at hR;subst hR;clear ho hq hf2 hst)
  | (at_builtin;refine wpList_iapp rfl (.tmp 12) (.tmp 15) rfl w.heap.size _ [a] rfl (hI.alloc _) _ b rfl (by simp [go_sem]) (by simp) (by rw [szA];have:=hf.size;omega) ?_;intro v5 w5 hI5 hg5 hv5;have hst:=hst2.iapp hI hg5 (hv5.imp id fun hh j hj=>by have:=hh j hj;rw [szA] at this;omega) hI5;replace hf:=hf.iapp hI hp hg5;clear hI hg5 hv5 hst2)
  | (go_at_call 98;refine (is1b hst).mono ?_;rintro e w1 ⟨y,rfl,hy,hb1⟩;replace hst:=hst.new hb1;replace hf:=hf.new hb1;replace hI5:=own_below hI5 hb1;replace HM:=hide (bind_is (uh HM) hy);clear hb1;cases y;(replace HM:=hide (ite_no (uh HM) rfl));rotate_left;(replace HM:=hide (ite_yes (uh HM) rfl));rotate_left)
  | (go_at_call 178;refine (elsePart_any hst hlo).mono ?_;intro e w6 ho;rcases ho.elim with⟨z,s6,v,hq,rfl,hR,hst6,hf6,hd6⟩ | ⟨c,q,hq,rfl,hb⟩;rotate_left;exact⟨rfl,Out.ill (bind_bad (uh HM) hq) (hf.below' hb)⟩;replace HM:=hide (bind_ok (uh HM) hq);replace hI5:=own_fr hI5 hf6 (by decide) (by decide);replace hf:=hf.step hf6;unfold RNat at hR;subst hR;clear ho hq hf6 hst)
  | (at_builtin;refine wpList_iapp rfl (.tmp 20) (.tmp 23) rfl w.heap.size _ [a,b] rfl (hI5.alloc _) _ z rfl (by simp [go_sem]) (by simp) (by rw [szA];have:=hf.size;omega) ?_;intro v7 w7 hI7 hg7 hv7;have hst:=hst6.iapp hI5 hg7 (hv7.imp id fun hh j hj=>by have:=hh j hj;rw [szA] at this;omega) hI7;replace hf:=hf.iapp hI5 hp hg7;clear hI5 hg7 hv7 hst6)
  | (go_at_call 69;refine (putL hst.unlist (by omega) hI7 hp HA).mono ?_;clear hst;intro e w8 ho;rcases ho with⟨k,s8,hq,rfl,hst,hf8,hd8⟩ | hfalse;rotate_left;exact hfalse.elim;replace HM:=hide ((uh HM).trans hq);replace hf:=hf.step hf8;clear hf8 hq)
  | (go_at_call 69;refine (putL hst.unlist (by omega) hI5 hp HA).mono ?_;clear hst;intro e w8 ho;rcases ho with⟨k,s8,hq,rfl,hst,hf8,hd8⟩ | hfalse;rotate_left;exact hfalse.elim;replace HM:=hide ((uh HM).trans hq);replace hf:=hf.step hf8;clear hf8 hq))
 all_goals
  go_returns
  exact Out.good (uh HM) rfl hst hf (by omega)
end
end Go.Proofs.YtdemnolanlfblaaGreatDoor
