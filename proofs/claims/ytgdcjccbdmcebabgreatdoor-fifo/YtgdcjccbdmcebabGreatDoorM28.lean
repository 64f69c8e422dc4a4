import Derived.Test.YtgdcjccbdmcebabGreatDoorM27
set_option linter.unusedSimpArgs false
set_option linter.unusedVariables false
namespace Go.Proofs.YtgdcjccbdmcebabGreatDoor
open Go.RowKit
set_option maxRecDepth 100000
attribute [local go_sem ↓] Go.wp_at_zero Go.wp_at_succ
theorem andNot_bitW (x s:Nat)(_hx:x<18446744073709551616)(hs:s<64):∃y:Nat,bits .andNot .u64 (x:Int) (IntKind.u64.wrap (2 ^ s))=(y:Int)/\y<18446744073709551616/\∀j,j<64->y.testBit j=(x.testBit j&& !decide (s=j)):=by
 have h2:2 ^ s<18446744073709551616:=by
  have:2 ^ s<2 ^ 64:=Nat.pow_lt_pow_right (by decide) hs
  omega
 have e:IntKind.u64.wrap ((2:Int) ^ s)=((2 ^ s:Nat):Int):=by
  have:(2:Int) ^ s=((2 ^ s:Nat):Int):=by norm_cast
  rw [this,IntKind.wrap_u64]
  generalize 2 ^ s=y at *
  omega
 rw [e]
 have h1:(BitVec.ofInt 64 (x:Int))=BitVec.ofNat 64 x:=BitVec.ofInt_natCast ..
 have h3:(BitVec.ofInt 64 ((2 ^ s:Nat):Int))=BitVec.ofNat 64 (2 ^ s):=BitVec.ofInt_natCast ..
 refine⟨(BitVec.ofNat 64 x &&& ~~~ BitVec.ofNat 64 (2 ^ s)).toNat,?_,by have:=(BitVec.ofNat 64 x &&& ~~~ BitVec.ofNat 64 (2 ^ s)).isLt;omega,fun j hj=> ?_⟩
 ·show IntKind.u64.wrap ((BitVec.ofInt 64 (x:Int) &&& ~~~ BitVec.ofInt 64 ((2 ^ s:Nat):Int)).toNat:Int)=_
  rw [h1,h3,IntKind.wrap_u64]
  have:=(BitVec.ofNat 64 x &&& ~~~ BitVec.ofNat 64 (2 ^ s)).isLt
  omega
 ·rw [BitVec.testBit_toNat,BitVec.getLsbD_and,BitVec.getLsbD_not,BitVec.getLsbD_ofNat,BitVec.getLsbD_ofNat,Nat.testBit_two_pow]
  simp [hj]
def DropW (y x s n:Nat):Prop:=y<18446744073709551616/\∀j,j<64->(y.testBit j=true↔x.testBit j=true/\¬(s=j/\n=1))
theorem PwAt.mapped {w w':World}{P B:Nat}{K:Nat->Prop}{now:Nat}{dm:Value}{rw_:Nat->Value}{ls:Nat->List Int}{wd:Nat->Nat}(h:PwAt w P B K now dm rw_ ls wd){D:DataW Unit}{bm nn:Nat}(hm:Za8 D w bm nn)(hbm:B<=bm)(hg:w.grownBy w' (some bm)):PwAt w' P B K now dm rw_ ls wd/\PF w w' P B K:=by
 obtain⟨es,clock,hb,_⟩:=hm
 have hpb:=h.pb
 refine⟨h.keepK hg.size (hg.block P (Nat.lt_of_lt_of_le h.pb h.bs) (by simp;omega)) (fun k _ he=> ?_),PF.of_grown hg (by simp;omega) (fun z hz=> ?_) (fun z hz hk=> ?_)⟩
 ·obtain⟨cs,fr,e⟩:=he
  refine hg.block k (Array.getElem?_eq_some_iff.1 e).1 (fun e2=> ?_)
  simp only [Option.some.injEq] at e2
  subst e2
  rw [hb] at e
  cases e
 ·simp only [Option.some.injEq] at hz
  subst hz
  exact⟨hbm,fun cs t fr e=>by rw [hb] at e;cases e⟩
 ·simp only [Option.some.injEq] at hz
  subst hz
  obtain⟨_,cs,fr,e⟩:=h.kb _ hk
  rw [hb] at e;cases e
theorem PwAt.less {w w7:World}{P B:Nat}{K:Nat->Prop}{now:Nat}{dm:Value}{rw_:Nat->Value}{ls:Nat->List Int}{wd:Nat->Nat}(h:PwAt w P B K now dm rw_ ls wd){k n c L s i:Nat}{a:Option Addr}(hk704:k<704)(hk:k=L * 64+s)(hv:rw_ k= .slice a n c)(hn:n=(ls k).length)(hi:i<n){D:DataW Unit}{bm nn:Nat}(hm:Za8 D w bm nn)(hbm:B<=bm)
  (hown:w7.ownsRow B 183 3 (.slice a (n - 1) c) (n - 1) (idsL ((ls k).take i++(ls k).drop (i+1)))) (hg:w.grownBy w7 (Value.slice a n c).ownBlock) :
  PwAt (w7.setCell ⟨P,13+L * 64+s,none⟩ (.slice a (n - 1) c)) P B K now dm (updF rw_ k (.slice a (n - 1) c)) (updF ls k ((ls k).take i++(ls k).drop (i+1))) wd/\Za8 D (w7.setCell ⟨P,13+L * 64+s,none⟩ (.slice a (n - 1) c)) bm nn/\PF w (w7.setCell ⟨P,13+L * 64+s,none⟩ (.slice a (n - 1) c)) P B K:=by
 have ho:=h.own k hk704
 rw [hv] at ho
 refine⟨?_,?_,?_⟩
 ·have:=h.slot (w7:=w7) (k:=k) hk704 (v':= .slice a (n - 1) c) (xs:=(ls k).take i++(ls k).drop (i+1)) (n':=n - 1) (by rw [List.length_append,List.length_take,List.length_drop];omega) hg.size (fun j hj hne=>hg.block j hj (by rw [<-hv];exact hne)) hown (fun z hz=>by
   left;rw [hv]
   cases a with
   | none=>simp [Value.ownBlock] at hz
   | some a=>exact hz)
  rwa [hk,<-Nat.add_assoc,<-hk] at this
 ·exact World.ownsMap.setCell (World.ownsMap.kept hm hg (map_ne hm ho)) (by simp;have:=h.pb;omega) _
 ·exact (PF.of_grown hg (fun e=>by have:=(ho.lt P e.symm).1;have:=h.pb;omega) (own_int ho) (fun z hz=>h.sp k hk704 z (by rw [hv];exact hz))).trans (PF.setP _ _ _ _ _ _ (by omega))
set_option maxHeartbeats 8000000 in
theorem drop_any (w:World)(P B:Nat)(K:Nat->Prop)(now tn:Nat)(rw_:Nat->Value)(ls:Nat->List Int)(wd:Nat->Nat)(bm i:Nat)(D:DataW Unit)(id r nd q:Int)(h:PwAt w P B K now (.map (some bm)) rw_ ls wd)(hd:Za8 D w bm (Maps.size D))(hbm:B<=bm)(hid:KeyOk r nd q id)(hat:D.atKey (keyL id) u0= .lit (.int .u64 tn))(hnow:now<=4611686018427387904)(htn:tn<=4611686018427387904)(hw:∀j,j<11->wd j<18446744073709551616)(hlen:(ls (pl now tn)).length<1048576)(hi:i<(ls (pl now tn)).length)(he:(ls (pl now tn)).getD i 0=id)(hne:∀j,j<i->(ls (pl now tn)).getD j 0≠id) :
  Calls Tryz.prog 152 #[.pointer (some ⟨P,11,none⟩), .agg #[.int .u64 r, .int .i64 nd, .int .i64 q]] w fun e w'=>e= .returned (.tuple #[])/\∃v' x',PwAt w' P B K now (.map (some bm)) (updF rw_ (pl now tn) v') (updF ls (pl now tn) ((ls (pl now tn)).take i++(ls (pl now tn)).drop (i+1))) (updF wd (lev now tn) x')/\DropW x' (wd (lev now tn)) (slt (lev now tn) tn) (ls (pl now tn)).length/\Za8 (D.del (keyL id)) w' bm (Maps.size (D.del (keyL id)))/\PF w w' P B K:=by
 have hkv:keyV id= .agg #[.int .u64 r, .int .i64 nd, .int .i64 q]:=by unfold keyV;rw [Zcw hid]
 obtain⟨w0,hw0⟩:∃w0,w0=w.alloc (.cells #[.int .u64 r, .int .i64 nd, .int .i64 q] 183):=⟨_,rfl⟩
 obtain⟨bx,hbx⟩:∃bx,bx=w.heap.size:=⟨_,rfl⟩
 obtain⟨⟨x0,x1⟩,x2⟩:=boxed w r nd q bx hbx
 have hB0:Below w.heap.size w w0:=by rw [hw0];exact (Below.refl _ _).alloc (Nat.le_refl _) _
 have hbx0:bx<w0.heap.size:=by rw [hw0,hbx];show w.heap.size<(w.heap.push _).size;rw [Array.size_push];omega
 have hd0:Za8 D w0 bm (Maps.size D):=by rw [hw0];exact World.ownsMap.alloc hd _
 rw [<-hw0] at x0 x1 x2
 have HBL:Hid (∀k,k<704->some bx≠(rw_ k).ownBlock):=Hid.mk fun k hk e=>by have:=((h.own k hk).lt bx e.symm).2;omega
 have HBP:Hid (bx≠P/\bx≠bm):=Hid.mk ⟨by have:=h.pb;have:=h.bs;omega,by have:=hd.lt;omega⟩
 have hrun:∀m,(Instr.lookup 132 (.map (some bm)) (.agg #[.int .u64 r, .int .i64 nd, .int .i64 q]) false).run Tryz.prog (w0.drewN m)= .ok (.int .u64 tn) (w0.drewN m):=fun m=>by
  obtain⟨c,hrun,hat2,_⟩:=World.ownsMap.lookup_int (q:= .u64) (w:=w0.drewN m) hd0 lawK Tryz.underlying132 Tryz.underlying39 (zeroU _) (Zc4 hid.ok)
  obtain rfl:c=(tn:Int):=by
   have:=hat2.symm.trans hat
   simpa using this
  rw [hkv] at hrun
  exact hrun
 have H:=Hid.mk (h.keep hB0)
 have HB0:=Hid.mk hB0
 have HKC:=Hid.mk (Zcw hid)
 have HKO:=Hid.mk (hkv▸Zc4 hid.ok)
 have c0:=H.out.c0
 have c1:=H.out.c1
 clear h hd hB0 hid hat hkv
 go_enter Tryz.func152,Tryz.ntmps152
 go_upto_region 1 with fail
 rw [<-hbx,<-hw0]
 have HBX:=Hid.mk (And.intro hbx hw0)
 clear hbx hw0
 go_quiet ((go_at_call 194;refine Calls.quiet_of (place_any _ P now tn (by rw [World.cell?_drewN];exact c0) (by omega) (by omega))))
 go_upto_region 2 with fail
 obtain⟨L,hL⟩:∃L,L=lev now tn:=⟨_,rfl⟩
 obtain⟨s,hs⟩:∃s,s=slt L tn:=⟨_,rfl⟩
 obtain⟨k,hk⟩:∃k,k=L * 64+s:=⟨_,rfl⟩
 have hpl:pl now tn=k:=by unfold pl;rw [hk,hs,hL]
 have hL10:L<11:=by have:=lev_top now tn hnow htn;omega
 have hs64:s<64:=by rw [hs];exact Zds _ _
 have hk704:k<704:=by omega
 rw [hpl] at hlen hi he hne
 rw [<-hL,<-hs]
 have HQ:=Hid.mk (And.intro hL (And.intro hs (And.intro hk hpl)))
 have hb1:Below w0.heap.size w0 (w0.drewN nq):=⟨rfl,rfl,rfl,Nat.le_refl _,fun _ _=>rfl⟩
 have hbw:Below w.heap.size w (w0.drewN nq):=⟨HB0.out.os,HB0.out.tape,HB0.out.output,HB0.out.size,fun k hk=>HB0.out.block k hk⟩
 have HP1:=Hid.mk (H.out.keep hb1)
 have HM1:Hid (Za8 D (w0.drewN nq) bm (Maps.size D)):=Hid.mk hd0
 have HF1:=Hid.mk (PF.of_below (P:=P) (B:=B) (K:=K) hbw)
 have z0:(w0.drewN nq).cell? ⟨bx,0,none⟩=some (.int .u64 r):=x0
 have z1:(w0.drewN nq).cell? ⟨bx,1,none⟩=some (.int .i64 nd):=x1
 have z2:(w0.drewN nq).cell? ⟨bx,2,none⟩=some (.int .i64 q):=x2
 have zs:bx<(w0.drewN nq).heap.size:=hbx0
 have HW:=Hid.mk hw
 clear hL hs hpl hrun c0 c1 hd0 hb1 hbw hw x0 x1 x2 hbx0
 generalize w0.drewN nq=w1 at *
 obtain⟨a,c,hv⟩:=Za3 (HP1.out.own k hk704)
 obtain⟨n,hn⟩:∃n,n=(ls k).length:=⟨_,rfl⟩
 rw [<-hn] at hv hlen hi
 have HV:=Hid.mk (And.intro hv hn)
 have m1:=HP1.out.at_ (L:=L) (s:=s) hk.symm hk704
 rw [hv] at m1
 have hown:=HP1.out.own k hk704
 rw [hv,<-hn] at hown
 have HO:=Hid.mk hown
 have HN:=Hid.mk (And.intro he hne)
 have hpb:=HP1.out.pb
 have hbs:=HP1.out.bs
 clear hv hn hown hk he hne
 have g1:(L:Int)<11:=by omega
 have g2:(s:Int)<64:=by omega
 have g3:IntKind.i64.wrap ((i:Int)+1)=((i+1:Nat):Int):=by rw [IntKind.wrap_i64];omega
 have hidx:=idx_any w1 B a n c (ls k) i id HO.out HV.out.2.symm hi HN.out.1 HN.out.2
 rw [HKC.out] at hidx
 have HIX:=Hid.mk hidx
 clear hidx
 go_upto_region 4 with (go_at_call 195;refine HIX.out.mono ?_;rintro e w2 ⟨rfl,hw2⟩;have HB2:=Hid.mk hw2;clear hw2)
 have hb2:Below w1.heap.size w1 w2:=by obtain⟨q2,hw2⟩:=HB2.out;rw [hw2];exact⟨rfl,rfl,rfl,by simp,fun j hj=>Zaj w1 _ j hj⟩
 have HP1:=Hid.mk (HP1.out.keep hb2)
 have HM1:Hid (Za8 D w2 bm (Maps.size D)):=by obtain⟨q2,hw2⟩:=HB2.out;rw [hw2];exact World.ownsMap.alloc HM1.out _
 have HF1:=Hid.mk (HF1.out.trans (PF.of_below (P:=P) (B:=B) (K:=K) hb2))
 have HO:=Hid.mk (Zah HO.out hb2)
 have m1:=cell_later hb2 m1
 have z0:=cell_later hb2 z0
 have z1:=cell_later hb2 z1
 have z2:=cell_later hb2 z2
 have zs:=Nat.lt_of_lt_of_le zs hb2.size
 have hbs:=HP1.out.bs
 clear HIX hb2 HB2
 go_upto_region 5 with (go_at_call 196;refine (del_any w2 B a n c (ls k) i HO.out HV.out.2.symm hi).mono ?_;rintro e w7 ⟨rfl,hown7,hgrow,hsz⟩)
 have hPb:w7.heap[P]? =w2.heap[P]? :=hgrow.block P (by omega) (fun e=>by have:=(HO.out.lt P e.symm).1;omega)
 have s1:=(World.cell?_of_block (a:=⟨P,13+L * 64+s,none⟩) hPb).trans m1
 have sz:=(World.frozen?_of_block (a:=⟨P,13+L * 64+s,none⟩) hPb).trans (HP1.out.fz (13+L * 64+s))
 obtain⟨k1,k2,k3⟩:=HP1.out.less hk704 HQ.out.2.2.1 HV.out.1 HV.out.2 hi HM1.out hbm hown7 hgrow
 have HK:=Hid.mk (And.intro k1 (And.intro k2 k3))
 have hbl:some bx≠(Value.slice a n c).ownBlock:=by have:=HBL.out k hk704;rwa [HV.out.1] at this
 have z0:=(hgrow.cell_far ⟨bx,0,none⟩ zs hbl).trans z0
 have z1:=(hgrow.cell_far ⟨bx,1,none⟩ zs hbl).trans z1
 have z2:=(hgrow.cell_far ⟨bx,2,none⟩ zs hbl).trans z2
 clear hPb m1 k1 k2 k3 hown7 hgrow hsz g3
 go_upto_region 6 with fail
 have HP8:=Hid.mk HK.out.1
 have HM8:=Hid.mk HK.out.2.1
 have HF8:=Hid.mk (HF1.out.trans HK.out.2.2)
 have z0:=(World.cell?_setCell_other w7 ⟨P,13+L * 64+s,none⟩ ⟨bx,0,none⟩ (.slice a (n - 1) c) (fun e=>HBP.out.1 (Addr.mk.inj e).1.symm)).trans z0
 have z1:=(World.cell?_setCell_other w7 ⟨P,13+L * 64+s,none⟩ ⟨bx,1,none⟩ (.slice a (n - 1) c) (fun e=>HBP.out.1 (Addr.mk.inj e).1.symm)).trans z1
 have z2:=(World.cell?_setCell_other w7 ⟨P,13+L * 64+s,none⟩ ⟨bx,2,none⟩ (.slice a (n - 1) c) (fun e=>HBP.out.1 (Addr.mk.inj e).1.symm)).trans z2
 clear HK s1 sz
 generalize w7.setCell ⟨P,13+L * 64+s,none⟩ (.slice a (n - 1) c)=w8 at *
 have x1:=HP8.out.cw L hL10
 have x2:=HP8.out.fz (717+L)
 have d1:=HP8.out.c1
 by_cases h1:n=1
 ·subst h1
  go_upto_region 7 with fail
  go_region
  all_goals
   obtain⟨y,hbit,hy,hyb⟩:=andNot_bitW (wd L) s (HW.out L hL10) hs64
   rw [hbit]
   have HP9:=Hid.mk ((HP8.out.setWord L y hL10).keep (((Below.refl _ _).drew)))
   have HM9:Hid (Za8 D ((w8.setCell ⟨P,717+L,none⟩ (.int .u64 (y:Int))).drew) bm (Maps.size D)):=Hid.mk (World.ownsMap.setCell HM8.out (by simp;omega) _)
   have HF9:=Hid.mk ((HF8.out.trans (PF.setP w8 P B K (717+L) (.int .u64 (y:Int)) (by omega))).trans (PF.of_below ((Below.refl _ _).drew)))
   have z0:(w8.setCell ⟨P,717+L,none⟩ (.int .u64 (y:Int))).drew.cell? ⟨bx,0,none⟩=_:=(World.cell?_setCell_other w8 ⟨P,717+L,none⟩ ⟨bx,0,none⟩ (.int .u64 (y:Int)) (fun e=>HBP.out.1 (Addr.mk.inj e).1.symm)).trans z0
   have z1:(w8.setCell ⟨P,717+L,none⟩ (.int .u64 (y:Int))).drew.cell? ⟨bx,1,none⟩=_:=(World.cell?_setCell_other w8 ⟨P,717+L,none⟩ ⟨bx,1,none⟩ (.int .u64 (y:Int)) (fun e=>HBP.out.1 (Addr.mk.inj e).1.symm)).trans z1
   have z2:(w8.setCell ⟨P,717+L,none⟩ (.int .u64 (y:Int))).drew.cell? ⟨bx,2,none⟩=_:=(World.cell?_setCell_other w8 ⟨P,717+L,none⟩ ⟨bx,2,none⟩ (.int .u64 (y:Int)) (fun e=>HBP.out.1 (Addr.mk.inj e).1.symm)).trans z2
   clear x1 x2 d1
   generalize (w8.setCell ⟨P,717+L,none⟩ (.int .u64 (y:Int))).drew=w9 at *
   have d1:=HP9.out.c1
   obtain⟨w10,hup,hown10,hturn10⟩:=World.ownsMap.drop (w:=w9.drew) HM9.out lawK Tryz.underlying132 HKO.out 0
   have HOT:=Hid.mk (And.intro hown10 hturn10)
   clear hown10 hturn10
   go_wp2_with fail
   go_region
   obtain⟨hown10,hturn10⟩:=HOT.out
   obtain⟨j1,j2⟩:=(HP9.out.keep ((Below.refl _ _).drew)).mapped (HM9.out:Za8 D _ bm (Maps.size D)) hbm hturn10.grown
   have hQ:=HQ.out
   have hV:=HV.out
   clear HQ HV
   obtain⟨q1,q2,q3,q4⟩:=hQ
   go_end0
   refine⟨rfl, .slice a (1 - 1) c,y,?_,?_,Zch hown10,HF9.out.trans ((PF.of_below ((Below.refl _ _).drew)).trans j2)⟩
   ·rw [q4,<-q1]
    exact j1
   ·rw [q4,<-q1,<-q2,<-hV.2]
    exact⟨hy,fun j hj=>by rw [hyb j hj];simp⟩
 ·have e1:(((n - 1:Nat):Int) == 0)=false:=by simp;omega
  have HM9:=HM8
  have HP9:=HP8
  have HF9:=HF8
  obtain⟨w10,hup,hown10,hturn10⟩:=World.ownsMap.drop (w:=w8.drew) HM9.out lawK Tryz.underlying132 HKO.out 0
  have HOT:=Hid.mk (And.intro hown10 hturn10)
  clear hown10 hturn10
  go_wp2_with fail
  go_region
  obtain⟨hown10,hturn10⟩:=HOT.out
  all_goals
   obtain⟨j1,j2⟩:=(HP9.out.keep ((Below.refl _ _).drew)).mapped (HM9.out:Za8 D _ bm (Maps.size D)) hbm hturn10.grown
   have hQ:=HQ.out
   have hV:=HV.out
   clear HQ HV
   obtain⟨q1,q2,q3,q4⟩:=hQ
   go_end0
   refine⟨rfl, .slice a (n - 1) c,wd L,?_,?_,Zch hown10,HF9.out.trans ((PF.of_below ((Below.refl _ _).drew)).trans j2)⟩
   ·rw [q4,<-q1]
    have hu:updF wd L (wd L)=wd:=by funext j;unfold updF;split<;>simp_all
    rw [hu]
    exact j1
   ·rw [q4,<-q1,<-q2,<-hV.2]
    exact⟨HW.out L hL10,fun j hj=>⟨fun e=>⟨e,fun e2=>h1 e2.2⟩,fun e=>e.1⟩⟩
def Words (wd:Nat->Nat)(ls:Nat->List Int):Prop:=∀L,L<11->wd L<18446744073709551616/\∀s,s<64->((wd L).testBit s=true↔ls (L * 64+s)≠[])
theorem Words.set {wd:Nat->Nat}{ls:Nat->List Int}(h:Words wd ls){L s y:Nat}{xs:List Int}(hs:s<64)(hy:y<18446744073709551616)(hb:∀j,j<64->j≠s->(y.testBit j=true↔(wd L).testBit j=true))(hx:y.testBit s=true↔xs≠[])(hL:L<11):Words (updF wd L y) (updF ls (L * 64+s) xs):=by
 intro M hM
 by_cases e:M=L
 ·subst e
  rw [Za9]
  refine⟨hy,fun j hj=> ?_⟩
  by_cases e2:j=s
  ·subst e2;rw [Za9];exact hx
  ·rw [Zaz _ _ _ (by omega),hb j hj e2];exact (h M hM).2 j hj
 ·rw [Zaz _ _ _ e]
  refine⟨(h M hM).1,fun j hj=> ?_⟩
  rw [Zaz _ _ _ (by omega)]
  exact (h M hM).2 j hj
theorem Words.put {wd:Nat->Nat}{ls:Nat->List Int}(h:Words wd ls){L s:Nat}(hL:L<11)(hs:s<64)(id:Int):Words (updF wd L (wd L ||| 2 ^ s)) (updF ls (L * 64+s) (ls (L * 64+s)++[id])):=by
 refine h.set hs ?_ (fun j _ hne=> ?_) ?_ hL
 ·have h2:2 ^ s<2 ^ 64:=Nat.pow_lt_pow_right (by decide) hs
  have:=Nat.or_lt_two_pow (x:=wd L) (y:=2 ^ s) (n:=64) (by have:=(h L hL).1;omega) h2
  omega
 ·rw [Nat.testBit_or,Nat.testBit_two_pow];simp;omega
 ·rw [Nat.testBit_or,Nat.testBit_two_pow];simp
theorem Words.drop {wd:Nat->Nat}{ls:Nat->List Int}(h:Words wd ls){L s y i:Nat}(hL:L<11)(hs:s<64)(hi:i<(ls (L * 64+s)).length)(hy:DropW y (wd L) s (ls (L * 64+s)).length):Words (updF wd L y) (updF ls (L * 64+s) ((ls (L * 64+s)).take i++(ls (L * 64+s)).drop (i+1))):=by
 refine h.set hs hy.1 (fun j hj hne=> ?_) ?_ hL
 ·rw [hy.2 j hj];exact⟨fun e=>e.1,fun e=>⟨e,fun e2=>hne e2.1.symm⟩⟩
 ·rw [hy.2 s hs,(h L hL).2 s hs]
  have hlen:((ls (L * 64+s)).take i++(ls (L * 64+s)).drop (i+1)).length+1=(ls (L * 64+s)).length:=by rw [List.length_append,List.length_take,List.length_drop];omega
  constructor
  ·rintro⟨_,e2⟩ e3
   rw [e3] at hlen
   exact e2 ⟨rfl,by simpa using hlen.symm⟩
  ·intro e3
   refine⟨fun e=>by rw [e] at hi;simp at hi,fun e=>e3 ?_⟩
   exact List.eq_nil_of_length_eq_zero (by omega)
theorem placed_take {n:Nat}{q:List Tm}{i:Nat}(hi:i<q.length)(j:Nat):Zaf n (q.take (i+1)) j=if pl n (q.getD i .z).tm.toNat=j then Zaf n (q.take i) j++[(q.getD i .z).id] else Zaf n (q.take i) j:=by
 have:q.take (i+1)=q.take i++[q.getD i .z]:=by
  rw [List.take_add_one,List.getD_eq_getElem?_getD,List.getElem?_eq_getElem hi];rfl
 rw [this,placed_snoc]
def SprR (w:World)(P B:Nat)(K:Nat->Prop)(now bm:Nat)(D:DataW Unit)(ls:Nat->List Int)(k:Nat)(q:List Tm)(v0:Value)(n i:Nat)(wr:World):Prop :=
 ∃(rw':Nat->Value) (ls':Nat->List Int) (wd':Nat->Nat),PwAt wr P B K now (.map (some bm)) rw' ls' wd'/\Za8 D wr bm (Maps.size D)/\PF w wr P B K/\Words wd' ls'/\(∀j,ls' j=(if j=k then [] else ls j)++Zaf now (q.take i) j)/\wr.ownsRow B 183 3 v0 n (idsL (ls k))/\(∀j,j<704->∀z,v0.ownBlock=some z->(rw' j).ownBlock≠some z)
theorem SprR.next {w wr w':World}{P B:Nat}{K:Nat->Prop}{now bm k n i tn:Nat}{D:DataW Unit}{ls:Nat->List Int}{q:List Tm}{v0 v':Value}{rw':Nat->Value}{ls':Nat->List Int}{wd':Nat->Nat}{x':Nat}
  (hp:PwAt wr P B K now (.map (some bm)) rw' ls' wd') (hf:PF w wr P B K) (hw:Words wd' ls') (hls:∀j,ls' j=(if j=k then [] else ls j)++Zaf now (q.take i) j) (ho:wr.ownsRow B 183 3 v0 n (idsL (ls k))) (ha:∀j,j<704->∀z,v0.ownBlock=some z->(rw' j).ownBlock≠some z)
  (hi:i<q.length) (htn:(q.getD i .z).tm.toNat=tn) (hnow:now<=4611686018427387904) (htn2:tn<=4611686018427387904)
  (hp':PwAt w' P B K now (.map (some bm)) (updF rw' (pl now tn) v') (updF ls' (pl now tn) (ls' (pl now tn)++[(q.getD i .z).id])) (updF wd' (lev now tn) x')) (hx:x'=wd' (lev now tn) ||| 2 ^ slt (lev now tn) tn) (hm':Za8 D w' bm (Maps.size D)) (hf':PF wr w' P B K) (hn':Near wr w' P (rw' (pl now tn)) v'):SprR w P B K now bm D ls k q v0 n (i+1) w':=by
 subst htn
 have hk7:=pl_lt now (q.getD i .z).tm.toNat hnow htn2
 refine⟨_,_,_,hp',hm',hf.trans hf',?_,fun j=> ?_,?_,fun j hj z hz=> ?_⟩
 ·rw [hx]
  exact hw.put (by have:=lev_top now (q.getD i .z).tm.toNat hnow htn2;omega) (Zds _ _) _
 ·rw [placed_take hi]
  by_cases e:pl now (q.getD i .z).tm.toNat=j
  ·subst e
   rw [Za9,if_pos rfl,hls,List.append_assoc]
  ·rw [Zaz _ _ _ (Ne.symm e),if_neg e,hls]
 ·refine own_kept ho (fun z hz he hz2=>hn'.block z ?_ (by have:=hp.pb;omega) (fun e=>ha _ hk7 z hz2 e.symm))
  exact (ho.lt z hz2).2
 ·by_cases e:j=pl now (q.getD i .z).tm.toNat
  ·subst e
   rw [Za9]
   intro e2
   rcases hn'.at_ z e2 with e3 | e3
   ·exact ha _ hk7 z hz e3
   ·have:=(ho.lt z hz).2;omega
  ·rw [Zaz _ _ _ e];exact ha j hj z hz
set_option maxHeartbeats 8000000 in
theorem spread_any (w:World)(P B:Nat)(K:Nat->Prop)(now L s n:Nat)(rw_:Nat->Value)(ls:Nat->List Int)(wd:Nat->Nat)(bm:Nat)(D:DataW Unit)(q:List Tm)(h:PwAt w P B K now (.map (some bm)) rw_ ls wd)(hd:Za8 D w bm (Maps.size D))(hbm:B<=bm)(hL:L<11)(hs:s<64)(hW:Words wd ls)(hq:ls (L * 64+s)=q.map (·.id))(hn:n=q.length)
  (hid:∀i,i<n->IdOk (q.getD i .z).id) (hat:∀i,i<n->D.atKey (keyL (q.getD i .z).id) u0= .lit (.int .u64 (q.getD i .z).tm)) (ht:∀i,i<n->0<=(q.getD i .z).tm/\(q.getD i .z).tm<=4611686018427387904) (hnow:now<=4611686018427387904) (hlen:∀j,(ls j).length+n<1048576) :
  Calls Tryz.prog 151 #[.pointer (some ⟨P,11,none⟩), .int .i64 L, .int .i64 s] w fun e w'=>e= .returned (.tuple #[])/\∃rw' ls' wd',PwAt w' P B K now (.map (some bm)) rw' ls' wd'/\Za8 D w' bm (Maps.size D)/\PF w w' P B K/\Words wd' ls'/\∀j,ls' j=(if j=L * 64+s then [] else ls j)++Zaf now q j:=by
 obtain⟨k,hk⟩:∃k,k=L * 64+s:=⟨_,rfl⟩
 have hk704:k<704:=by omega
 rw [<-hk] at hq
 obtain⟨a,c,hv⟩:=Za3 (h.own k hk704)
 have hlk:(ls k).length=n:=by rw [hq,hn];simp
 rw [hlk] at hv
 have m1:=h.at_ (L:=L) (s:=s) hk.symm hk704
 rw [hv] at m1
 have m2:=h.fz (13+L * 64+s)
 have hown:=h.own k hk704
 rw [hv,hlk] at hown
 have HO:=Hid.mk hown
 have HP:=Hid.mk h
 have HM:Hid (Za8 D w bm (Maps.size D)):=Hid.mk hd
 have HW:=Hid.mk hW
 have HQ:=Hid.mk (And.intro hk (And.intro hq (And.intro hn hlk)))
 have HV:=Hid.mk hv
 have HI:=Hid.mk (And.intro hid (And.intro hat ht))
 have HL:=Hid.mk hlen
 have g1:(L:Int)<11:=by omega
 have g2:(s:Int)<64:=by omega
 have hpb:=h.pb
 have hbs:=h.bs
 have HS0:=Hid.mk (h.slot (w7:=w) (k:=k) hk704 (v':= .slice none 0 0) (xs:=[]) (n':=0) rfl (Nat.le_refl _) (fun _ _ _=>rfl) (World.ownsRow_nil _ _ _ _) (fun z hz=>by simp [Value.ownBlock] at hz))
 clear h hd hW hq hn hlk hv hown hid hat ht hlen
 go_enter Tryz.func151,Tryz.ntmps151
 go_upto_region 2 with fail
 have e0:13+k=13+L * 64+s:=by rw [HQ.out.1,Nat.add_assoc]
 have HS:=HS0.out
 rw [e0] at HS
 have HP1:=Hid.mk HS
 have HM1:Hid (Za8 D (w.setCell ⟨P,13+L * 64+s,none⟩ (.slice none 0 0)) bm (Maps.size D)):=Hid.mk (World.ownsMap.setCell HM.out (by simp;omega) _)
 have HF1:=Hid.mk (PF.setP w P B K (13+L * 64+s) (.slice none 0 0) (by omega))
 have HO1:=Hid.mk (ownsRow_setCell_below HO.out (a:=⟨P,13+L * 64+s,none⟩) hpb (.slice none 0 0))
 clear HS HS0 e0 m1 m2
 generalize w.setCell ⟨P,13+L * 64+s,none⟩ (.slice none 0 0)=w1 at *
 have x1:=HP1.out.cw L hL
 have x2:=HP1.out.fz (717+L)
 go_region
 all_goals
  obtain⟨y,hbit,hy,hyb⟩:=andNot_bitW (wd L) s ((HW.out L hL).1) hs
  rw [hbit]
  have HP2:=Hid.mk ((HP1.out.setWord L y hL).keep (((Below.refl _ _).drew)))
  have HM2:Hid (Za8 D ((w1.setCell ⟨P,717+L,none⟩ (.int .u64 (y:Int))).drew) bm (Maps.size D)):=Hid.mk (World.ownsMap.setCell HM1.out (by simp;omega) _)
  have HF2:=Hid.mk ((HF1.out.trans (PF.setP w1 P B K (717+L) (.int .u64 (y:Int)) (by omega))).trans (PF.of_below ((Below.refl _ _).drew)))
  have HO2:=Hid.mk (Zah (ownsRow_setCell_below HO1.out (a:=⟨P,717+L,none⟩) hpb (.int .u64 (y:Int))) ((Below.refl _ _).drew))
  have HW2:Hid (Words (updF wd L y) (updF ls k [])):=Hid.mk (by
   rw [HQ.out.1]
   refine HW.out.set hs hy (fun j hj hne=> ?_) ?_ hL
   ·rw [hyb j hj];simp;omega
   ·rw [hyb s hs];simp)
  have HA2:Hid (∀j,j<704->∀z,(Value.slice a n c).ownBlock=some z->(updF rw_ k (Value.slice none 0 0) j).ownBlock≠some z):=Hid.mk (fun j hj z hz=>by
   by_cases e:j=k
   ·subst e;rw [Za9];simp [Value.ownBlock]
   ·rw [Zaz _ _ _ e];exact HP.out.apart k j hk704 hj (Ne.symm e) z (by rw [HV.out];exact hz))
  clear x1 x2 hbit hyb hy
  generalize (w1.setCell ⟨P,717+L,none⟩ (.int .u64 (y:Int))).drew=w2 at *
  go_wp2_with fail
  go_loopw [38] (fun iv wr=>∃(i:Nat),iv= .int .i64 i/\i<=n/\SprR w P B K now bm D ls k q (.slice a n c) n i wr) (fun iv _=>n - (intOf iv).toNat)
  case atStart=>exact⟨0,rfl,by omega,_,_,_,HP2.out,HM2.out,HF2.out,HW2.out,fun j=>(by simp [Zaf,updF]),HO2.out,HA2.out⟩
  case round =>
   obtain⟨i,rfl,hi,hrel⟩:=hrel
   have HR:=Hid.mk hrel
   clear hrel HP1 HM1 HF1 HO1 HP2 HM2 HF2 HO2 HW2 HA2
   by_cases h1:i<n
   ·obtain⟨rw',ls',wd',hp,hm,hf,hw,hls,ho,ha⟩:=HR.out
    have hiq:i<q.length:=by have:=HQ.out.2.2.1;omega
    obtain⟨id,hid⟩:∃x,x=(q.getD i .z).id:=⟨_,rfl⟩
    obtain⟨tn,htn⟩:∃x,(q.getD i .z).tm.toNat=x:=⟨_,rfl⟩
    have hti:=HI.out.2.2 i h1
    obtain⟨r,nd,qk,hko⟩:∃r nd qk,KeyOk r nd qk id:=⟨_,_,_,KeyOk.of (by rw [hid];exact HI.out.1 i h1)⟩
    have hcell:∃g,a=some ⟨g,0,none⟩/\(wr.cell? ⟨g,i * 3,none⟩=some (.int .u64 r)/\wr.cell? ⟨g,i * 3+1,none⟩=some (.int .i64 nd))/\wr.cell? ⟨g,i * 3+2,none⟩=some (.int .i64 qk):=by
     rcases ho.2 with⟨_,h2⟩ | ⟨g,cap,cur,h2,_⟩
     ·omega
     ·obtain⟨e1,_,e2⟩:a=some ⟨g,0,none⟩/\n=n/\c=cap:=by simpa using h2
      subst e1
      have e3:(ls k).getD i 0=id:=by rw [HQ.out.2.1,hid];simp [hiq]
      have e4:i<(ls k).length:=by rw [HQ.out.2.2.2];exact h1
      refine⟨g,rfl,⟨?_,?_⟩,?_⟩
      ·rw [<-Nat.add_zero (i * 3),ho.cellAt (i * 3+0) (by omega),idsL_at _ e4 (by omega),e3,Zcw hko];rfl
      ·rw [ho.cellAt (i * 3+1) (by omega),idsL_at _ e4 (by omega),e3,Zcw hko];rfl
      ·rw [ho.cellAt (i * 3+2) (by omega),idsL_at _ e4 (by omega),e3,Zcw hko];rfl
    obtain⟨g,rfl,⟨x0,x1⟩,x2⟩:=hcell
    have hput:∀w5,Below wr.heap.size wr w5->_:=fun w5 hb5=>put_any w5 P B K now tn rw' ls' wd' bm D id r nd qk (hp.keep hb5) (by
     obtain⟨es,clock,m1,m2⟩:=hm
     exact⟨es,clock,(hb5.block bm (Array.getElem?_eq_some_iff.1 m1).1).trans m1,m2⟩) hbm hko (by rw [hid,HI.out.2.1 i h1];congr 2;omega) hnow (by omega) (fun j hj=>(hw j hj).1) (by
     have a1:=HL.out (pl now tn)
     have a2:=Zct now (q.take i) (pl now tn)
     rw [List.length_take] at a2
     rw [hls,List.length_append]
     split
     ·simp;omega
     ·omega)
    have HPUT:=Hid.mk hput
    have HX:=Hid.mk (And.intro hid (And.intro htn hti))
    have hcl:n<=1048576:=by have:=HL.out 0;omega
    have HG:Hid (g<wr.heap.size):=Hid.mk (ho.lt g rfl).2
    clear hput hid htn hti
    have HALL:=Hid.mk (And.intro hp (And.intro hf (And.intro hw (And.intro hls (And.intro ho ha)))))
    clear hp hm hf hw hls ho ha
    go_wp2_with (go_at_call 191;refine (HPUT.out _ ((Below.refl _ _).alloc (Nat.le_refl _) _)).mono ?_;rintro e w' ⟨rfl,v',x',hp',hx,hm',hf',hn'⟩;have HN:=Hid.mk (And.intro hp' (And.intro hx (And.intro hm' (And.intro hf' hn'))));clear hp' hx hm' hf' hn')
    go_roundw
    case rel =>
     refine⟨i+1,by go_num,by omega,?_⟩
     have hA:=HALL.out
     have hN:=HN.out
     have hX:=HX.out
     have hb5:Below wr.heap.size wr (wr.alloc (.cells #[.int .u64 r, .int .i64 nd, .int .i64 qk] 183)):=(Below.refl _ _).alloc (Nat.le_refl _) _
     refine SprR.next (hA.1.keep hb5) (hA.2.1.trans (PF.of_below hb5)) hA.2.2.1 hA.2.2.2.1 (Zah hA.2.2.2.2.1 hb5) hA.2.2.2.2.2 hiq hX.2.1 hnow (by have:=hX.2.2;have:=hX.2.1;omega) ?_ hN.2.1 hN.2.2.1 hN.2.2.2.1 hN.2.2.2.2
     rw [<-hX.1]
     exact hN.1
    case measure=>simp [intOf];omega
   ·obtain rfl:i=n:=by omega
    go_wp2_with fail
    go_end0
    obtain⟨rw',ls',wd',hp,hm,hf,hw,hls,_,_⟩:=HR.out
    refine⟨rfl,rw',ls',wd',hp,hm,hf,hw,fun j=> ?_⟩
    have e:q.take i=q:=List.take_of_length_le (by have:=HQ.out.2.2.1;omega)
    rw [hls j,e,HQ.out.1]
end Go.Proofs.YtgdcjccbdmcebabGreatDoor
