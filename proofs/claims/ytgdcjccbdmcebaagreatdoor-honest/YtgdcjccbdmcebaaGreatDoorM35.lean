import Derived.Test.YtgdcjccbdmcebaaGreatDoorM33
set_option linter.all false
set_option maxHeartbeats 16000000
set_option maxRecDepth 100000
open Go.Proofs.Tryz
open Go renaming heap_alloc_new->QFm,cell_later->QFa
open Go.IntWalk renaming i64_in->QKj,u64_in->QKk
open Go.World renaming frozen?->QHj,new_ne->QIr,cell?_of_block->QEc
open Int renaming toNat_of_nonneg->QIh
namespace Go.Proofs.YtgdcjccbdmcebaaGreatDoor
open Go.RowKit
attribute [local go_sem ↓] Go.wp_at_zero Go.wp_at_succ
variable {ta:Option Addr}
def Sa (w:World)(tbx:Nat)(q:Int)(nd:Nat)(nth tok:Int):Prop:=w.heap[tbx]? =some (.cells #[.int .u64 q,.int .i64 nd,.int .i64 nth,.int .u64 tok] 48 (0,0))
structure MtC (w:World)(ub hb n m lb lc tg tc rk tb ig ic jg jc:Nat)(ta:Option Addr):Prop where
 c0:w.cell? ⟨ub,0,none⟩=some (.pointer (some ⟨hb,0,none⟩))
 c2:w.cell? ⟨ub,2,none⟩=some (.slice (some ⟨lb,0,none⟩) n lc)
 c3:w.cell? ⟨ub,3,none⟩=some (.int .u64 2)
 c4:w.cell? ⟨ub,4,none⟩=some (.slice ta m tc)
 c5:w.cell? ⟨ub,5,none⟩=some (.slice (some ⟨rk,0,none⟩) n n)
 c6:w.cell? ⟨ub,6,none⟩=some (.slice (some ⟨tb,0,none⟩) n n)
 c9:w.cell? ⟨ub,9,none⟩=some (.slice (some ⟨ig,0,none⟩) n ic)
 c10:w.cell? ⟨ub,10,none⟩=some (.slice (some ⟨jg,0,none⟩) n jc)
theorem GX {w wy:World}{ub hb n m g lc tg i rk tb c b f d:Nat}{dl j is:Int}(h:w.heap[ub]? =some (.cells (waC hb dl (some ⟨g,0,none⟩) n lc (.slice ta m i) rk tb j is (.slice (some ⟨c,0,none⟩) n b) (.slice (some ⟨f,0,none⟩) n d)) 77 (0,0)))(a:ZY w wy):MtC wy ub hb n m g lc tg i rk tb c b f d ta:=by
 have e:=(a.block ub (Zaa h)).trans h;exact⟨Zad e 0,Zad e 2,Zad e 3,Zad e 4,Zad e 5,Zad e 6,Zad e 9,Zad e 10⟩
theorem Te (w wx:World)(ub hb D bd rk tb lb lc i:Nat)(F G:Ad)(R:List CM)(rd:List Int)(e:Ab)(Na:Nat->Option Addr)(Nc:Nat->Nat)(kd nn kp:Int)(h:HoS w wx ub hb D bd rk tb lb lc i F G R rd e F.n (e.at_ 1) (fun k=>((e.at_ 1).at_ k).tries))(g:Ug F G)(hF:XD w w.heap.size F.n F lb Na Nc)(hG:4<w.heap.size)(hi:i<400)(j0: -9223372036854775808<=kd/\kd<=9223372036854775807)(fs: -9223372036854775808<=nn/\nn<=9223372036854775807)(kj: -9223372036854775808<=kp/\kp<=9223372036854775807) :
  Calls prog 21 #[.pointer (some ⟨ub,0,none⟩),.agg #[.int .i64 kd,.int .i64 nn,.int .i64 kp]] wx fun x w'=>x=.returned (.bool true)/\∃nh fi e',HoS w w' ub hb D bd rk tb lb lc (i+1) F G nh fi e' F.n (e.at_ 1) (fun k=>((e.at_ 1).at_ k).tries)/\Jj (e.at_ 1) (e'.at_ 1):=by
 obtain⟨ta,tc,ir,is,ia,ic,ja,jc,h1,h2,hz,h3⟩:=h.wa.ex
 obtain⟨_,jz,ig,jg,rfl,rfl,jx,ke,jy,kg,jw,kh⟩:F.n=F.n/\is=(e.at_ 1).st/\∃ig jg,ia=some ⟨ig,0,none⟩/\ja=some ⟨jg,0,none⟩/\F.n<=ic/\F.n<=jc/\BO wx ig F.n (fun k=>((e.at_ 1).at_ k).st)/\BO wx jg F.n (fun k=>((e.at_ 1).at_ k).tries)/\ig≠tb/\jg≠tb:=by
  rcases h3 with h3 | h3
  .have:=g.n1;omega
  .exact h3
 have iz:=Zz (fun (wx:World)=>Zdd kd 6 wx j0.1 j0.2 (by omega) (by omega));obtain⟨k,hk,mi⟩:∃k:Nat,Zem kd 6=(k:Int)/\k<=5:=⟨(Zem kd 6).toNat,by have:=Zc8 kd 6 (by omega);omega,by have:=Zdy kd 6 (by omega);omega⟩;rw[hk] at iz;obtain⟨n,hn⟩:∃n,n=F.n:=⟨_,rfl⟩;obtain⟨m,hm⟩:∃m,m=R.length:=⟨_,rfl⟩;have oc:m<=400:=by have:=h.tl;omega
 have nr:n<=12:=by have:=g.n2;omega
 obtain⟨J,ei⟩:∃J,J=wx.heap.size:=⟨_,rfl⟩;obtain⟨w1,ft⟩:∃w1,w1=wx.alloc (.cells #[.int .i64 kd,.int .i64 nn,.int .i64 kp] 68):=⟨_,rfl⟩;have cq:ZY wx w1:=by rw[ft];exact ZV.alloc ZU _
 have js:w1.heap[J]? =some (.cells #[.int .i64 kd,.int .i64 nn,.int .i64 kp] 68 (0,0)):=by rw[ft,ei];exact QFm wx _
 have jd:=Zz (Vd (h.hh.below cq).1);obtain⟨now,ez⟩:∃now,now=e.time:=⟨_,rfl⟩;rw[<-ez] at jd;rw[<-hn,<-hm] at h1;have c0:=(GX (tg:=0) h1 cq).c0;have H:=Zz (Zq h (Zq g (Zq hF (Zq hG (Zq hi (Zq fs (Zq kj jz)))))));have HX:=Zz (Zq h1 (Zq h2 (Zq hz (Zq jx (Zq ke (Zq jy (Zq kg (Zq jw kh))))))));have P:=Zz (Zq hn (Zq hm ez));have T:=Zz (Zq cq (Zq js (Zq ei ft)));clear h g hF hG hi j0 fs kj jz h1 h2 hz jx ke jy kg jw kh h3 hn hm ez cq js ei ft hk
 go_enter func21,ntmps21
 go_upto_region 1 with fail
 rw[<-T.o.2.2.1,<-T.o.2.2.2]
 go_upto_region 2 with (go_at_call 50;refine jd.o.mono ?_;rintro _ w2 ⟨rfl,eg⟩;have H2:=Zz eg;clear eg)
 obtain⟨B,db⟩:∃B,B=w2.heap.size:=⟨_,rfl⟩;obtain⟨w3,fv⟩:∃w3,w3=w2.alloc (.cells #[.int .u64 0,.int .i64 0,.int .i64 0,.int .u64 0] 48):=⟨_,rfl⟩
 go_upto_region 3 with fail
 rw[<-db,<-fv];have az:ZY w1 w3:=by rw[fv];exact H2.o.alloc H2.o.size _
 have lp:Sa w3 B 0 0 0 0:=by unfold Sa;rw[fv,db];exact QFm w2 _
 have dy:=T.o.1.trans (az.mono T.o.1.size);have ku:wx.heap.size<=B:=by rw[db];exact Zv T.o.1.size H2.o.size
 have H3:=Zz (Zq az (Zq lp (Zq dy ku)));obtain⟨d0,d2,d3,d4,d5,d6,d9,d10⟩:=GX (tg:=0) HX.o.1 dy;clear az lp dy db fv c0 d0 d2 d3 d5 d6 d9 d10 ku
 go_cut [34] from 29 to 34 (fun z wc=>∃y9:Bool,z=.bool y9/\(y9=true↔0<m)/\wc=w3)
 case first =>
  go_wp2_with fail
  go_meet
  exact⟨_,rfl,by simp,rfl⟩
 obtain⟨y9,rfl,lu,cy⟩:=hcut;have cy:=cy.symm;subst cy;have jj:=Zz lu;clear lu
 go_upto_if 34 with fail
 go_cut [] from 35 to 55 (fun wc=>∃(q:Int) (nd:Nat) (nth tok:Int),Sa wc B q nd nth tok/\((tok=0/\R=[])\/∃t,t∈R/\nd=t.node/\nth=t.nth/\tok=t.tok)/\ZY wx wc/\wc.heap[J]? =w1.heap[J]?)
 case first =>
  cases y9 with
  | false =>
   have kx:m=0:=by
    have:=jj.o;simp at this;exact this
   have mx:R=[]:=List.length_eq_zero_iff.1 (by rw[<-P.o.2.1];exact kx);go_wp2_with fail
   go_meet
   exact⟨0,0,0,0,H3.o.2.1,Zu ⟨rfl,mx⟩,H3.o.2.2.1,H3.o.1.block J (Zaa T.o.2.1)⟩
  | true =>
   have kx:0<m:=jj.o.1 (by trivial);obtain⟨p,hp,oe⟩:∃p:Nat,Zem nn m=(p:Int)/\p<m:=⟨(Zem nn m).toNat,by have:=Zc8 nn m (by omega);omega,by have:=Zc8 nn m (by omega);have:=Zdy nn m (by omega);omega⟩;have HP:=Zz (fun (wx:World)=>Zdd nn m wx H.o.2.2.2.2.2.1.1 H.o.2.2.2.2.2.1.2 (by omega) (by omega));rw[hp] at HP;obtain⟨m1,o9,oa⟩:∃m1:Nat,(m:Int) - 1=(m1:Int)/\m1<m:=⟨m - 1,by omega,by omega⟩;obtain⟨x,hx,my⟩:∃x:Nat,(m1:Int) - (p:Int)=(x:Int)/\x<m:=⟨m - 1 - p,by omega,by omega⟩;have oh:(x:Int)<(m:Int):=by omega
   have ny:IntKind.i64.wrap (m1:Int)=(m1:Int):=QKj _ (by omega);have nz:IntKind.i64.wrap ((m1:Int) - (p:Int))=(x:Int):=(QKj _ (by omega)).trans hx;clear hx;have fw:x<R.length:=by rw[<-P.o.2.1];exact my
   obtain⟨t,j9⟩:∃t,t=R.getD x CM.z:=⟨_,rfl⟩
   have gv:t∈R:=by
    rw[j9,ZQ,ZZ fw];exact List.getElem_mem fw
   obtain⟨tg,mw,od,I⟩:∃tg,ta=some ⟨tg,0,none⟩/\m<=tc/\∀j,j<4->wx.cell? ⟨tg,x * 4+j,none⟩=(TN t)[j]? :=by
    have h2:=HX.o.2.1;rcases h2.2 with⟨_,E⟩ | ⟨tg,cap,cur,E,q3,q4,q5,q6⟩
    .have:=P.o.2.1;omega
    .simp only[Value.slice.injEq] at E
     rw[E.1] at h2;refine⟨tg,E.1,by have:=P.o.2.1;omega,fun j hj=> ?_⟩;rw[h2.cellAt (x * 4+j) (by have:=P.o.2.1;omega)];rw[j9];exact Jt (z:=CM.z) RR R fw hj
   subst mw;have n9:tg<wx.heap.size:=World.block_lt_of_cell? _ _ (I 0 (by omega));have y0:w3.cell? ⟨tg,x * 4,none⟩=some (.int .u64 2):=QFa H3.o.2.2.1 (I 0 (by omega));have y1:w3.cell? ⟨tg,x * 4+1,none⟩=some (.int .i64 t.node):=QFa H3.o.2.2.1 (I 1 (by omega));have y2:w3.cell? ⟨tg,x * 4+2,none⟩=some (.int .i64 t.nth):=QFa H3.o.2.2.1 (I 2 (by omega));have y3:w3.cell? ⟨tg,x * 4+3,none⟩=some (.int .u64 t.tok):=QFa H3.o.2.2.1 (I 3 (by omega))
   have v1:w3.cell? ⟨J,1,none⟩=some (.int .i64 nn):=by
    have:=(H3.o.1.block J (Zaa T.o.2.1)).trans T.o.2.1;exact Zad this 1
   have ax:=H3.o.2.1;unfold Sa at ax;have s0:=Zad ax 0;have s1:=Zad ax 1;have s2:=Zad ax 2;have s3:=Zad ax 3;have sz:∀o,w3.frozen? ⟨B,o,none⟩=false:=fun o=>by simp[QHj,ax]
   have HT:=Zz (Zq gv ax);have nu:B≠ub:=by have:=Zaa HX.o.1;have:=H3.o.2.2.2;omega
   have nt:B≠tg:=by have:=H3.o.2.2.2;omega
   have nv:B≠J:=Ne.symm (Zah ((H3.o.1.block J (Zaa T.o.2.1)).trans T.o.2.1) ax (by decide));clear gv j9 I n9 ax hp fw
   go_upto_region 4 with fail
   go_region_held3 (fun w'=>((w'.cell? ⟨ub,4,none⟩=some (.slice (some ⟨tg,0,none⟩) m tc)/\w'.cell? ⟨J,1,none⟩=some (.int .i64 nn))/\(w'.cell? ⟨tg,x * 4,none⟩=some (.int .u64 2)/\w'.cell? ⟨tg,x * 4+1,none⟩=some (.int .i64 t.node)))/\(w'.cell? ⟨tg,x * 4+2,none⟩=some (.int .i64 t.nth)/\w'.cell? ⟨tg,x * 4+3,none⟩=some (.int .u64 t.tok))) (go_keep) ((go_at_call 22;refine (HP.o _).mono ?_;rintro _ w4 ⟨rfl,h4⟩;have h4:=h4.symm;subst h4))
   all_goals go_wp2_with fail
   all_goals go_meet
   all_goals
    refine⟨2,t.node,t.nth,t.tok,?_,Zj ⟨t,HT.o.1,rfl,rfl,rfl⟩,?_,(Hj (Ne.symm nv) _ _ _ _ _ _ _ _).trans (H3.o.1.block J (Zaa T.o.2.1))⟩
    .exact Zab (Zab (Zab (Zab HT.o.2 _) _) _) _
    .exact (((((H3.o.2.2.1.drew).setCell H3.o.2.2.2 _).setCell H3.o.2.2.2 _).setCell H3.o.2.2.2 _).setCell H3.o.2.2.2 _)
 obtain⟨q,nd,nth,tok,j6,al,O,gh⟩:=hcut
 rename World=>w4
 have me:=H.o.1.below H.o.2.1 O;obtain⟨d0,d2,d3,d4,d5,d6,d9,d10⟩:=GX (tg:=0) HX.o.1 O;have bo:=j6;unfold Sa at bo;have s1:=Zad bo 1;have s2:=Zad bo 2;have s3:=Zad bo 3
 have lq:R≠[]->1<=tok/\nd<n:=fun ky=>by
  rcases al with⟨_,x⟩ | ⟨t,h1,rfl,rfl,rfl⟩
  .exact absurd x ky
  .have:=H.o.1.Cc.tk t h1
   exact⟨this.t1,by rw[P.o.1,<-H.o.1.len H.o.2.1];exact this.k⟩
 have Z:=Zz (Zq j6 (Zq al (Zq O (Zq lq (gh.trans T.o.2.1)))));clear j6 bo al me O lq gh d0 d2 d3 d4 d5 d6
 go_upto_region 5 with fail
 go_cut [8] from 56 to 84 (fun z wc=>∃y:Bool,z=.bool y/\FH (e.at_ 1) R nd nth tok y/\ZY w4 wc)
 case first =>
  rcases Z.o.2.1 with⟨h0,h1⟩ | ⟨t,h1,h2,h3,h4⟩
  .have g0:decide ((0:Int)<tok)=false:=decide_eq_false (by omega)
   go_quiet (fail)
   all_goals go_wp2_with fail
   all_goals go_meet
   all_goals exact⟨false,rfl,Zu ⟨h0,rfl⟩,FE ZV _⟩
  .obtain⟨k1,k2⟩:=Z.o.2.2.2.1 (fun x=>by rw[x] at h1;cases h1)
   have g0:decide ((0:Int)<tok)=true:=decide_eq_true (by omega);have g1:(nd:Int)<(n:Int):=by omega
   obtain⟨st,j7⟩:∃st,st=((e.at_ 1).at_ nd).st:=⟨_,rfl⟩;obtain⟨tr,ae⟩:∃tr,tr=((e.at_ 1).at_ nd).tries:=⟨_,rfl⟩
   have z1:w4.cell? ⟨ig,nd,none⟩=some (.int .i64 st):=by
    rw[j7];exact QFa Z.o.2.2.1 (HX.o.2.2.2.2.2.1.cell (by rw[<-P.o.1];exact k2))
   have z2:w4.cell? ⟨jg,nd,none⟩=some (.int .i64 tr):=by
    rw[ae];exact QFa Z.o.2.2.1 (HX.o.2.2.2.2.2.2.1.cell (by rw[<-P.o.1];exact k2))
   have HZ:=Zz (Zq j7 (Zq ae (Zq h1 (Zq h2 (Zq h3 h4)))));clear j7 ae h1 h2 h3 h4 k1
   have gm:∀y:Bool,(y=true↔st=3/\tr=nth)->FH (e.at_ 1) R nd nth tok y:=fun y hy=>by
    obtain⟨q1,E,q3,q4,q5,q6⟩:=HZ.o;refine Zj ⟨t,q3,q4,q5,q6,?_⟩;unfold JF;rw[hy,q1,E,q4,q5]
   have im:=Zz gm;clear gm;by_cases c3:st=3
   .have e3:(st == 3)=true:=beq_iff_eq.2 c3
    by_cases c4:tr=nth
    .have e4:(tr == nth)=true:=beq_iff_eq.2 c4
     have hr:=im.o true (by simp[c3,c4])
     go_quiet (fail)
     all_goals go_wp2_with fail
     all_goals go_meet
     all_goals exact⟨true,rfl,hr,FE ZV _⟩
    .have e4:(tr == nth)=false:=beq_eq_false_iff_ne.2 c4
     have hr:=im.o false (by simp[c4])
     go_quiet (fail)
     all_goals go_wp2_with fail
     all_goals go_meet
     all_goals exact⟨false,rfl,hr,FE ZV _⟩
   .have e3:(st == 3)=false:=beq_eq_false_iff_ne.2 c3
    have hr:=im.o false (by simp[c3])
    go_quiet (fail)
    all_goals go_wp2_with fail
    all_goals go_meet
    all_goals exact⟨false,rfl,hr,FE ZV _⟩
 obtain⟨y,rfl,al,ar⟩:=hcut
 rename World=>C
 have ee:=Z.o.2.2.1.trans (ar.mono Z.o.2.2.1.size);have ll:Sa C B q nd nth tok:=(ar.block B (Zaa Z.o.1)).trans Z.o.1;have gi:C.heap[J]? =some (.cells #[.int .i64 kd,.int .i64 nn,.int .i64 kp] 68 (0,0)):=(ar.block J (Zaa Z.o.2.2.2.2)).trans Z.o.2.2.2.2;have gw:=H.o.1.below H.o.2.1 ee;have u:=Zz (Zq ll (Zq gi (Zq gw (Zq al ee))));clear s1 s2 s3 d9 d10 ll gi gw al ee ar;have v0:C.cell? ⟨J,0,none⟩=some (.int .i64 kd):=Zad u.o.2.1 0;have v1:C.cell? ⟨J,1,none⟩=some (.int .i64 nn):=Zad u.o.2.1 1;have v2:C.cell? ⟨J,2,none⟩=some (.int .i64 kp):=Zad u.o.2.1 2;have s1:C.cell? ⟨B,1,none⟩=some (.int .i64 nd):=Zad u.o.1 1;have s2:C.cell? ⟨B,2,none⟩=some (.int .i64 nth):=Zad u.o.1 2;have s3:C.cell? ⟨B,3,none⟩=some (.int .u64 tok):=Zad u.o.1 3;obtain⟨d0,d2,d3,d4,d5,d6,d9,d10⟩:=GX (tg:=0) HX.o.1 u.o.2.2.2.2;have ck:=Zz ((u.o.2.2.2.2.block ub (Zaa HX.o.1)).trans HX.o.1);have dp:=Zz (u.o.2.2.1.AZ (by have:=H.o.2.2.2.2.1;omega));have dr:=Zz (show 13000000+1000000 * i<=1000000000000 by have:=H.o.2.2.2.2.1;omega);have dh:=Zz (u.o.2.2.2.1.tok0 H.o.1.Cc).1;have iw:=Zz (show tok.toNat<18446744073709551616 by have:=u.o.2.2.2.1.tok0 H.o.1.Cc;have:=u.o.2.2.1.tok;have:=H.o.2.2.2.2.1;omega);have cm:=Zz (fun wx=>Ir wx);unfold Zbd at cm
 go_upto_region 7 with (go_at_call 22;refine (iz.o _).mono ?_;rintro _ w6 ⟨rfl,h6⟩;have h6:=h6.symm;subst h6)
 clear iz v0
 match k,mi with
 | 0,_ =>
  have jh:=Zz (show ∀wy,ZY C wy->Calls prog 61 #[.pointer (some ⟨hb,0,none⟩),.agg #[.int .i64 (-1),.int .i64 (-1),.int .i64 0,.int .i64 0]] wy fun x w'=>∃a b c f y e',x=.returned (.tuple #[.agg #[.int .u64 a,.int .i64 b,.int .i64 c,.int .u64 f],.bool y,.int .i64 0])/\FG e a b c f y e'/\ZO w C w' hb D bd rk tb (13000000+1000000 * (i+1)) e'/\Ex wy w' (some rk) from fun wy l=>by
   refine (Yv (u.o.2.2.1.hh.below l).1 u.o.2.2.1.Cc.ok dp.o dr.o).mono ?_;rintro _ w7 ⟨a,b,c,f,yp,e',rfl,q0,q1,E⟩;exact⟨a,b,c,f,yp,e',rfl,q0,⟨q1.mono (by omega),(Ex.Ae l u.o.2.2.1.wa.rd.lt).trans E⟩,E⟩)
  go_upto_region 8 with fail
  go_cut [9,10,11] from 90 to 99 (fun v9 v10 v11 wc=>∃(ux:Nat) (a b c f:Int) (yp:Bool) (e':Ab),v9=.pointer (some ⟨ux,0,none⟩)/\v10=.bool yp/\v11=.int .i64 0/\FG e a b c f yp e'/\wc.heap[ux]? =some (.cells #[.int .u64 a,.int .i64 b,.int .i64 c,.int .u64 f] 48 (0,0))/\ZO w C wc hb D bd rk tb (13000000+1000000 * (i+1)) e')
  case first =>
   have mb:=fun o=>QFa (ZV.alloc ZU o) d0;clear d2 d3 d4 d5 d6 d9 d10 s1 s2 s3 v1 v2
   go_region_with (first
    | (go_at_call 13;refine (cm.o _).mono ?_;rintro _ w4 ⟨rfl,O⟩;have ma:w4.cell? ⟨ub,0,none⟩=some (.pointer (some ⟨hb,0,none⟩)):=(by first | exact QFa O d0 | exact QFa O (mb _));have nk:=fun o=>QFa (ZV.alloc ZU o) ma;have bw:=Zz O;clear O)
    | (go_at_call 61;refine (jh.o _ (by first | exact ((Zk _ C).drew).trans (bw.o.mono ZU) | exact (((Zk _ C).alloc ZU _).drew).trans (bw.o.mono (by simp)) | exact (((Zk _ C).drew).trans (bw.o.mono ZU)).alloc bw.o.size _)).mono ?_;rintro _ w7 ⟨a,b,c,f,yp,e',rfl,q0,q1,q3⟩;have H7:=Zz (Zq q0 q1);first
     | (have hk:=(q3.block C.heap.size _ _ _ ((bw.o.block C.heap.size (by simp)).trans (QFm C _)) Xd (by decide)).trans ((bw.o.block C.heap.size (by simp)).trans (QFm C _));have k0:=Zae hk 0;have k1:=Zae hk 1;have k2:=Zae hk 2;have k3:=Zae hk 3;have g0:=Zbb hk 0;have g1:=Zbb hk 1;have g2:=Zbb hk 2;have g3:=Zbb hk 3;have HK:=Zz hk;clear hk q0 q1 q3)
     | (have hk:=(q3.block w4.heap.size _ _ _ (QFm w4 _) Xd (by decide)).trans (QFm w4 _);have k0:=Zae hk 0;have k1:=Zae hk 1;have k2:=Zae hk 2;have k3:=Zae hk 3;have g0:=Zbb hk 0;have g1:=Zbb hk 1;have g2:=Zbb hk 2;have g3:=Zbb hk 3;have HK:=Zz hk;clear hk q0 q1 q3)
     | (have HK:=Zz q3;clear q0 q1 q3)))
   all_goals go_wp2_with fail
   all_goals go_meet
   all_goals first
    | (obtain⟨r1,r2⟩:=H7.o.2.put HK.o (by have h2:=bw.o.size;simp at h2;omega) u.o.2.2.1.wa.rd.lt u.o.2.2.1.hh.Db.size H.o.2.2.2.1 a b c f;exact⟨_,a,b,c,f,yp,e',rfl,rfl,rfl,H7.o.1,r1,r2⟩)
    | (obtain⟨r1,r2⟩:=H7.o.2.new u.o.2.2.1.wa.rd.lt a b c f;exact⟨_,a,b,c,f,yp,e',rfl,rfl,rfl,H7.o.1,r1,r2⟩)
  rename World=>L
  obtain⟨ux,a,b,c,f,yp,e',rfl,rfl,rfl,mo,ay,dj,gu⟩:=hcut;have M:=(Ex.Ae u.o.2.2.2.2 H.o.1.wa.rd.lt).trans gu;clear gu d0 d2 d3 d4 d5 d6 d9 d10 s1 s2 s3 v1 v2 jh;rcases mo with⟨_,_,_,_,_,rfl,rfl⟩ | ⟨p,tn,tk,he,rfl,rfl,rfl,rfl,rfl⟩
  .have d:=Zz (H.o.1.stay H.o.2.1 dj M)
   clear dj M;go_wp2_with fail
   go_ret
   exact⟨rfl,R,rd,_,d.o.1,d.o.2⟩
  .obtain⟨p1,p2,p3,p4,p5,p6,p7,p8,p9,fh⟩:=H.o.1.Cc.Bl he
   obtain⟨W,lh⟩:∃W,W=p.node:=⟨_,rfl⟩;rw[<-lh] at p2 p3 p4 p5 p9 ay;rw[p1] at ay;have bj:W<n:=by rw[P.o.1,<-H.o.1.len H.o.2.1];exact p2
   have A:=H.o.1.wa.stay H.o.2.1.n1 (fun k cs t fr e hn ht=>M.block k cs t fr e hn (by rcases ht with rfl | rfl | rfl<;>decide)) (M.row rk rfl);have N:=(M.block ub _ _ _ HX.o.1 (fun t v x=>by cases x) (by decide)).trans HX.o.1;have aj:=HX.o.2.2.2.2.2.1.Ak H.o.2.1.n1 M;have bf:=HX.o.2.2.2.2.2.2.1.Ak H.o.2.1.n1 M;have dc:=ZF HX.o.2.1 HX.o.2.2.1 M;obtain⟨tr,ae⟩:∃x,x=((e.at_ 1).at_ W).tries:=⟨_,rfl⟩;obtain⟨rv,j3⟩:∃x,x=rd.getD W 0:=⟨_,rfl⟩;have d2:L.cell? ⟨ub,2,none⟩=some (.slice (some ⟨lb,0,none⟩) n lc):=Zad N 2;have d3:L.cell? ⟨ub,3,none⟩=some (.int .u64 2):=Zad N 3;have d5:L.cell? ⟨ub,5,none⟩=some (.slice (some ⟨rk,0,none⟩) n n):=Zad N 5;have d6:L.cell? ⟨ub,6,none⟩=some (.slice (some ⟨tb,0,none⟩) n n):=Zad N 6;have d9:L.cell? ⟨ub,9,none⟩=some (.slice (some ⟨ig,0,none⟩) n ic):=Zad N 9;have u0:L.cell? ⟨ux,0,none⟩=some (.int .u64 2):=Zad ay 0;have u1:L.cell? ⟨ux,1,none⟩=some (.int .i64 W):=Zad ay 1;have u2:L.cell? ⟨ux,2,none⟩=some (.int .i64 c):=Zad ay 2;have u3:L.cell? ⟨ux,3,none⟩=some (.int .u64 f):=Zad ay 3;have kt:L.cell? ⟨tb,W,none⟩=some (.int .i64 tr):=by rw[ae];exact A.tr.cell (by rw[<-P.o.1];exact bj)
   have kr:L.cell? ⟨rk,W,none⟩=some (.int .u64 rv):=by rw[j3];exact A.rd.cell (by rw[<-P.o.1];exact bj)
   have ki:L.cell? ⟨ig,W,none⟩=some (.int .i64 2):=by
    have:=aj.cell (i:=W) (by rw[<-P.o.1];exact bj);rw[p5] at this;exact this
   have mr:0<=tr/\tr<=5:=by
    have hS:=(H.o.1.Cc.ok.wk.runs 1 H.o.1.Cc.i1).steps W p2;have h4:=(H.o.2.1.w.nodes W (by rw[<-P.o.1];exact bj)).bu;have h3:=hS.Xv;rw[H.o.1.fl,<-H.o.2.1.same.bu W (by rw[<-P.o.1];exact bj)] at h3;have:=hS.tr0;omega
   have ew:IntKind.i64.wrap (tr+1)=c:=by rw[p3,<-ae];exact QKj _ (by omega)
   have g1:decide ((W:Int)<0)=false:=decide_eq_false (by omega);have g2:decide ((n:Int)<=(W:Int))=false:=decide_eq_false (by omega);have mc:decide (n<=W)=false:=decide_eq_false (by omega);have g3:decide (now<rv)=false:=decide_eq_false (by rw[P.o.2.2,j3];omega);have g4:(W:Int)<(n:Int):=by omega
   have H8:=Zz (Zq ay (Zq dj (Zq M (Zq A (Zq N (Zq aj (Zq bf dc)))))));have jf:=Zz (Zq p6 (Zq p7 (Zq p8 (Zq p9 fh))));clear ay dj M A N aj bf dc p1 p2 p3 p4 p5 p6 p7 p8 p9 fh mr ae j3 lh he
   go_upto_region 13 with fail
   go_cut [164] from 104 to 164 (fun z wc=>z=.bool false/\ZY L wc)
   case first =>
    go_quiet (fail)
    all_goals go_wp2_with fail
    all_goals go_meet
    all_goals exact⟨rfl,FE ZV _⟩
   obtain⟨rfl,Q⟩:=hcut
   rename World=>w9
   have H9:=Zz Q;have v3:=QFa Q u3;have v4:w9.cell? ⟨ub,4,none⟩=some (.slice ta m tc):=QFa Q (Zad H8.o.2.2.2.2.1 4);clear Q d2 d3 d5 d6 d9 u0 u1 u2 u3 kt kr ki ew g1 g2 mc g3 g4;go_wp2_with fail
   go_loopw [12] (fun jv V=>∃j:Nat,jv=.int .i64 j/\j<=m/\ZY w9 V) (fun jv _=>m - (intOf jv).toNat)
   case atStart=>exact⟨0,rfl,by omega,Zk _ _⟩
   case round =>
    obtain⟨j,rfl,hj,fm⟩:=hrel
    rename World=>V
    have HJ:=Zz fm;have x4:=QFa fm v4;have x3:=QFa fm v3;clear fm;by_cases j1:j<m
    case pos =>
     have i2:(j:Int)<(m:Int):=by omega
     obtain⟨tg,rfl,I⟩:∃tg,ta=some ⟨tg,0,none⟩/\L.cell? ⟨tg,j * 4+3,none⟩=some (.int .u64 (R.getD j CM.z).tok):=by
      have h2:=H8.o.2.2.2.2.2.2.2;have fq:=P.o.2.1;rcases h2.2 with⟨_,E⟩ | ⟨tg,cap,cur,E,q3,q4,q5,q6⟩
      .omega
      .simp only[Value.slice.injEq] at E
       rw[E.1] at h2;refine⟨tg,E.1,?_⟩;rw[h2.cellAt (j * 4+3) (by omega),Jt (z:=CM.z) RR R (by omega) (by omega)]
       rfl
     obtain⟨tj,j8⟩:∃x,x=(R.getD j CM.z).tok:=⟨_,rfl⟩
     have ky:(tj == f)=false:=beq_eq_false_iff_ne.2 (by
      rw[j8];refine jf.o.1 _ ?_;have fq:=P.o.2.1;rw[ZQ,ZZ (by omega)];exact List.getElem_mem (by omega))
     rw[<-j8] at I;have x5:=QFa HJ.o (QFa H9.o I);clear I j8 v3 v4;go_wp2_with fail
     go_quiet (fail)
     all_goals go_wp2_with fail
     all_goals exact⟨⟨j+1,by go_num,by omega,FE HJ.o _⟩,by simp[intOf];omega⟩
    case neg =>
     have i2:¬(j:Int)<(m:Int):=by omega
     have ag:=H9.o.trans (HJ.o.mono H9.o.size);have dd:=Zak H8.o.2.2.2.2.2.2.2 ag;rw[<-P.o.2.1] at dd;have bp:=(ag.block ub (Zaa H8.o.2.2.2.2.1)).trans H8.o.2.2.2.2.1;have de:=(ag.block ux (Zaa H8.o.1)).trans H8.o.1;have np:=Zaa bp;have og:w.heap.size<=V.heap.size:=Zv H8.o.2.1.Db.size ag.size;have x0:V.cell? ⟨ux,0,none⟩=some (.int .u64 2):=Zad de 0;have x1:V.cell? ⟨ux,1,none⟩=some (.int .i64 W):=Zad de 1;have x2:V.cell? ⟨ux,2,none⟩=some (.int .i64 c):=Zad de 2;have xz:V.frozen? ⟨ub,4,none⟩=false:=by simp[QHj,bp]
     have jk:some ub≠(Value.slice ta m tc).ownBlock:=fun x=>by
      rcases dd.2 with⟨q,_⟩ | ⟨g2,cap,cur,q,_,mh,_⟩
      .rw[q] at x;simp[Value.ownBlock] at x
      .rw[q] at x
       simp only[Value.ownBlock,Option.some.injEq] at x;exact Zah bp mh (by decide) x
     obtain⟨it,k9,lx,ly,lz⟩:=info_parts infoTk;have HI:=Zz (Zq k9 (Zq lx (Zq ly lz)));have HO:=Zz dd;have HU:=Zz (Zq ag bp);clear k9 lx ly lz dd ag bp de v3 v4
     go_upto_region 20 with fail
     have y4:=fun o=>QFa ((Zk V.heap.size V).alloc ZU o) x4;have y0:=fun o=>QFa ((Zk V.heap.size V).alloc ZU o) x0;have y1:=fun o=>QFa ((Zk V.heap.size V).alloc ZU o) x1;have y2:=fun o=>QFa ((Zk V.heap.size V).alloc ZU o) x2;have y3:=fun o=>QFa ((Zk V.heap.size V).alloc ZU o) x3
     go_region_law ((refine step_append_lies _ (by rfl) _ _ _ (by rfl) w.heap.size 48 it _ 4 32 underlying74 HI.o.1 HI.o.2.1 HI.o.2.2.1 HI.o.2.2.2 rfl (by omega) (.slice ta m tc) m (R.flatMap TN) (by rfl) ((HO.o.alloc _).drew) ⟨V.heap.size,0,none⟩ 1 1 [.int .u64 2,.int .i64 W,.int .i64 c,.int .u64 f] (by rfl) (by rfl) (World.news_of_block (cs:=#[.int .u64 2,.int .i64 W,.int .i64 c,.int .u64 f]) (t:=48) (fr:=(0,0)) (QFm V _)) (by simp[Value.oneCell']) (by omega) (by unfold maxLen;omega) (by omega) (by simp;omega) (V.heap.size+1) (by simp) ?_;intro gg nl w7 fe au mf mj;have s1:=(au.cell_far ⟨ub,4,none⟩ (by simp;omega) jk).trans (QFa (((Zk V.heap.size V).alloc ZU _).drew) x4);have sz:=(au.frozen_far ⟨ub,4,none⟩ (by simp;omega) jk).trans (((((Zk V.heap.size V).alloc ZU (.cells #[.int .u64 2,.int .i64 W,.int .i64 c,.int .u64 f] 48)).drew).frozen (p:=⟨ub,4,none⟩) (by simp only[];omega)).trans xz)))
     all_goals
      have je:=Zz (Zq fe au);clear fe au mf mj s1 sz y0 y1 y2 y3 y4 x0 x1 x2 x3 x4 xz;go_wp2_with fail
      go_ret
      have cr:ZY L (V.alloc (.cells #[.int .u64 2,.int .i64 W,.int .i64 c,.int .u64 f] 48)).drew:=(HU.o.1.alloc HU.o.1.size _).drew;obtain⟨ay,dj,M,A,N,aj,bf,dc⟩:=H8.o;obtain⟨p6,p7,p8,p9,fh⟩:=jf.o;have gx:=je.o.1;have ju:=je.o.2;have fq:=P.o.2.1;rw[fq] at gx ju N;have fs:=P.o.1;have jm:=TR (t:=⟨W,c,f⟩) (r0:=e.at_ 1) (tv:=fun k=>((e.at_ 1).at_ k).tries) (n:=F.n) (rd:=rd) (dj.below cr).1 (by rw[<-fs];exact (cr.block ub (Zaa N)).trans N) (Zak dc cr) HX.o.2.2.1 (Zj ⟨rfl,H.o.2.2.2.2.2.2.2,ig,jg,rfl,rfl,HX.o.2.2.2.1,HX.o.2.2.2.2.1,aj.at_ (cr.block ig aj.lt),bf.at_ (cr.block jg bf.lt),HX.o.2.2.2.2.2.2.2.1,HX.o.2.2.2.2.2.2.2.2⟩) (A.rd.of_block (cr.block rk A.rd.lt)) (A.tr.of_block (cr.block tb A.tr.lt)) A.lo H.o.2.2.2.1 ju gx;rw[fq];refine⟨rfl,R++[⟨W,c,f⟩],rd,e',⟨jm.1,?_,{ p9 with time:=by have:=p9.time;push_cast;omega },fh.fl.trans H.o.1.fl,by rw[p8];have:=H.o.1.tok;push_cast;omega,by rw[ZX,List.length_singleton];have:=H.o.1.tl;omega⟩,fh⟩;exact jm.2
 | 1,_ =>
  have HC:=Zz (fun wy (l:ZY C wy)=>On (n:=tok.toNat) (u.o.2.2.1.hh.below l).1 u.o.2.2.1.Cc.ok dp.o dr.o iw.o);rw[QIh dh.o] at HC
  go_upto_region 22 with fail
  go_cut [13] from 197 to 204 (fun z wc=>z=.int .i64 (CO 7 (e.complete tok))/\HH tb w wc hb D bd (some rk) (13000000+1000000 * (i+1)) ((e.complete tok).getD e)/\∃wy,ZY C wy/\Ex wy wc (some rk))
  case first =>
   go_region_held3 (fun w'=>w'.cell? ⟨ub,0,none⟩=some (.pointer (some ⟨hb,0,none⟩))/\w'.cell? ⟨B,3,none⟩=some (.int .u64 tok)) (go_keep) (first
    | (go_at_call 13;refine (cm.o _).mono ?_;rintro _ w6 ⟨rfl,K⟩;have x0:=QFa K d0;have x3:=QFa K s3;have H6:=Zz (((Zk C.heap.size C).drew).trans' K);clear K)
    | (go_at_call 26;refine (HC.o w6 H6.o).mono ?_;rintro _ w7 ⟨rfl,q1,E⟩;have s:=Zc3 (hb:=hb) ck.o rfl u.o.1 H6.o E;have fy:=(QEc (a:=⟨ub,0,none⟩) s.1).trans d0;have gb:=(QEc (a:=⟨B,3,none⟩) s.2).trans s3;have H7:=Zz (Zq q1 E);clear q1 E s))
   all_goals go_wp2_with fail
   all_goals go_meet
   all_goals exact⟨rfl,H7.o.1.mono (by omega),w6,H6.o,H7.o.2⟩
  obtain⟨rfl,X,wy,l,U⟩:=hcut
  rename World=>L
  have S:=(u.o.2.2.2.1.res H.o.1.Cc dh.o).1;rw[S];have d:=Zz ((u.o.2.2.1.below H.o.2.1 l).opt H.o.2.1 X U (fun e' he=>⟨Bq.complete OR H.o.1.Cc.ok trivial he,H.o.1.Cc.ok.complete he,H.o.1.Cc.up.complete H.o.1.Cc.ok he,by rw[Lb H.o.1.Cc.ok he];omega⟩));clear S X l U d0 d2 d3 d4 d5 d6 d9 d10 s1 s2 s3 v1 v2 HC
  cases y with
  | true =>
   go_wp2_with fail
   go_ret
   exact⟨rfl,R,rd,_,d.o.1,d.o.2⟩
  | false =>
   go_wp2_with fail
   go_ret
   exact⟨rfl,R,rd,_,d.o.1,d.o.2⟩
 | 2,_ =>
  have HC:=Zz (fun wy (l:ZY C wy)=>Yr (n:=tok.toNat) (u.o.2.2.1.hh.below l).1 u.o.2.2.1.Cc.ok dp.o dr.o iw.o);rw[QIh dh.o] at HC
  go_upto_region 25 with fail
  go_cut [14] from 218 to 225 (fun z wc=>z=.int .i64 (CO 7 (e.fail tok))/\HH tb w wc hb D bd (some rk) (13000000+1000000 * (i+1)) ((e.fail tok).getD e)/\∃wy,ZY C wy/\Ex wy wc (some rk))
  case first =>
   go_region_held3 (fun w'=>w'.cell? ⟨ub,0,none⟩=some (.pointer (some ⟨hb,0,none⟩))/\w'.cell? ⟨B,3,none⟩=some (.int .u64 tok)) (go_keep) (first
    | (go_at_call 13;refine (cm.o _).mono ?_;rintro _ w6 ⟨rfl,K⟩;have x0:=QFa K d0;have x3:=QFa K s3;have H6:=Zz (((Zk C.heap.size C).drew).trans' K);clear K)
    | (go_at_call 26;refine (HC.o w6 H6.o).mono ?_;rintro _ w7 ⟨rfl,q1,E⟩;have s:=Zc3 (hb:=hb) ck.o rfl u.o.1 H6.o E;have fy:=(QEc (a:=⟨ub,0,none⟩) s.1).trans d0;have gb:=(QEc (a:=⟨B,3,none⟩) s.2).trans s3;have H7:=Zz (Zq q1 E);clear q1 E s))
   all_goals go_wp2_with fail
   all_goals go_meet
   all_goals exact⟨rfl,H7.o.1.mono (by omega),w6,H6.o,H7.o.2⟩
  rename World=>L
  obtain⟨rfl,X,wy,l,U⟩:=hcut;have S:=(u.o.2.2.2.1.res H.o.1.Cc dh.o).2.1;rw[S];have s:=Zc3 (hb:=hb) ck.o rfl u.o.1 l U;have e2:=(QEc (a:=⟨ub,2,none⟩) s.1).trans d2;have e5:=(QEc (a:=⟨ub,5,none⟩) s.1).trans d5;have z1:=(QEc (a:=⟨B,1,none⟩) s.2).trans s1;have z2:=(QEc (a:=⟨B,2,none⟩) s.2).trans s2;have Y:=Zz (Zq X (Zq l U));clear S X l U s d0 d2 d3 d4 d5 d6 d9 d10 s1 s2 s3 v1 v2 HC
  cases y with
  | false =>
   have d:=Zz ((u.o.2.2.1.below H.o.2.1 Y.o.2.1).opt H.o.2.1 Y.o.1 Y.o.2.2 (fun e' he=>⟨Bq.fail OR H.o.1.Cc.ok trivial he,H.o.1.Cc.ok.fail he,H.o.1.Cc.up.fail H.o.1.Cc.ok he,by rw[SB he];omega⟩));go_wp2_with fail
   go_ret
   exact⟨rfl,R,rd,_,d.o.1,d.o.2⟩
  | true =>
   obtain⟨t,ht,ey,cz,ie,jb⟩:=u.o.2.2.2.1.some_;have jr:=(H.o.1.Cc.fail (by have:=H.o.2.2.2.2.1;omega) ht jb).1;have fg:nd<n:=by rw[P.o.1,<-H.o.1.len H.o.2.1,ey];exact (H.o.1.Cc.tk t ht).k
   have jt:XD L w.heap.size F.n F lb Na Nc:=by
    have jq:=Y.o.1.Db;exact H.o.2.2.1.Ak jq.size (fun k hk=>jq.block k hk)
   have du:=H.o.2.1.w.nodes nd (by rw[<-P.o.1];exact fg);have jl:=(H.o.2.1.w.ok H.o.2.1.n1 H.o.2.1.n2).2.1 nd (by rw[<-P.o.1];exact fg);have gy:=WB jl.1 nth 0;obtain⟨b0,jo⟩:∃x,x=F.bu nd:=⟨_,rfl⟩;obtain⟨b1,cq⟩:∃x,x=F.cl nd:=⟨_,rfl⟩;obtain⟨b2,eg⟩:∃x,x=F.be nd:=⟨_,rfl⟩;obtain⟨b3,az⟩:∃x,x=F.ba nd:=⟨_,rfl⟩;obtain⟨b4,O⟩:∃x,x=F.ca nd:=⟨_,rfl⟩;obtain⟨b5,ar⟩:∃x,x=F.ji nd:=⟨_,rfl⟩;obtain⟨av,dw⟩:∃x,x=(Na nd,F.an nd,Nc nd):=⟨_,rfl⟩;obtain⟨na,an,nc⟩:=av;simp only[Prod.mk.injEq] at dw;have fc:=fun j (hj:j<7)=>jt.nd nd j (by rw[<-P.o.1];exact fg) hj
   have f0:=fc 0 (by omega);have f1:=fc 1 (by omega);have f2:=fc 2 (by omega);have f3:=fc 3 (by omega);have f4:=fc 4 (by omega);have f5:=fc 5 (by omega);have f6:=fc 6 (by omega)
   replace f0:L.cell? ⟨lb,nd * 7,none⟩=some (.int .i64 b0):=by rw[jo];exact f0
   replace f1:L.cell? ⟨lb,nd * 7+1,none⟩=some (.int .i64 b1):=by rw[cq];exact f1
   replace f2:L.cell? ⟨lb,nd * 7+2,none⟩=some (.int .i64 b2):=by rw[eg];exact f2
   replace f3:L.cell? ⟨lb,nd * 7+3,none⟩=some (.int .i64 b3):=by rw[az];exact f3
   replace f4:L.cell? ⟨lb,nd * 7+4,none⟩=some (.int .i64 b4):=by rw[O];exact f4
   replace f5:L.cell? ⟨lb,nd * 7+5,none⟩=some (.int .i64 b5):=by rw[ar];exact f5
   replace f6:L.cell? ⟨lb,nd * 7+6,none⟩=some (.slice na an nc):=by rw[dw.1,dw.2.1,dw.2.2];exact f6
   obtain⟨r,hr⟩:∃r,r=Zbs b3 b4 b5 nth 0:=⟨_,rfl⟩;rw[<-az,<-O,<-ar,<-hr] at gy
   have mg:1<=b3/\b3<=6/\b3<=b4/\b4<=30/\0<=b5/\b5<=3:=by
    have:=du.ba;have:=du.ca;have:=du.ji;omega
   obtain⟨q1,E,q3,q4,q5,q6⟩:=mg;obtain⟨r1,r2⟩:=gy
   have cu: -9223372036854775808<=nth/\nth<=9223372036854775807:=by
    have h1:=(H.o.1.Cc.tk t ht).n0;have h2:=(H.o.1.Cc.tk t ht).le;have h3:=((H.o.1.Cc.ok.wk.runs 1 H.o.1.Cc.i1).steps t.node (H.o.1.Cc.tk t ht).k).Xv;rw[<-ey] at h2 h3;rw[H.o.1.fl,<-H.o.2.1.same.bu nd (by rw[<-P.o.1];exact fg)] at h3;have h4:=du.bu;rw[cz];omega
   have iu:=Zz (fun wx=>TA b0 b1 b2 b3 b4 b5 nth 0 (.slice na an nc) wx q1 (by omega) q3 (by omega) q5 (by omega) cu.1 cu.2 (by omega) (by omega));rw[<-hr] at iu;unfold ndV at iu;have HT:=Zz (Zq ht (Zq ey (Zq cz (Zq ie (Zq jb (Zq jr (Zq (show r=Zbs (F.ba t.node) (F.ca t.node) (F.ji t.node) t.nth 0 by rw[hr,az,O,ar,ey,cz]) fg)))))));have i3:(nd:Int)<(n:Int):=by omega
   clear cu ht ey cz ie jb jr jt du jl jo cq eg az O ar dw fc hr
   go_upto_region 27 with fail
   go_cut [15] from 227 to 235 (fun z wd=>∃nb:Nat,z=.pointer (some ⟨nb,0,none⟩)/\wd.heap[nb]? =some (.cells #[.int .i64 b0,.int .i64 b1,.int .i64 b2,.int .i64 b3,.int .i64 b4,.int .i64 b5,.slice na an nc] 130 (0,0))/\ZY L wd)
   case first =>
    have p1:=QIr L _ e2;have p2:=QIr L _ z1;have p3:=QIr L _ f0
    go_region_held3 (fun w'=>((w'.cell? ⟨ub,2,none⟩=some (.slice (some ⟨lb,0,none⟩) n lc)/\w'.cell? ⟨B,1,none⟩=some (.int .i64 nd))/\(w'.cell? ⟨lb,nd * 7,none⟩=some (.int .i64 b0)/\w'.cell? ⟨lb,nd * 7+1,none⟩=some (.int .i64 b1)))/\((w'.cell? ⟨lb,nd * 7+2,none⟩=some (.int .i64 b2)/\w'.cell? ⟨lb,nd * 7+3,none⟩=some (.int .i64 b3))/\(w'.cell? ⟨lb,nd * 7+4,none⟩=some (.int .i64 b4)/\(w'.cell? ⟨lb,nd * 7+5,none⟩=some (.int .i64 b5)/\w'.cell? ⟨lb,nd * 7+6,none⟩=some (.slice na an nc))))) (go_keep) (fail)
    all_goals go_wp2_with fail
    all_goals go_meet
    all_goals exact⟨_,rfl,QFm L _,((Zk L.heap.size L).alloc ZU _).drew⟩
   rename World=>w9
   obtain⟨nb,rfl,bh,Q⟩:=hcut;have n0:w9.cell? ⟨nb,0,none⟩=some (.int .i64 b0):=Zad bh 0;have n1:w9.cell? ⟨nb,1,none⟩=some (.int .i64 b1):=Zad bh 1;have n2:w9.cell? ⟨nb,2,none⟩=some (.int .i64 b2):=Zad bh 2;have n3:w9.cell? ⟨nb,3,none⟩=some (.int .i64 b3):=Zad bh 3;have n4:w9.cell? ⟨nb,4,none⟩=some (.int .i64 b4):=Zad bh 4;have n5:w9.cell? ⟨nb,5,none⟩=some (.int .i64 b5):=Zad bh 5;have n6:w9.cell? ⟨nb,6,none⟩=some (.slice na an nc):=Zad bh 6;have nj:=QFa Q z2
   go_upto_region 29 with (go_at_call 62;refine (iu.o _).mono ?_;rintro _ fj ⟨rfl,gd⟩;have br:=Zz gd;clear gd)
   have H9:=Zz (Q.trans (br.o.mono Q.size));have m3:=QFa br.o n3;have m4:=QFa br.o n4;have m5:=QFa br.o n5;clear n0 n1 n2 n3 n4 n5 n6 nj Q f0 f1 f2 f3 f4 f5 f6 bh;have g1:¬r<b3:=by omega
   have g2:¬b4+b5<r:=by omega
   go_cut [252] from 240 to 252 (fun z wc=>z=.bool false/\wc=fj)
   case first =>
    go_wp2_with fail
    go_meet
    exact⟨rfl,rfl⟩
   obtain⟨rfl,cy⟩:=hcut;have cy:=cy.symm;subst cy;clear m3 m4 m5 g1 g2;have mq:=H.o.1.Cc.ok.wk.t0;have mu:=H.o.1.Cc.time
   have ml:0<=now/\now<=100000:=by
    have:=P.o.2.2;have:=H.o.2.2.2.2.1;omega
   have nw:IntKind.u64.wrap r=r:=QKk _ (by omega);have nx:IntKind.u64.wrap (now+r)=now+r:=QKk _ (by omega)
   have A:=((u.o.2.2.1.below H.o.2.1 Y.o.2.1).wa.stay H.o.2.1.n1 (fun k cs t fr e hn ht=>Y.o.2.2.block k cs t fr e hn (by rcases ht with rfl | rfl | rfl<;>decide)) (Y.o.2.2.row rk rfl)).stay H.o.2.1.n1 (fun k cs t fr e _ _=>H9.o.block k (Zaa e)) (H9.o.block rk (by
    have hq:=(u.o.2.2.1.below H.o.2.1 Y.o.2.1).wa.rd;exact Zy hq.lt Y.o.2.2.size))
   have ep:=(Y.o.1.below H9.o).1;rw[HT.o.2.2.2.1,HT.o.2.2.2.2.2.1,Option.getD_some] at ep;have iq:=Zz (H.o.1.failed H.o.2.1 H.o.2.2.2.2.1 HT.o.1 HT.o.2.2.2.2.1 (ep.below ((Zk fj.heap.size fj).drew)).1 (A.stay (wy:=fj.drew) H.o.2.1.n1 (fun k cs t fr e _ _=>rfl) rfl) H.o.2.2.2.1 HT.o.2.2.2.2.2.2.1);have k5:=QFa H9.o e5;have k1:=QFa H9.o z1;have kr:=A.rd.cell (i:=nd) (by rw[<-P.o.1];exact HT.o.2.2.2.2.2.2.2);have kz:=A.rd.frozen nd;obtain⟨ov,l9⟩:∃x,x=rd.getD nd 0:=⟨_,rfl⟩;rw[<-l9] at kr;rw[<-HT.o.2.1,<-P.o.2.2] at iq;clear ep A l9 e2 e5 z1 z2 mq mu
   go_upto_region 31 with fail
   go_cut [] from 253 to 263 (fun wd=>∃fi e',HoS w wd ub hb D bd rk tb lb lc (i+1) F G R fi e' F.n (e.at_ 1) (fun k=>((e.at_ 1).at_ k).tries)/\Jj (e.at_ 1) (e'.at_ 1))
   case first =>
    go_region
    all_goals go_wp2_with fail
    all_goals go_meet
    all_goals exact⟨_,_,iq.o.1,iq.o.2⟩
   obtain⟨fi,e',q1,E⟩:=hcut;have d:=Zz (Zq q1 E);clear q1 E;go_wp2_with fail
   go_ret
   exact⟨rfl,R,fi,e',d.o.1,d.o.2⟩
 | 3,_ =>
  have HC:=Zz (fun wy (l:ZY C wy)=>Yq (n:=tok.toNat) (u.o.2.2.1.hh.below l).1 u.o.2.2.1.Cc.ok dp.o dr.o iw.o);rw[QIh dh.o] at HC
  go_upto_region 34 with fail
  go_cut [17] from 277 to 284 (fun z wc=>z=.int .i64 (CO 7 (e.AY tok))/\HH tb w wc hb D bd (some rk) (13000000+1000000 * (i+1)) ((e.AY tok).getD e)/\∃wy,ZY C wy/\Ex wy wc (some rk))
  case first =>
   go_region_held3 (fun w'=>w'.cell? ⟨ub,0,none⟩=some (.pointer (some ⟨hb,0,none⟩))/\w'.cell? ⟨B,3,none⟩=some (.int .u64 tok)) (go_keep) (first
    | (go_at_call 13;refine (cm.o _).mono ?_;rintro _ w6 ⟨rfl,K⟩;have x0:=QFa K d0;have x3:=QFa K s3;have H6:=Zz (((Zk C.heap.size C).drew).trans' K);clear K)
    | (go_at_call 26;refine (HC.o w6 H6.o).mono ?_;rintro _ w7 ⟨rfl,q1,E⟩;have s:=Zc3 (hb:=hb) ck.o rfl u.o.1 H6.o E;have fy:=(QEc (a:=⟨ub,0,none⟩) s.1).trans d0;have gb:=(QEc (a:=⟨B,3,none⟩) s.2).trans s3;have H7:=Zz (Zq q1 E);clear q1 E s))
   all_goals go_wp2_with fail
   all_goals go_meet
   all_goals exact⟨rfl,H7.o.1.mono (by omega),w6,H6.o,H7.o.2⟩
  obtain⟨rfl,X,wy,l,U⟩:=hcut
  rename World=>L
  have S:=(u.o.2.2.2.1.res H.o.1.Cc dh.o).2.2;rw[S];have d:=Zz ((u.o.2.2.1.below H.o.2.1 l).opt H.o.2.1 X U (fun e' he=>⟨Bq.AY OR H.o.1.Cc.ok trivial he,H.o.1.Cc.ok.AY he,H.o.1.Cc.up.AY he,by rw[Sj he];omega⟩));clear S X l U d0 d2 d3 d4 d5 d6 d9 d10 s1 s2 s3 v1 v2 HC
  cases y with
  | true =>
   go_wp2_with fail
   go_ret
   exact⟨rfl,R,rd,_,d.o.1,d.o.2⟩
  | false =>
   go_wp2_with fail
   go_ret
   exact⟨rfl,R,rd,_,d.o.1,d.o.2⟩
 | 4,_ =>
  obtain⟨p,hp,ld⟩:∃p:Nat,Zem nn 40=(p:Int)/\p<40:=⟨(Zem nn 40).toNat,by have:=Zc8 nn 40 (by omega);omega,by have:=Zc8 nn 40 (by omega);have:=Zdy nn 40 (by omega);omega⟩;have HP:=Zz (fun (wx:World)=>Zdd nn 40 wx H.o.2.2.2.2.2.1.1 H.o.2.2.2.2.2.1.2 (by omega) (by omega));rw[hp] at HP;clear hp;have HC:=Zz (fun wy (l:ZY C wy)=>Yw (n:=p) (u.o.2.2.1.hh.below l).1 u.o.2.2.1.Cc.ok dp.o dr.o (by omega));have eu:IntKind.u64.wrap (p:Int)=(p:Int):=QKk _ (by omega)
  go_upto_region 37 with fail
  go_cut [18] from 298 to 307 (fun z wc=>z=.int .i64 0/\∃e',BR e p e'/\HH tb w wc hb D bd (some rk) (13000000+1000000 * (i+1)) e'/\∃wy,ZY C wy/\Ex wy wc (some rk))
  case first =>
   go_region_held3 (fun w'=>w'.cell? ⟨ub,0,none⟩=some (.pointer (some ⟨hb,0,none⟩))/\w'.cell? ⟨J,1,none⟩=some (.int .i64 nn)) (go_keep) (first
    | (go_at_call 22;refine (HP.o _).mono ?_;rintro _ w6 ⟨rfl,h6⟩;have h6:=h6.symm;subst h6)
    | (go_at_call 13;refine (cm.o _).mono ?_;rintro _ w6 ⟨rfl,K⟩;have x0:=QFa K d0;have x3:=QFa K v1;have H6:=Zz (((Zk C.heap.size C).drew).trans' K);clear K)
    | (go_at_call 26;refine (HC.o w6 H6.o).mono ?_;rintro _ w7 ⟨rfl,e',q0,q1,E⟩;have s:=Zc3 (hb:=hb) ck.o rfl u.o.1 H6.o E;have fy:=(QEc (a:=⟨ub,0,none⟩) s.1).trans d0;have gb:=(Rn u.o.2.1 H6.o E).trans v1;have H7:=Zz (Zq q0 (Zq q1 E));clear q0 q1 E s))
   all_goals go_wp2_with fail
   all_goals go_meet
   all_goals exact⟨rfl,e',H7.o.1,H7.o.2.1.mono (by omega),w6,H6.o,H7.o.2.2⟩
  obtain⟨rfl,e',ae,X,wy,l,U⟩:=hcut
  rename World=>L
  have d:=Zz ((u.o.2.2.1.below H.o.2.1 l).tick H.o.2.1 X U ae ld H.o.2.2.2.2.1);clear ae X l U d0 d2 d3 d4 d5 d6 d9 d10 s1 s2 s3 v1 v2 HC HP;go_wp2_with fail
  go_ret
  exact⟨rfl,R,rd,_,d.o.1,d.o.2⟩
 | 5,_ =>
  have HC:=Zz (fun wy (l:ZY C wy)=>Yt (u.o.2.2.1.hh.below l).1 kp 0 (by omega))
  go_upto_region 40 with fail
  go_cut [] from 312 to 318 (fun wc=>HL w wc hb D bd (some rk) (13000000+1000000 * i) e/\∃wy,ZY C wy/\Ex wy wc (some rk))
  case first =>
   go_region_held3 (fun w'=>w'.cell? ⟨ub,0,none⟩=some (.pointer (some ⟨hb,0,none⟩))/\w'.cell? ⟨J,2,none⟩=some (.int .i64 kp)) (go_keep) ((go_at_call 25;refine (HC.o C.drew ((Zk C.heap.size C).drew)).mono ?_;rintro _ w7 ⟨rfl,q1,E⟩;have s:=Zc3 (hb:=hb) ck.o rfl u.o.1 ((Zk C.heap.size C).drew) E;have fy:=(QEc (a:=⟨ub,0,none⟩) s.1).trans d0;have gb:=(Rn u.o.2.1 ((Zk C.heap.size C).drew) E).trans v2;have H7:=Zz (Zq q1 E);clear q1 E s))
   all_goals go_wp2_with fail
   all_goals go_meet
   all_goals exact⟨H7.o.1,C.drew,(Zk C.heap.size C).drew,H7.o.2⟩
  rename World=>L
  obtain⟨ko,wy,l,M⟩:=hcut;have s:=Zc3 (hb:=hb) ck.o rfl u.o.1 l M;have e0:=(QEc (a:=⟨ub,0,none⟩) s.1).trans d0;have da:=u.o.2.2.1.below H.o.2.1 l;have aw:=da.wa.rd.of_block (M.row rk rfl);have gz:=Zy da.wa.tr.lt M.size
  have HO:=Zz (fun wz (iy:ZY L wz)=>Yu (qh:=tb) (ko.below iy) (by rw[H.o.1.Cc.lr];decide) (H.o.1.AZ (by have:=H.o.2.2.2.2.1;omega)) (by have:=H.o.2.2.2.2.1;omega) (fun k hk cs fr e=>by
   obtain rfl:=Option.some.inj hk;exact RK (aw.of_block (iy.block _ aw.lt)) H.o.2.1.n1 e) (Zy gz iy.size))
  have H8:=Zz (Zq da (Zq M aw.lt));clear ko l M s da aw gz HC d0 d2 d3 d4 d5 d6 d9 d10 s1 s2 s3 v1 v2
  go_upto_region 41 with fail
  go_cut [19] from 319 to 324 (fun z wc=>z=.int .i64 0/\HH tb w wc hb D bd (some rk) (13000000+1000000 * (i+1)) e/\Ex wy wc (some rk))
  case first =>
   go_region_with (first
    | (go_at_call 13;refine (cm.o _).mono ?_;rintro _ w9 ⟨rfl,Q⟩;have x0:=QFa Q e0;have H9:=Zz (((Zk L.heap.size L).drew).trans' Q);clear Q)
    | (go_at_call 12;refine (HO.o w9 H9.o).mono ?_;rintro _ fj ⟨rfl,q1,E⟩;have br:=Zz (Zq q1 E);clear q1 E))
   all_goals go_wp2_with fail
   all_goals go_meet
   all_goals exact⟨rfl,br.o.1.mono (by omega),(H8.o.2.1.trans (Ex.Ae H9.o H8.o.2.2)).trans br.o.2⟩
  obtain⟨rfl,gp,gq⟩:=hcut;have d:=Zz (H8.o.1.stay H.o.2.1 gp gq);clear gp gq HO e0;go_wp2_with fail
  go_ret
  exact⟨rfl,R,rd,_,d.o.1,d.o.2⟩
 | k+6,h=>omega
