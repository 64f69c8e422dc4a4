import Derived.Test.YtgdcjccbdmcebaaGreatDoorM06
set_option linter.unusedSimpArgs false
set_option linter.unusedVariables false
set_option maxHeartbeats 8000000
set_option maxRecDepth 100000
namespace Go.Proofs.YtgdcjccbdmcebaaGreatDoor
open Tryz
open Go.RowKit
attribute [local go_sem ↓] Go.wp_at_zero Go.wp_at_succ
variable {ls:Nat->List Int}{wd:Nat->Nat}{D:DataW Unit}{K:Nat->Prop}{Bz:Nat->Value}{q:List Tm}{dm:Value}{i:Nat}{w:World}{a:Option Addr}
theorem IE (x s:Nat)(b:x<18446744073709551616)(g:s<64):∃y:Nat,bits .andNot .u64 (x:Int) (IntKind.u64.wrap (2 ^ s))=(y:Int)/\y<18446744073709551616/\∀j,j<64->y.testBit j=(x.testBit j&& !decide (s=j)):=by
 have h:2 ^ s<18446744073709551616:=by
  have:2 ^ s<2 ^ 64:=Nat.pow_lt_pow_right (by decide) g;omega
 have e:IntKind.u64.wrap ((2:Int) ^ s)=((2 ^ s:Nat):Int):=by
  have:(2:Int) ^ s=((2 ^ s:Nat):Int):=by norm_cast
  rw[this,IntKind.wrap_u64]
  generalize 2 ^ s=y at *
  omega
 rw[e];have c:(BitVec.ofInt 64 (x:Int))=BitVec.ofNat 64 x:=BitVec.ofInt_natCast ..;have d:(BitVec.ofInt 64 ((2 ^ s:Nat):Int))=BitVec.ofNat 64 (2 ^ s):=BitVec.ofInt_natCast ..;refine⟨(BitVec.ofNat 64 x &&& ~~~ BitVec.ofNat 64 (2 ^ s)).toNat,?_,by have:=(BitVec.ofNat 64 x &&& ~~~ BitVec.ofNat 64 (2 ^ s)).isLt;omega,fun j f=> ?_⟩
 ·show IntKind.u64.wrap ((BitVec.ofInt 64 (x:Int) &&& ~~~ BitVec.ofInt 64 ((2 ^ s:Nat):Int)).toNat:Int)=_
  rw[c,d,IntKind.wrap_u64];have:=(BitVec.ofNat 64 x &&& ~~~ BitVec.ofNat 64 (2 ^ s)).isLt;omega
 ·rw[BitVec.testBit_toNat,BitVec.getLsbD_and,BitVec.getLsbD_not,BitVec.getLsbD_ofNat,BitVec.getLsbD_ofNat,Nat.testBit_two_pow]
  simp[f]
def Ul (y x s n:Nat):Prop:=y<18446744073709551616/\∀j,j<64->(y.testBit j=true↔x.testBit j=true/\¬(s=j/\n=1))
theorem Bu.mapped {w':World}{P B:Nat}{now:Nat}(h:Bu w P B K now dm Bz ls wd){c m:Nat}(hm:Zbd D w c m)(f:B<=c)(hg:w.grownBy w' (some c)):Bu w' P B K now dm Bz ls wd/\PF w w' P B K:=by
 obtain⟨es,clock,d,_⟩:=hm;have l:=h.pb;refine⟨h.keepK hg.size (hg.block P (Zy h.pb h.bs) (by simp;omega)) (fun k _ he=> ?_),PF.EY hg (by simp;omega) (fun z b=> ?_) (fun z b j=> ?_)⟩
 ·obtain⟨cs,fr,e⟩:=he
  refine hg.block k (Array.getElem?_eq_some_iff.1 e).1 (fun g=> ?_);simp only[Option.some.injEq] at g;subst g;rw[d] at e
  cases e
 ·simp only[Option.some.injEq] at b
  subst b;exact⟨f,fun cs t fr e=>by rw[d] at e;cases e⟩
 ·simp only[Option.some.injEq] at b
  subst b;obtain⟨_,cs,fr,e⟩:=h.kb _ j;rw[d] at e;cases e
theorem Bu.less {w7:World}{P B:Nat}{now:Nat}(h:Bu w P B K now dm Bz ls wd){k n c L s:Nat}(b:k<704)(o:k=L * 64+s)(f:Bz k= .slice a n c)(hn:n=(ls k).length)(hi:i<n){l p:Nat}(hm:Zbd D w l p)(r:B<=l)
  (hown:w7.ownsRow B 288 3 (.slice a (n - 1) c) (n - 1) (Cg ((ls k).take i++(ls k).drop (i+1)))) (hg:w.grownBy w7 (Value.slice a n c).ownBlock) :
  Bu (w7.setCell ⟨P,13+L * 64+s,none⟩ (.slice a (n - 1) c)) P B K now dm (BJ Bz k (.slice a (n - 1) c)) (BJ ls k ((ls k).take i++(ls k).drop (i+1))) wd/\Zbd D (w7.setCell ⟨P,13+L * 64+s,none⟩ (.slice a (n - 1) c)) l p/\PF w (w7.setCell ⟨P,13+L * 64+s,none⟩ (.slice a (n - 1) c)) P B K:=by
 have d:=h.own k b;rw[f] at d;refine⟨?_,?_,?_⟩
 ·have:=h.slot (w7:=w7) (k:=k) b (v':= .slice a (n - 1) c) (xs:=(ls k).take i++(ls k).drop (i+1)) (n':=n - 1) (by rw[ZX,List.length_take,List.length_drop];omega) hg.size (fun j t m=>hg.block j t (by rw[<-f];exact m)) hown (fun z g=>by
   left;rw[f]
   cases a with
   | none=>simp[Value.ownBlock] at g
   | some a=>exact g)
  rwa[o,<-Nat.add_assoc,<-o] at this
 ·exact World.ownsMap.setCell (World.ownsMap.kept hm hg (VR hm d)) (by simp;have:=h.pb;omega) _
 ·exact (PF.EY hg (fun e=>by have:=(d.lt P e.symm).1;have:=h.pb;omega) (RQ d) (fun z g=>h.sp k b z (by rw[f];exact g))).trans (PF.Bt _ _ _ _ _ _ (by omega))
theorem Od (w:World)(P B:Nat)(K:Nat->Prop)(now tn:Nat)(Bz:Nat->Value)(ls:Nat->List Int)(wd:Nat->Nat)(C i:Nat)(D:DataW Unit)(id r nd q:Int)(h:Bu w P B K now (.map (some C)) Bz ls wd)(hd:Zbd D w C (Maps.size D))(ar:B<=C)(M:BM r nd q id)(bh:D.atKey (Ch id) u0= .lit (.int .u64 tn))(bw:now<=4611686018427387904)(cu:tn<=4611686018427387904)(hw:∀j,j<11->wd j<18446744073709551616)(hlen:(ls (pl now tn)).length<1048576)(hi:i<(ls (pl now tn)).length)(he:(ls (pl now tn)).getD i 0=id)(aw:∀j,j<i->(ls (pl now tn)).getD j 0≠id) :
  Calls prog 234 #[.pointer (some ⟨P,11,none⟩), .agg #[.int .u64 r, .int .i64 nd, .int .i64 q]] w fun e w'=>e= .returned (.tuple #[])/\∃v' x',Bu w' P B K now (.map (some C)) (BJ Bz (pl now tn) v') (BJ ls (pl now tn) ((ls (pl now tn)).take i++(ls (pl now tn)).drop (i+1))) (BJ wd (CD now tn) x')/\Ul x' (wd (CD now tn)) (slt (CD now tn) tn) (ls (pl now tn)).length/\Zbd (D.del (Ch id)) w' C (Maps.size (D.del (Ch id)))/\PF w w' P B K:=by
 have av:Gj id= .agg #[.int .u64 r, .int .i64 nd, .int .i64 q]:=by unfold Gj;rw[Zc3 M]
 obtain⟨u,v⟩:∃u,u=w.alloc (.cells #[.int .u64 r, .int .i64 nd, .int .i64 q] 288):=⟨_,rfl⟩;obtain⟨g,J⟩:∃g,g=w.heap.size:=⟨_,rfl⟩;obtain⟨⟨x0,x1⟩,x2⟩:=boxed w r nd q g J;have ag:Below w.heap.size w u:=by rw[v];exact (Zk _ _).alloc (Zx _) _
 have T:g<u.heap.size:=by rw[v,J];show w.heap.size<(w.heap.push _).size;rw[Array.size_push];omega
 have au:Zbd D u C (Maps.size D):=by rw[v];exact World.ownsMap.alloc hd _
 rw[<-v] at x0 x1 x2;have cm:Hid (∀k,k<704->some g≠(Bz k).ownBlock):=Zz fun k U e=>by have:=((h.own k U).lt g e.symm).2;omega
 have A:Hid (g≠P/\g≠C):=Zz ⟨by have:=h.pb;have:=h.bs;omega,by have:=hd.lt;omega⟩
 have z:∀m,(Instr.lookup 155 (.map (some C)) (.agg #[.int .u64 r, .int .i64 nd, .int .i64 q]) false).run prog (u.drewN m)= .ok (.int .u64 tn) (u.drewN m):=fun m=>by
  obtain⟨c,z,bj,_⟩:=World.ownsMap.lookup_int (q:= .u64) (w:=u.drewN m) au Ih underlying155 underlying27 (Sj _) (Zdc M.ok)
  obtain rfl:c=(tn:Int):=by
   have:=bj.symm.trans bh;simpa using this
  rw[av] at z;exact z
 have H:=Zz (h.Aj ag);have F:=Zz ag;have cq:=Zz (Zc3 M);have b9:=Zz (av▸Zdc M.ok);have c0:=H.o.c0;have c1:=H.o.c1;clear h hd ag M bh av
 go_enter func234,ntmps234
 go_upto_region 1 with fail
 rw[<-J,<-v];have dc:=Zz (Zq J v);clear J v
 go_quiet ((go_at_call 274;refine Calls.quiet_of (LZ _ P now tn (by rw[World.cell?_drewN];exact c0) (by omega) (by omega))))
 go_upto_region 2 with fail
 obtain⟨L,hL⟩:∃L,L=CD now tn:=⟨_,rfl⟩;obtain⟨s,hs⟩:∃s,s=slt L tn:=⟨_,rfl⟩;obtain⟨k,U⟩:∃k,k=L * 64+s:=⟨_,rfl⟩;have ax:pl now tn=k:=by unfold pl;rw[U,hs,hL]
 have x:L<11:=by have:=Fq now tn bw cu;omega
 have ck:s<64:=by rw[hs];exact Zea _ _
 have l:k<704:=by omega
 rw[ax] at hlen hi he aw;rw[<-hL,<-hs];have HQ:=Zz (Zq hL (Zq hs (Zq U ax)));have bo:Below u.heap.size u (u.drewN nq):=⟨rfl,rfl,rfl,Zx _,fun _ _=>rfl⟩;have br:Below w.heap.size w (u.drewN nq):=⟨F.o.os,F.o.tape,F.o.output,F.o.size,fun k U=>F.o.block k U⟩;have p:=Zz (H.o.Aj bo);have Z:Hid (Zbd D (u.drewN nq) C (Maps.size D)):=Zz au;have X:=Zz (PF.Ae (P:=P) (B:=B) (K:=K) br);have z0:(u.drewN nq).cell? ⟨g,0,none⟩=some (.int .u64 r):=x0;have V:(u.drewN nq).cell? ⟨g,1,none⟩=some (.int .i64 nd):=x1;have z2:(u.drewN nq).cell? ⟨g,2,none⟩=some (.int .i64 q):=x2;have zs:g<(u.drewN nq).heap.size:=T;have HW:=Zz hw;clear hL hs ax z c0 c1 au bo br hw x0 x1 x2 T
 generalize u.drewN nq=w1 at *
 obtain⟨a,c,hv⟩:=Zaz (p.o.own k l);obtain⟨n,hn⟩:∃n,n=(ls k).length:=⟨_,rfl⟩;rw[<-hn] at hv hlen hi;have S:=Zz (Zq hv hn);have m1:=p.o.at_ (L:=L) (s:=s) U.symm l;rw[hv] at m1;have O:=p.o.own k l;rw[hv,<-hn] at O;have HO:=Zz O;have HN:=Zz (Zq he aw);have dd:=p.o.pb;have cr:=p.o.bs;clear hv hn O U he aw;have g1:(L:Int)<11:=by omega
 have g2:(s:Int)<64:=by omega
 have g3:IntKind.i64.wrap ((i:Int)+1)=((i+1:Nat):Int):=by rw[IntKind.wrap_i64];omega
 have N:=YI w1 B a n c (ls k) i id HO.o S.o.2.symm hi HN.o.1 HN.o.2;rw[cq.o] at N;have az:=Zz N;clear N
 go_upto_region 4 with (go_at_call 275;refine az.o.mono ?_;rintro e w2 ⟨rfl,E⟩;have W:=Zz E;clear E)
 have t:Below w1.heap.size w1 w2:=by obtain⟨q2,E⟩:=W.o;rw[E];exact⟨rfl,rfl,rfl,by simp,fun j hj=>Zao w1 _ j hj⟩
 have p:=Zz (p.o.Aj t);have Z:Hid (Zbd D w2 C (Maps.size D)):=by obtain⟨q2,E⟩:=W.o;rw[E];exact World.ownsMap.alloc Z.o _
 have X:=Zz (X.o.trans (PF.Ae (P:=P) (B:=B) (K:=K) t));have HO:=Zz (Zam HO.o t);have m1:=cell_later t m1;have z0:=cell_later t z0;have V:=cell_later t V;have z2:=cell_later t z2;have zs:=Zy zs t.size;have cr:=p.o.bs;clear az t W
 go_upto_region 5 with (go_at_call 276;refine (Yp w2 B a n c (ls k) i HO.o S.o.2.symm hi).mono ?_;rintro e w7 ⟨rfl,Q,f,ct⟩)
 have aj:w7.heap[P]? =w2.heap[P]? :=f.block P (by omega) (fun e=>by have:=(HO.o.lt P e.symm).1;omega);have s1:=(World.cell?_of_block (a:=⟨P,13+L * 64+s,none⟩) aj).trans m1;have sz:=(World.frozen?_of_block (a:=⟨P,13+L * 64+s,none⟩) aj).trans (p.o.fz (13+L * 64+s));obtain⟨k1,k2,k3⟩:=p.o.less l HQ.o.2.2.1 S.o.1 S.o.2 hi Z.o ar Q f;have HK:=Zz (Zq k1 (Zq k2 k3));have al:some g≠(Value.slice a n c).ownBlock:=by have:=cm.o k l;rwa[S.o.1] at this
 have z0:=(f.cell_far ⟨g,0,none⟩ zs al).trans z0;have V:=(f.cell_far ⟨g,1,none⟩ zs al).trans V;have z2:=(f.cell_far ⟨g,2,none⟩ zs al).trans z2;clear aj m1 k1 k2 k3 Q f ct g3
 go_upto_region 6 with fail
 have I:=Zz HK.o.1;have bf:=Zz HK.o.2.1;have ay:=Zz (X.o.trans HK.o.2.2);have z0:=(World.cell?_setCell_other w7 ⟨P,13+L * 64+s,none⟩ ⟨g,0,none⟩ (.slice a (n - 1) c) (fun e=>A.o.1 (Addr.mk.inj e).1.symm)).trans z0;have V:=(World.cell?_setCell_other w7 ⟨P,13+L * 64+s,none⟩ ⟨g,1,none⟩ (.slice a (n - 1) c) (fun e=>A.o.1 (Addr.mk.inj e).1.symm)).trans V;have z2:=(World.cell?_setCell_other w7 ⟨P,13+L * 64+s,none⟩ ⟨g,2,none⟩ (.slice a (n - 1) c) (fun e=>A.o.1 (Addr.mk.inj e).1.symm)).trans z2;clear HK s1 sz
 generalize w7.setCell ⟨P,13+L * 64+s,none⟩ (.slice a (n - 1) c)=w8 at *
 have x1:=I.o.cw L x;have x2:=I.o.fz (717+L);have d1:=I.o.c1;by_cases h1:n=1
 ·subst h1
  go_upto_region 7 with fail
  go_region
  all_goals
   obtain⟨y,bp,hy,da⟩:=IE (wd L) s (HW.o L x) ck;rw[bp];have R:=Zz ((I.o.No L y x).Aj (((Zk _ _).drew)));have G:Hid (Zbd D ((w8.setCell ⟨P,717+L,none⟩ (.int .u64 (y:Int))).drew) C (Maps.size D)):=Zz (World.ownsMap.setCell bf.o (by simp;omega) _);have Y:=Zz ((ay.o.trans (PF.Bt w8 P B K (717+L) (.int .u64 (y:Int)) (by omega))).trans (PF.Ae ((Zk _ _).drew)));have z0:(w8.setCell ⟨P,717+L,none⟩ (.int .u64 (y:Int))).drew.cell? ⟨g,0,none⟩=_:=(World.cell?_setCell_other w8 ⟨P,717+L,none⟩ ⟨g,0,none⟩ (.int .u64 (y:Int)) (fun e=>A.o.1 (Addr.mk.inj e).1.symm)).trans z0;have V:(w8.setCell ⟨P,717+L,none⟩ (.int .u64 (y:Int))).drew.cell? ⟨g,1,none⟩=_:=(World.cell?_setCell_other w8 ⟨P,717+L,none⟩ ⟨g,1,none⟩ (.int .u64 (y:Int)) (fun e=>A.o.1 (Addr.mk.inj e).1.symm)).trans V;have z2:(w8.setCell ⟨P,717+L,none⟩ (.int .u64 (y:Int))).drew.cell? ⟨g,2,none⟩=_:=(World.cell?_setCell_other w8 ⟨P,717+L,none⟩ ⟨g,2,none⟩ (.int .u64 (y:Int)) (fun e=>A.o.1 (Addr.mk.inj e).1.symm)).trans z2;clear x1 x2 d1
   generalize (w8.setCell ⟨P,717+L,none⟩ (.int .u64 (y:Int))).drew=w9 at *
   have d1:=R.o.c1;obtain⟨db,cy,d,b⟩:=World.ownsMap.drop (w:=w9.drew) G.o Ih underlying155 b9.o 0;have ae:=Zz (Zq d b);clear d b;go_wp2_with fail
   go_region
   obtain⟨d,b⟩:=ae.o;obtain⟨j1,j2⟩:=(R.o.Aj ((Zk _ _).drew)).mapped (G.o:Zbd D _ C (Maps.size D)) ar b.grown;have hQ:=HQ.o;have hV:=S.o;clear HQ S;obtain⟨q1,q2,q3,q4⟩:=hQ
   go_end0
   refine⟨rfl, .slice a (1 - 1) c,y,?_,?_,Zcq d,Y.o.trans ((PF.Ae ((Zk _ _).drew)).trans j2)⟩
   ·rw[q4,<-q1]
    exact j1
   ·rw[q4,<-q1,<-q2,<-hV.2]
    exact⟨hy,fun j hj=>by rw[da j hj];simp⟩
 ·have e1:(((n - 1:Nat):Int) == 0)=false:=by simp;omega
  have G:=bf;have R:=I;have Y:=ay;obtain⟨db,cy,d,b⟩:=World.ownsMap.drop (w:=w8.drew) G.o Ih underlying155 b9.o 0;have ae:=Zz (Zq d b);clear d b;go_wp2_with fail
  go_region
  obtain⟨d,b⟩:=ae.o
  all_goals
   obtain⟨j1,j2⟩:=(R.o.Aj ((Zk _ _).drew)).mapped (G.o:Zbd D _ C (Maps.size D)) ar b.grown;have hQ:=HQ.o;have hV:=S.o;clear HQ S;obtain⟨q1,q2,q3,q4⟩:=hQ
   go_end0
   refine⟨rfl, .slice a (n - 1) c,wd L,?_,?_,Zcq d,Y.o.trans ((PF.Ae ((Zk _ _).drew)).trans j2)⟩
   ·rw[q4,<-q1]
    have hu:BJ wd L (wd L)=wd:=by funext j;unfold BJ;split<;>simp_all
    rw[hu];exact j1
   ·rw[q4,<-q1,<-q2,<-hV.2]
    exact⟨HW.o L x,fun j hj=>⟨fun e=>⟨e,fun e2=>h1 e2.2⟩,fun e=>e.1⟩⟩
def Words (wd:Nat->Nat)(ls:Nat->List Int):Prop:=∀L,L<11->wd L<18446744073709551616/\∀s,s<64->((wd L).testBit s=true↔ls (L * 64+s)≠[])
theorem Words.set (h:Words wd ls){L s y:Nat}{xs:List Int}(m:s<64)(k:y<18446744073709551616)(f:∀j,j<64->j≠s->(y.testBit j=true↔(wd L).testBit j=true))(g:y.testBit s=true↔xs≠[])(l:L<11):Words (BJ wd L y) (BJ ls (L * 64+s) xs):=by
 intro M c;by_cases e:M=L
 ·subst e
  rw[Zbf];refine⟨k,fun j b=> ?_⟩;by_cases d:j=s
  ·subst d;rw[Zbf];exact g
  ·rw[Za3 _ _ _ (by omega),f j b d];exact (h M c).2 j b
 ·rw[Za3 _ _ _ e]
  refine⟨(h M c).1,fun j b=> ?_⟩;rw[Za3 _ _ _ (by omega)];exact (h M c).2 j b
theorem Words.put (h:Words wd ls){L s:Nat}(b:L<11)(c:s<64)(id:Int):Words (BJ wd L (wd L ||| 2 ^ s)) (BJ ls (L * 64+s) (ls (L * 64+s)++[id])):=by
 refine h.set c ?_ (fun j _ e=> ?_) ?_ b
 ·have d:2 ^ s<2 ^ 64:=Nat.pow_lt_pow_right (by decide) c
  have:=Nat.or_lt_two_pow (x:=wd L) (y:=2 ^ s) (n:=64) (by have:=(h L b).1;omega) d;omega
 ·rw[Nat.testBit_or,Nat.testBit_two_pow];simp;omega
 ·rw[Nat.testBit_or,Nat.testBit_two_pow];simp
theorem Words.drop (h:Words wd ls){L s y:Nat}(k:L<11)(f:s<64)(hi:i<(ls (L * 64+s)).length)(g:Ul y (wd L) s (ls (L * 64+s)).length):Words (BJ wd L y) (BJ ls (L * 64+s) ((ls (L * 64+s)).take i++(ls (L * 64+s)).drop (i+1))):=by
 refine h.set f g.1 (fun j l d=> ?_) ?_ k
 ·rw[g.2 j l];exact⟨fun e=>e.1,fun e=>⟨e,fun b=>d b.1.symm⟩⟩
 ·rw[g.2 s f,(h L k).2 s f]
  have hlen:((ls (L * 64+s)).take i++(ls (L * 64+s)).drop (i+1)).length+1=(ls (L * 64+s)).length:=by rw[ZX,List.length_take,List.length_drop];omega
  constructor
  ·rintro⟨_,b⟩ c
   rw[c] at hlen;exact b ⟨rfl,by simpa using hlen.symm⟩
  ·intro c
   refine⟨fun e=>by rw[e] at hi;simp at hi,fun e=>c ?_⟩;exact List.eq_nil_of_length_eq_zero (by omega)
theorem OY {n:Nat}(hi:i<q.length)(j:Nat):Zag n (q.take (i+1)) j=if pl n (q.getD i .z).tm.toNat=j then Zag n (q.take i) j++[(q.getD i .z).id] else Zag n (q.take i) j:=by
 have:q.take (i+1)=q.take i++[q.getD i .z]:=by
  rw[List.take_add_one,ZQ,ZZ hi];rfl
 rw[this,IZ]
def XU (w:World)(P B:Nat)(K:Nat->Prop)(now bm:Nat)(D:DataW Unit)(ls:Nat->List Int)(k:Nat)(q:List Tm)(v0:Value)(n i:Nat)(wr:World):Prop :=
 ∃(rw':Nat->Value) (ls':Nat->List Int) (wd':Nat->Nat),Bu wr P B K now (.map (some bm)) rw' ls' wd'/\Zbd D wr bm (Maps.size D)/\PF w wr P B K/\Words wd' ls'/\(∀j,ls' j=(if j=k then [] else ls j)++Zag now (q.take i) j)/\wr.ownsRow B 288 3 v0 n (Cg (ls k))/\(∀j,j<704->∀z,v0.ownBlock=some z->(rw' j).ownBlock≠some z)
theorem XU.next {wr w':World}{P B:Nat}{now h k n tn:Nat}{v0 v':Value}{c:Nat->Value}{b:Nat->List Int}{d:Nat->Nat}{o:Nat}
  (hp:Bu wr P B K now (.map (some h)) c b d) (hf:PF w wr P B K) (hw:Words d b) (hls:∀j,b j=(if j=k then [] else ls j)++Zag now (q.take i) j) (ho:wr.ownsRow B 288 3 v0 n (Cg (ls k))) (ha:∀j,j<704->∀z,v0.ownBlock=some z->(c j).ownBlock≠some z)
  (hi:i<q.length) (htn:(q.getD i .z).tm.toNat=tn) (hnow:now<=4611686018427387904) (htn2:tn<=4611686018427387904)
  (hp':Bu w' P B K now (.map (some h)) (BJ c (pl now tn) v') (BJ b (pl now tn) (b (pl now tn)++[(q.getD i .z).id])) (BJ d (CD now tn) o)) (hx:o=d (CD now tn) ||| 2 ^ slt (CD now tn) tn) (hm':Zbd D w' h (Maps.size D)) (hf':PF wr w' P B K) (hn':Near wr w' P (c (pl now tn)) v'):XU w P B K now h D ls k q v0 n (i+1) w':=by
 subst htn;have f:=Wy now (q.getD i .z).tm.toNat hnow htn2;refine⟨_,_,_,hp',hm',hf.trans hf',?_,fun j=> ?_,?_,fun j r z l=> ?_⟩
 ·rw[hx]
  exact hw.put (by have:=Fq now (q.getD i .z).tm.toNat hnow htn2;omega) (Zea _ _) _
 ·rw[OY hi]
  by_cases e:pl now (q.getD i .z).tm.toNat=j
  ·subst e
   rw[Zbf,if_pos rfl,hls,List.append_assoc]
  ·rw[Za3 _ _ _ (Ne.symm e),if_neg e,hls]
 ·refine Ha ho (fun z l he g=>hn'.block z ?_ (by have:=hp.pb;omega) (fun e=>ha _ f z g e.symm))
  exact (ho.lt z g).2
 ·by_cases e:j=pl now (q.getD i .z).tm.toNat
  ·subst e
   rw[Zbf];intro p;rcases hn'.at_ z p with m | m
   ·exact ha _ f z l m
   ·have:=(ho.lt z l).2;omega
  ·rw[Za3 _ _ _ e];exact ha j r z l
theorem QY (w:World)(P B:Nat)(K:Nat->Prop)(now L s n:Nat)(Bz:Nat->Value)(ls:Nat->List Int)(wd:Nat->Nat)(p:Nat)(D:DataW Unit)(q:List Tm)(h:Bu w P B K now (.map (some p)) Bz ls wd)(hd:Zbd D w p (Maps.size D))(ay:B<=p)(hL:L<11)(hs:s<64)(hW:Words wd ls)(hq:ls (L * 64+s)=q.map (·.id))(hn:n=q.length)
  (d:∀i,i<n->FF (q.getD i .z).id) (hat:∀i,i<n->D.atKey (Ch (q.getD i .z).id) u0= .lit (.int .u64 (q.getD i .z).tm)) (ht:∀i,i<n->0<=(q.getD i .z).tm/\(q.getD i .z).tm<=4611686018427387904) (hnow:now<=4611686018427387904) (hlen:∀j,(ls j).length+n<1048576) :
  Calls prog 233 #[.pointer (some ⟨P,11,none⟩), .int .i64 L, .int .i64 s] w fun e w'=>e= .returned (.tuple #[])/\∃v f m,Bu w' P B K now (.map (some p)) v f m/\Zbd D w' p (Maps.size D)/\PF w w' P B K/\Words m f/\∀j,f j=(if j=L * 64+s then [] else ls j)++Zag now q j:=by
 obtain⟨k,hk⟩:∃k,k=L * 64+s:=⟨_,rfl⟩;have b:k<704:=by omega
 rw[<-hk] at hq;obtain⟨a,c,hv⟩:=Zaz (h.own k b);have E:(ls k).length=n:=by rw[hq,hn];simp
 rw[E] at hv;have m1:=h.at_ (L:=L) (s:=s) hk.symm b;rw[hv] at m1;have m2:=h.fz (13+L * 64+s);have u:=h.own k b;rw[hv,E] at u;have HO:=Zz u;have HP:=Zz h;have HM:Hid (Zbd D w p (Maps.size D)):=Zz hd;have HW:=Zz hW;have H:=Zz (Zq hk (Zq hq (Zq hn E)));have HV:=Zz hv;have HI:=Zz (Zq d (Zq hat ht));have HL:=Zz hlen;have g1:(L:Int)<11:=by omega
 have g2:(s:Int)<64:=by omega
 have av:=h.pb;have az:=h.bs;have Z:=Zz (h.slot (w7:=w) (k:=k) b (v':= .slice none 0 0) (xs:=[]) (n':=0) rfl (Zx _) (fun _ _ _=>rfl) (World.ownsRow_nil _ _ _ _) (fun z hz=>by simp[Value.ownBlock] at hz));clear h hd hW hq hn E hv u d hat ht hlen
 go_enter func233,ntmps233
 go_upto_region 2 with fail
 have e0:13+k=13+L * 64+s:=by rw[H.o.1,Nat.add_assoc]
 have HS:=Z.o;rw[e0] at HS;have A:=Zz HS;have T:Hid (Zbd D (w.setCell ⟨P,13+L * 64+s,none⟩ (.slice none 0 0)) p (Maps.size D)):=Zz (World.ownsMap.setCell HM.o (by simp;omega) _);have R:=Zz (PF.Bt w P B K (13+L * 64+s) (.slice none 0 0) (by omega));have V:=Zz (ownsRow_setCell_below HO.o (a:=⟨P,13+L * 64+s,none⟩) av (.slice none 0 0));clear HS Z e0 m1 m2
 generalize w.setCell ⟨P,13+L * 64+s,none⟩ (.slice none 0 0)=w1 at *
 have x1:=A.o.cw L hL;have x2:=A.o.fz (717+L)
 go_region
 all_goals
  obtain⟨y,F,hy,M⟩:=IE (wd L) s ((HW.o L hL).1) hs;rw[F];have X:=Zz ((A.o.No L y hL).Aj (((Zk _ _).drew)));have U:Hid (Zbd D ((w1.setCell ⟨P,717+L,none⟩ (.int .u64 (y:Int))).drew) p (Maps.size D)):=Zz (World.ownsMap.setCell T.o (by simp;omega) _);have S:=Zz ((R.o.trans (PF.Bt w1 P B K (717+L) (.int .u64 (y:Int)) (by omega))).trans (PF.Ae ((Zk _ _).drew)));have W:=Zz (Zam (ownsRow_setCell_below V.o (a:=⟨P,717+L,none⟩) av (.int .u64 (y:Int))) ((Zk _ _).drew))
  have ae:Hid (Words (BJ wd L y) (BJ ls k [])):=Zz (by
   rw[H.o.1];refine HW.o.set hs hy (fun j hj bf=> ?_) ?_ hL
   ·rw[M j hj];simp;omega
   ·rw[M s hs];simp)
  have O:Hid (∀j,j<704->∀z,(Value.slice a n c).ownBlock=some z->(BJ Bz k (Value.slice none 0 0) j).ownBlock≠some z):=Zz (fun j hj z hz=>by
   by_cases e:j=k
   ·subst e;rw[Zbf];simp[Value.ownBlock]
   ·rw[Za3 _ _ _ e];exact HP.o.apart k j b hj (Ne.symm e) z (by rw[HV.o];exact hz))
  clear x1 x2 F M hy
  generalize (w1.setCell ⟨P,717+L,none⟩ (.int .u64 (y:Int))).drew=w2 at *
  go_wp2_with fail
  go_loopw [38] (fun iv wr=>∃(i:Nat),iv= .int .i64 i/\i<=n/\XU w P B K now p D ls k q (.slice a n c) n i wr) (fun iv _=>n - (intOf iv).toNat)
  case atStart=>exact⟨0,rfl,by omega,_,_,_,X.o,U.o,S.o,ae.o,fun j=>(by simp[Zag,BJ]),W.o,O.o⟩
  case round =>
   obtain⟨i,rfl,hi,hrel⟩:=hrel;have HR:=Zz hrel;clear hrel A T R V X U S W ae O;by_cases h1:i<n
   ·obtain⟨v,f,m,hp,hm,hf,hw,t,J,ha⟩:=HR.o
    have aj:i<q.length:=by have:=H.o.2.2.1;omega
    obtain⟨id,d⟩:∃x,x=(q.getD i .z).id:=⟨_,rfl⟩;obtain⟨tn,ax⟩:∃x,(q.getD i .z).tm.toNat=x:=⟨_,rfl⟩;have aw:=HI.o.2.2 i h1;obtain⟨r,nd,qk,C⟩:∃r nd qk,BM r nd qk id:=⟨_,_,_,BM.of (by rw[d];exact HI.o.1 i h1)⟩
    have I:∃g,a=some ⟨g,0,none⟩/\(wr.cell? ⟨g,i * 3,none⟩=some (.int .u64 r)/\wr.cell? ⟨g,i * 3+1,none⟩=some (.int .i64 nd))/\wr.cell? ⟨g,i * 3+2,none⟩=some (.int .i64 qk):=by
     rcases J.2 with⟨_,h2⟩ | ⟨g,cap,cur,h2,_⟩
     ·omega
     ·obtain⟨e1,_,e2⟩:a=some ⟨g,0,none⟩/\n=n/\c=cap:=by simpa using h2
      subst e1;have e3:(ls k).getD i 0=id:=by rw[H.o.2.1,d];simp[aj]
      have e4:i<(ls k).length:=by rw[H.o.2.2.2];exact h1
      refine⟨g,rfl,⟨?_,?_⟩,?_⟩
      ·rw[<-Nat.add_zero (i * 3),J.cellAt (i * 3+0) (by omega),Ef _ e4 (by omega),e3,Zc3 C];rfl
      ·rw[J.cellAt (i * 3+1) (by omega),Ef _ e4 (by omega),e3,Zc3 C];rfl
      ·rw[J.cellAt (i * 3+2) (by omega),Ef _ e4 (by omega),e3,Zc3 C];rfl
    obtain⟨g,rfl,⟨x0,x1⟩,x2⟩:=I
    have G:∀w5,Below wr.heap.size wr w5->_:=fun w5 l=>Ni w5 P B K now tn v f m p D id r nd qk (hp.Aj l) (by
     obtain⟨es,clock,m1,m2⟩:=hm;exact⟨es,clock,(l.block p (Array.getElem?_eq_some_iff.1 m1).1).trans m1,m2⟩) ay C (by rw[d,HI.o.2.1 i h1];congr 2;omega) hnow (by omega) (fun j hj=>(hw j hj).1) (by
     have a1:=HL.o (pl now tn);have a2:=Zc1 now (q.take i) (pl now tn);rw[List.length_take] at a2;rw[t,ZX]
     split
     ·simp;omega
     ·omega)
    have Y:=Zz G;have HX:=Zz (Zq d (Zq ax aw));have b9:n<=1048576:=by have:=HL.o 0;omega
    have HG:Hid (g<wr.heap.size):=Zz (J.lt g rfl).2;clear G d ax aw;have Q:=Zz (Zq hp (Zq hf (Zq hw (Zq t (Zq J ha)))));clear hp hm hf hw t J ha;go_wp2_with (go_at_call 259;refine (Y.o _ ((Zk _ _).alloc (Zx _) _)).mono ?_;rintro e w' ⟨rfl,v',x',au,hx,al,ag,ar⟩;have HN:=Zz (Zq au (Zq hx (Zq al (Zq ag ar))));clear au hx al ag ar)
    go_roundw
    case rel =>
     refine⟨i+1,by go_num,by omega,?_⟩;have N:=Q.o;have hN:=HN.o;have hX:=HX.o;have l:Below wr.heap.size wr (wr.alloc (.cells #[.int .u64 r, .int .i64 nd, .int .i64 qk] 288)):=(Zk _ _).alloc (Zx _) _;refine XU.next (N.1.Aj l) (N.2.1.trans (PF.Ae l)) N.2.2.1 N.2.2.2.1 (Zam N.2.2.2.2.1 l) N.2.2.2.2.2 aj hX.2.1 hnow (by have:=hX.2.2;have:=hX.2.1;omega) ?_ hN.2.1 hN.2.2.1 hN.2.2.2.1 hN.2.2.2.2;rw[<-hX.1];exact hN.1
    case measure=>simp[intOf];omega
   ·obtain rfl:i=n:=by omega
    go_wp2_with fail
    go_end0
    obtain⟨v,f,m,hp,hm,hf,hw,t,_,_⟩:=HR.o;refine⟨rfl,v,f,m,hp,hm,hf,hw,fun j=> ?_⟩;have e:q.take i=q:=List.take_of_length_le (by have:=H.o.2.2.1;omega);rw[t j,e,H.o.1]
end Go.Proofs.YtgdcjccbdmcebaaGreatDoor
