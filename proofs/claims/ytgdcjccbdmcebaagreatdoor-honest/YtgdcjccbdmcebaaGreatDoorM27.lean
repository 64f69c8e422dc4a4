import Derived.Test.YtgdcjccbdmcebaaGreatDoorM25
import Derived.Test.YtgdcjccbdmcebaaGreatDoorM26
set_option linter.all false
set_option maxHeartbeats 8000000
set_option maxRecDepth 100000
open Go.Proofs.Tryz
open Go.Obj renaming cells.injEq->QIq
open Go.World renaming cell?_of_block->QEc,cell?->QEk
open Option renaming some.injEq->QCf
namespace Go.Proofs.YtgdcjccbdmcebaaGreatDoor
open Go.RowKit
attribute [local go_sem ↓] Go.wp_at_zero Go.wp_at_succ
variable {ob:Option Nat}{qh D hb bd bn N P B R fb:Nat}{w w' w1 w2:World}{g:AQ}{e:Ab}{pv:Value}{l:List Int}{cs:Array Value}{fr:Nat×Nat}{fa fo fk fp:Int}{pa:Option Addr}
def Uk (B0:Nat)(w':World)(g:AQ)(d:Ax)(e:Ab)(l:List Int)(x:Value)(g':AQ)(d':Ax)(e':Ab):Prop :=
 (∃(x0 y:Int) (q:Nat),x0≠0/\Co l.length (fun k=>(l.getD k 0).toNat) x0 y Gm/\x=.tuple #[.int .u64 0,.iface 172 (.pointer (some ⟨q,0,none⟩))]/\Bb w' q x0 y/\q<w'.heap.size/\B0<=q/\g'=g/\d'=d/\e'=e) \/
 (∃(y er:Int),Co l.length (fun k=>(l.getD k 0).toNat) 0 y (Zaj l.length (fun k=>(l.getD k 0).toNat))/\Gu g d e (AU 1 l 0) 5 (e.AM (Zaj l.length (fun k=>(l.getD k 0).toNat))) er g' d' e'/\x=.tuple #[.int .u64 (if er=0 then e.Ah+1 else 0),AK er])
theorem Co.ok {n:Nat}{f:Nat->Nat}{y:Int}{G:Ad}(h:Co n f 0 y G):BW (Zaj n f):=by
 rcases h with⟨s,_,a,_⟩ | ⟨p,s,_,_,a,_⟩ | ⟨p,s,_,_,k,_⟩
 .exact absurd a (by decide)
 .exact absurd a (by decide)
 .rcases k with⟨a,_⟩ | ⟨a,_⟩ | ⟨a,_⟩ | ⟨a,_⟩ | ⟨_,_,d,c,i⟩
  .exact absurd a (by decide)
  .exact absurd a (by decide)
  .exact absurd a (by decide)
  .exact absurd a (by decide)
  .exact⟨d,fun j b=>(c j b).1,fun j b=>(c j b).2,i⟩
theorem NV (w:World)(P B R D bd bn M B0:Nat)(ob:Option Nat)(g:AQ)(d:Ax)(e:Ab)(l:List Int)(a:Option Addr)(c:Nat)(h:AI qh w P B R D bd bn ob g d e)(ok:Aj e)(AZ:Az e)(f:Fit g d M)(S:Al B0 w (.slice a l.length c) l)(hl:BC l)(ae:l.length<=900000) :
  Calls prog 101 #[.pointer (some ⟨P,0,none⟩),.slice a l.length c] w fun x w'=>∃v F E e' m,x=.returned v/\Uk w.heap.size w' g d e l v F E e'/\AI qh w' P B R D bd bn m F E e'/\As w ob m/\EF w w' P B R D bd bn ob:=by
 obtain⟨a1,c1,e1,_,ha,hb,_,ar⟩:=Me S hl;obtain⟨rfl,rfl⟩:a=a1/\c=c1:=by simpa using e1
 have aw:=h.ne.l.gl;have ax:=h.pl
 have O:=Zz (show Calls prog 126 #[.slice a l.length c] w fun x w'=>((∃(dl:Int) (nn:Nat) (t:Option Addr) (lc:Nat),x=.returned (.tuple #[.agg #[.int .i64 dl,.slice t nn lc],.nilIface])/\∃(y:Int) (z:Nat->Option Addr) (A:Nat->Nat),Co l.length (fun k=>(l.getD k 0).toNat) 0 y (Zaj l.length (fun k=>(l.getD k 0).toNat))/\dl=(Zaj l.length (fun k=>(l.getD k 0).toNat)).dl/\nn=(Zaj l.length (fun k=>(l.getD k 0).toNat)).n/\An w.heap.size w' (Zaj l.length (fun k=>(l.getD k 0).toNat)) (.slice t (Zaj l.length (fun k=>(l.getD k 0).toNat)).n lc) (Zaj l.length (fun k=>(l.getD k 0).toNat)).n z A)\/(∃(q:Nat),x=.returned (.tuple #[.agg #[.int .i64 0,.slice none 0 0],.iface 172 (.pointer (some ⟨q,0,none⟩))])/\∃(U y:Int),U≠0/\Co l.length (fun k=>(l.getD k 0).toNat) U y Gm/\Bb w' q U y/\q<w'.heap.size/\w.heap.size<=q))/\ZY w w' from by
  refine (II w a l.length c (fun k=>(l.getD k 0).toNat) (by unfold maxLen;omega) h.Ix (by omega) ha hb).mono ?_;rintro x w1 ⟨⟨y,t,lc,z,A,b,rfl,u⟩ | ⟨U,y,q,az,b,rfl,au,hq,ay⟩,s⟩
  .exact⟨Zu ⟨_,_,t,lc,rfl,y,z,A,b,rfl,rfl,u⟩,s⟩
  .exact⟨Zj ⟨q,rfl,U,y,az,b,au,hq,ay⟩,s⟩)
 obtain⟨sd,T⟩:∃sd,sd=Zbn l:=⟨_,rfl⟩;obtain⟨n,hn⟩:∃n,n=l.length:=⟨_,rfl⟩
 have X:=Zz (show ∀w2,ZY w w2->(convert 112 9 (.slice a n c)).run prog w2=.ok (.string sd) w2 from fun w2 j=>by
  rw[hn,T];rcases S.2 with⟨x,x2⟩ | ⟨g1,cap,cur,x,hg,hh,r⟩
  .have bf:l=[]:=List.length_eq_zero_iff.1 x2
   simp only[Value.slice.injEq] at x;obtain⟨rfl,_,rfl⟩:=x;rw[bf];exact KC w2
  .simp only[Value.slice.injEq] at x
   obtain⟨rfl,_,rfl⟩:=x;exact FO (fun k hk=>(j.cell (p:=⟨g1,k,none⟩) (Zaa hh)).trans (World.ownsRow.cellAt S k (by omega))))
 have HK:=Zz (show ∀(w2:World) (L H:Nat) (t:Option Addr) (lc:Nat) (z:Nat->Option Addr) (A:Nat->Nat) (y:Int),ZY w w2->Co n (fun k=>(l.getD k 0).toNat) 0 y (Zaj n (fun k=>(l.getD k 0).toNat))->An w.heap.size w2 (Zaj n (fun k=>(l.getD k 0).toNat)) (.slice t (Zaj n (fun k=>(l.getD k 0).toNat)).n lc) (Zaj n (fun k=>(l.getD k 0).toNat)).n z A->w2.heap[L]? =some (.cells #[.pointer (some ⟨P,0,none⟩)] 93 (0,0))->w2.heap[H]? =some (.cells #[.int .i64 1,.int .u64 0,.string sd] 29 (0,0))->Calls prog 127 #[.pointer (some ⟨P,4,none⟩),.agg #[.int .i64 (Zaj n (fun k=>(l.getD k 0).toNat)).dl,.slice t (Zaj n (fun k=>(l.getD k 0).toNat)).n lc],.func (.func 149) #[] #[.pointer (some ⟨L,0,none⟩),.pointer (some ⟨H,0,none⟩)]] w2 fun x w'=>∃i V F E e' m,x=.returned (.tuple #[.int .u64 i,AK V])/\Uk w.heap.size w' g d e l (.tuple #[.int .u64 i,AK V]) F E e'/\AI qh w' P B R D bd bn m F E e'/\As w ob m/\EF w w' P B R D bd bn ob from fun w2 L H t lc z A y J b u G W=>by
  rw[hn] at b u ⊢;have Z:=h.below J;have hk:=DH (op:=1) (N:=0) (data:=l) (Z.ok f) h.ne (by decide) (by decide) hl ae G (by rw[<-T];exact W);refine (IN w2 P B ob e _ t lc z A _ _ Z.kp ok b.ok (u.base h.pl.2) hk AZ.lr (u.off h.kp.qs)).mono ?_;rintro x w' (⟨q1,rfl,q2⟩ | ⟨v,e2,q1,rfl,q2⟩)
  .exact⟨0,5,g,d,e,ob,rfl,Zj ⟨y,5,b,Zu ⟨q1,rfl,rfl,rfl,rfl⟩,rfl⟩,Z.below q2,As.refl _ _,EF.Ae P B R D bd bn ob (J.trans (q2.mono J.size))⟩
  .obtain⟨k1,⟨m,k2,k3⟩,k4⟩:=h.kept J q2
   exact⟨_,v,_,_,_,m,rfl,Zj ⟨y,v,b,Zj ⟨e2,q1,k1,rfl,rfl,rfl⟩,rfl⟩,k2,k3,k4⟩)
 have HR:=Zz (Zq hn h);obtain⟨bs,al⟩:∃bs,bs=a:=⟨_,rfl⟩
 have Y:=Zz (show ∀(dl:Int) (nn:Nat) (t:Option Addr) (lc:Nat) (w1:World),(∃(y:Int) (z:Nat->Option Addr) (A:Nat->Nat),Co l.length (fun k=>(l.getD k 0).toNat) 0 y (Zaj l.length (fun k=>(l.getD k 0).toNat))/\dl=(Zaj l.length (fun k=>(l.getD k 0).toNat)).dl/\nn=(Zaj l.length (fun k=>(l.getD k 0).toNat)).n/\An w.heap.size w1 (Zaj l.length (fun k=>(l.getD k 0).toNat)) (.slice t (Zaj l.length (fun k=>(l.getD k 0).toNat)).n lc) (Zaj l.length (fun k=>(l.getD k 0).toNat)).n z A)->ZY w w1->∀(w2:World) (L H:Nat),ZY w1 w2->w2.heap[L]? =some (.cells #[.pointer (some ⟨P,0,none⟩)] 93 (0,0))->w2.heap[H]? =some (.cells #[.int .i64 1,.int .u64 0,.string sd] 29 (0,0))->Calls prog 127 #[.pointer (some ⟨P,4,none⟩),.agg #[.int .i64 dl,.slice t nn lc],.func (.func 149) #[] #[.pointer (some ⟨L,0,none⟩),.pointer (some ⟨H,0,none⟩)]] w2 fun x w'=>∃i V F E e' m,x=.returned (.tuple #[.int .u64 i,AK V])/\Uk w.heap.size w' g d e l (.tuple #[.int .u64 i,AK V]) F E e'/\AI qh w' P B R D bd bn m F E e'/\As w ob m/\EF w w' P B R D bd bn ob from by
  rintro dl nn t lc w1 ⟨y,z,A,b,rfl,rfl,u⟩ s w2 L H j G W;rw[hn] at HK;exact HK.o w2 L H t lc z A y (s.trans (j.mono s.size)) b (u.below j) G W)
 rw[<-hn] at O Y ⊢;clear h ok AZ f S hl ae ar ha hb e1 hn T ax aw HK al
 go_enter func101,ntmps101
 go_upto_region 4 with (go_at_call 126;refine O.o.mono ?_;rintro _ w1 ⟨⟨dl,nn,t,lc,rfl,G⟩ | ⟨q,rfl,G⟩,s⟩<;>have Q:=Zz (Zq G s)<;>clear G s)
 .obtain⟨w2,C⟩:∃w2,w2=w1.alloc (.cells #[.int .i64 dl,.slice t nn lc] 61):=⟨_,rfl⟩
  obtain⟨fb,K⟩:∃fb,fb=w1.heap.size:=⟨_,rfl⟩;rw[<-C,<-K];have j:ZY w1 w2:=by rw[C];exact ZV.alloc ZU _
  have I:w2.heap[fb]? =some (.cells #[.int .i64 dl,.slice t nn lc] 61 (0,0)):=by rw[C,K];exact heap_alloc_new w1 _
  have z0:w2.cell? ⟨fb,0,none⟩=some (.int .i64 dl):=by unfold QEk;rw[I];rfl
  have z1:w2.cell? ⟨fb,1,none⟩=some (.slice t nn lc):=by unfold QEk;rw[I];rfl
  have bh:=X.o w2 (Q.o.2.trans (j.mono Q.o.2.size));have bj:=X.o w2.drew ((Q.o.2.trans (j.mono Q.o.2.size)).drew);have HB:=Zz (Zq j (Zq C (Zq K I)));clear j C K I
  go_region_with (first
   | (go_at_call 107;refine (Zb0 _ P).mono ?_;rintro _ w3 ⟨rfl,ag⟩;rw[ag];clear ag)
   | (go_at_call 109;refine (Zdm _ P 1 0 sd).mono ?_;rintro _ w4 ⟨L,H,rfl,G,W,hb⟩;have y0:=cell_later hb z0;have y1:=cell_later hb z1;have HC:=Zz (Zq hb (Zq G W));clear G W hb)
   | (go_at_call 127;refine (Y.o _ _ _ _ _ Q.o.1 Q.o.2 _ _ _ (Below.trans (HB.o.1.drew) (HC.o.1.mono HB.o.1.size)) HC.o.2.1 HC.o.2.2).mono ?_;rintro _ w5 ⟨i,V,F,E,e',m,rfl,S⟩;have aj:=Zz S;clear S))
  all_goals go_wp2_with fail
  all_goals go_ret2
  all_goals exact⟨_,F,E,e',m,rfl,aj.o⟩
 .go_ret2
  obtain⟨⟨U,y,h1,Z,h3,h4,h5⟩,s⟩:=Q.o;obtain⟨hn,h⟩:=HR.o;have j:ZY w (w1.alloc (.cells #[.int .i64 0,.slice none 0 0] 61)):=s.alloc s.size _;exact⟨_,g,d,e,ob,rfl,Zu ⟨U,y,q,h1,by rw[<-hn];exact Z,rfl,h3.Ak h4 (ZV.alloc ZU _),by simp;omega,h5,rfl,rfl,rfl⟩,h.below j,As.refl _ _,EF.Ae P B R D bd bn ob j⟩
theorem Zby (x:Int)(w:World)(hg:Ay w) :
  Calls prog 37 #[AK x] w fun e w'=>e=.returned (.int .i64 x)/\ZY w w':=by
 have c:=Zz hg;clear hg;unfold AK;by_cases b:x=0
 .subst b
  rw[if_pos rfl]
  go_enter func37,ntmps37
  go_wp2_with (go_at_call 40;refine (KR w).mono ?_;rintro e w1 ⟨rfl,hb⟩;have a:=Zz hb;clear hb)
  go_ret
  exact⟨rfl,a.o⟩
 .rw[if_neg b]
  go_enter func37,ntmps37
  go_wp2_with (go_at_call 40;refine (Jf x w c.o).mono ?_;rintro e w1 ⟨rfl,hb⟩;have a:=Zz hb;clear hb)
  go_ret
  exact⟨rfl,a.o⟩
structure Bn (w:World)(hb D:Nat)(pv:Value):Prop where
 Au:w.heap[hb]? =some (.cells #[.pointer (some ⟨D,0,none⟩),pv] 95 (0,0))
theorem Bn.cells (h:Bn w hb D pv):w.cell? ⟨hb,0,none⟩=some (.pointer (some ⟨D,0,none⟩))/\w.cell? ⟨hb,1,none⟩=some pv:=by
 refine⟨?_,?_⟩<;>(unfold QEk;rw[h.Au];rfl)
theorem Bn.AD (h:Bn w hb D pv)(o:Nat):w.frozen? ⟨hb,o,none⟩=false:=by simp[World.frozen?,h.Au]
theorem Bn.at_ (h:Bn w hb D pv)(e:w'.heap[hb]? =w.heap[hb]?):Bn w' hb D pv:=⟨e.trans h.Au⟩
theorem Bn.set (h:Bn w hb D pv)(v:Value):Bn (w.setCell ⟨hb,1,none⟩ v) hb D v:=⟨by rw[Zab h.Au];rfl⟩
def Zbd (a b c e:Int):Value:=.agg #[.int .i64 a,.int .i64 b,.int .i64 c,.int .i64 e]
theorem FX (w:World)(hb D bd bn:Nat)(pv G:Value)(H f0:Int)(y:Bool)(a b c e:Int)(h:Bn w hb D G)(r:CF w D bd bn pv H f0 y) :
  Calls prog 34 #[.pointer (some ⟨hb,0,none⟩),Zbd a b c e] w fun x w'=>x=.returned (.tuple #[])/\CF w' D bd bn pv a b y/\AA w w' D:=by
 have t:hb≠D:=fun x=>by
  have p:=h.Au;rw[x,r.Au] at p;simp only[QCf,QIq] at p;exact absurd p.2.1 (by decide)
 have z:D≠hb:=Ne.symm t;have q:=Zaa h.Au;have f:=Zaa r.Au;obtain⟨w1,i⟩:∃w1,w1=w.alloc (.cells #[.int .i64 a,.int .i64 b,.int .i64 c,.int .i64 e] 35):=⟨_,rfl⟩;obtain⟨fb,m⟩:∃fb,fb=w.heap.size:=⟨_,rfl⟩;have j:ZY w w1:=by rw[i];exact ZV.alloc ZU _
 have p:=h.at_ (j.block hb q);have d:=r.at_ (j.block D f);have n:w1.heap[fb]? =some (.cells #[.int .i64 a,.int .i64 b,.int .i64 c,.int .i64 e] 35 (0,0)):=by rw[i,m];exact heap_alloc_new w _
 obtain⟨c0,c1⟩:=p.cells;have d3:=d.cells.1.1.2;have d4:=d.cells.1.2;have g3:=d.AD 3;have g4:=d.AD 4;have z0:w1.cell? ⟨fb,0,none⟩=some (.int .i64 a):=by unfold QEk;rw[n];rfl
 have I:w1.cell? ⟨fb,1,none⟩=some (.int .i64 b):=by unfold QEk;rw[n];rfl
 have A:fb≠D:=by omega
 have C:D≠fb:=by omega
 have E:=Zz (Zq i (Zq m (Zq j (Zq d f))))
 have F:=Zz (show ∀u v:Value,AA w ((w1.setCell ⟨D,3,none⟩ u).setCell ⟨D,4,none⟩ v).drew D from fun u v=>by
  have:=(((AA.refl w1 D).set 3 u).set 4 v).drew;exact⟨this.os.trans j.os,this.tape.trans j.tape,this.output.trans j.output,Zv j.size this.size,fun k hk s=>(this.block k (Zy hk j.size) s).trans (j.block k hk)⟩)
 clear h r q f j p d n;unfold Zbd
 go_enter func34,ntmps34
 go_upto_region 1 with fail
 rw[<-m,<-i];clear i m
 go_region
 go_wp2_with fail
 go_end0
 exact⟨rfl,⟨((E.o.2.2.2.1.WI a).KH b).Au⟩,F.o _ _⟩
theorem Sd (w:World)(hb D bd bn:Nat)(pv z:Value)(A f0:Int)(a b c e:Int)(h:Bn w hb D z)(p:CF w D bd bn pv A f0 false) :
  Calls prog 36 #[.pointer (some ⟨hb,0,none⟩),Zbd a b c e] w fun x w'=>x=.returned (.tuple #[])/\CF w' D bd bn pv (-1) (-1) false/\AA w w' D:=by
 have r:hb≠D:=fun x=>by
  have m:=h.Au;rw[x,p.Au] at m;simp only[QCf,QIq] at m;exact absurd m.2.1 (by decide)
 have s:D≠hb:=Ne.symm r;have n:=Zaa h.Au;have f:=Zaa p.Au;obtain⟨w1,j⟩:∃w1,w1=w.alloc (.cells #[.int .i64 a,.int .i64 b,.int .i64 c,.int .i64 e] 35):=⟨_,rfl⟩;have i:ZY w w1:=by rw[j];exact ZV.alloc ZU _
 have m:=h.at_ (i.block hb n);have d:=p.at_ (i.block D f);obtain⟨c0,c1⟩:=m.cells;have d3:=d.cells.1.1.2;have d4:=d.cells.1.2;have d5:=d.cells.2;have g3:=d.AD 3;have g4:=d.AD 4;have t:=Zz (Zq j (Zq i (Zq d f)))
 have y:=Zz (show ∀u v:Value,AA w ((w1.setCell ⟨D,3,none⟩ u).setCell ⟨D,4,none⟩ v).drew D from fun u v=>by
  have:=(((AA.refl w1 D).set 3 u).set 4 v).drew;exact⟨this.os.trans i.os,this.tape.trans i.tape,this.output.trans i.output,Zv i.size this.size,fun k hk q=>(this.block k (Zy hk i.size) q).trans (i.block k hk)⟩)
 clear h p n f i m d;unfold Zbd
 go_enter func36,ntmps36
 go_upto_region 1 with fail
 rw[<-j];clear j
 go_upto_region 4 with fail
 go_region
 go_wp2_with fail
 go_end0
 exact⟨rfl,⟨((t.o.2.2.1.WI (-1)).KH (-1)).Au⟩,y.o _ _⟩
structure HNe (hb P B R D bd bn:Nat):Prop where
 b:hb<B
 r:hb<R
 p:hb≠P
 d:hb≠D
 md:hb≠bd
 mn:hb≠bn
 gl:4<hb
structure BB (g:AQ)(d:Ax)(N:Nat)(e:Ab):Prop where
 err:g.err=0
 at_:g.at_=0
 short:g.short=0
 Ap:d.Ap=[]
 left:d.left= -1
 full:d.full= -1
 down:d.down=false
 s1:Hs d.CH N
 s2:Hs d.now N
 m2:2000000<=N
 log:∃recs,Da Za1 recs e/\d.CH=DD recs/\d.now=DD recs
def Ax.calm (d:Ax):Ax:={ d with left:= -1,full:= -1,down:=false }
theorem BB.fit {d:Ax}(h:BB g d N e)(b:N<=1000000000000):Fit g d N :=
 ⟨by rw[h.Ap];decide,by rw[h.at_];decide,by rw[h.short];decide,h.s1,h.s2,fun o a=>(by rw[h.Ap] at a;cases a),b,h.m2⟩
theorem BB.aim {d:Ax}(h:BB g d N e):({ d with left:= -1,full:= -1,down:=false }:Ax)=d:=by
 obtain⟨CH,now,Ap,left,full,down⟩:=d;have a:=h.left;have b:=h.full;have c:=h.down;simp only at a b c;rw[a,b,c]
theorem BB.add {d:Ax}{e0 j:Ab}(h:BB g d N e0)(hl:l.length<=900100)(x:Ez e0 l j):Ec g d l=0/\(CN g d l).down=false/\BB (FD g d l) (CN g d l).calm (N+1000000) j:=by
 obtain⟨CH,now,Ap,left,full,down⟩:=d;obtain⟨at_,short,err⟩:=g;obtain⟨k,m,n,o,p,q,r,s,t,v,c,i,a,b⟩:=h;simp only at k m n o p q r s t a b;subst k m n o p q r;have u:∀(f:BI),Hs f N->Hs (EB f ⟨2,0,Zcx 0 l⟩) (N+1000000):=fun f hf=>hf.do_ _ (by simp only[Zcx,ZX,List.length_replicate,Zei];omega)
 refine⟨by simp[Ec,AQ.op,Ax.BU,Ax.Bz,Ax.told,Ax.wrote,wI],by simp[CN,AQ.op,Ax.BU,Ax.Bz,Ax.told,Ax.wrote,Ax.synced,wI],?_⟩;refine⟨by simp[FD,AQ.op,Ax.BU,Ax.Bz,Ax.told,Ax.wrote,wI],by simp[FD,AQ.op,Ax.BU,Ax.Bz,Ax.told,Ax.wrote,wI],by simp[FD,AQ.op,Ax.BU,Ax.Bz,Ax.told,Ax.wrote,wI],by simp[Ax.calm,CN,AQ.op,Ax.BU,Ax.Bz,Ax.told,Ax.wrote,Ax.synced,wI],rfl,rfl,rfl,?_,?_,by omega,c++[l],i.snoc x,?_,?_⟩
 .have e:(CN ⟨0,0,0⟩ ⟨CH,now,[],-1,-1,false⟩ l).calm.CH=EB CH ⟨2,0,Zcx 0 l⟩:=by simp[Ax.calm,CN,AQ.op,Ax.BU,Ax.Bz,Ax.told,Ax.wrote,Ax.synced,wI]
  rw[e];exact u _ s
 .have e:(CN ⟨0,0,0⟩ ⟨CH,now,[],-1,-1,false⟩ l).calm.now=EB now ⟨2,0,Zcx 0 l⟩:=by simp[Ax.calm,CN,AQ.op,Ax.BU,Ax.Bz,Ax.told,Ax.wrote,Ax.synced,wI]
  rw[e];exact u _ t
 .have e:(CN ⟨0,0,0⟩ ⟨CH,now,[],-1,-1,false⟩ l).calm.CH=EB CH ⟨2,0,Zcx 0 l⟩:=by simp[Ax.calm,CN,AQ.op,Ax.BU,Ax.Bz,Ax.told,Ax.wrote,Ax.synced,wI]
  rw[e,a,Ly]
 .have e:(CN ⟨0,0,0⟩ ⟨CH,now,[],-1,-1,false⟩ l).calm.now=EB now ⟨2,0,Zcx 0 l⟩:=by simp[Ax.calm,CN,AQ.op,Ax.BU,Ax.Bz,Ax.told,Ax.wrote,Ax.synced,wI]
  rw[e,b,Ly]
theorem BB.add0 {d:Ax}{e0:Ab}(h:BB g d N e0):Ec g d l=0:=by
 obtain⟨CH,now,Ap,left,full,down⟩:=d;obtain⟨at_,short,err⟩:=g;obtain⟨a,b,c,f,i,j,k,n,o,m,_⟩:=h;simp only at a b c f i j k;subst a b c f i j k;simp[Ec,AQ.op,Ax.BU,Ax.Bz,Ax.told,Ax.wrote,wI]
theorem BB.calm {d:Ax}(h:BB g d N e):BB g d.calm (N+1000000) e:=by
 have e:d.calm=d:=h.aim;rw[e];exact⟨h.err,h.at_,h.short,h.Ap,h.left,h.full,h.down,h.s1.mono (by omega),h.s2.mono (by omega),by have:=h.m2;omega,h.log⟩
theorem AI.aim {d:Ax}(h:AI qh w P B R D bd bn ob g d e)(b:AA w w' D){o:Nat}{L F:Int}{z:Bool}(hw:w.ownsRow R 210 3 (.slice pa d.Ap.length o) d.Ap.length (d.Ap.flatMap IW))(t:CF w D bd bn (.slice pa d.Ap.length o) d.left d.full d.down)(H:CF w' D bd bn (.slice pa d.Ap.length o) L F z):AI qh w' P B R D bd bn ob g { d with left:=L,full:=F,down:=z } e:=by
 obtain⟨K,M⟩:=h.pl;have I:=h.ne.l.gl;have n:P<w.heap.size:=by omega
 have q:=h.ne.l.d;obtain⟨rs,l,u,J⟩:=h.kp;have nf:=NF.RD (LF.of_df (DF.CK (R:=R) (bd:=bd) (bn:=bn) b (Zu rfl)) n h.ne.l) h.ne;obtain⟨E,f3⟩:=h.dk.fd;obtain⟨G,f4⟩:=h.dk.fn
 have hm:∀p f v,AE w p f v->p≠D:=fun p f v u m=>by
  obtain⟨es,c,j,_⟩:=u.own;rw[m,t.Au] at j;cases j
 have C:∀k s,Zdg w k s->w'.heap[k]? =w.heap[k]? :=fun k s m=>b.block k (Zaa m) (fun y=>by
  have j:=t.Au;unfold Zdg at m;rw[<-y,m] at j;simp only[QCf,QIq] at j;exact absurd j.2.1 (by decide))
 refine⟨⟨rs,l,u.side nf,J⟩,h.log.at_ (b.block P n q),⟨Zv h.dk.rs b.size,⟨pa,o,H,hw.1,?_⟩,⟨E,f3.Eu (b.block bd f3.lt (hm _ _ _ f3)) C⟩,⟨G,f4.Eu (b.block bn f4.lt (hm _ _ _ f4)) C⟩,h.dk.ne,h.dk.Br,h.dk.ops⟩,fun i hi=> ?_,h.Ix.at_ (b.block _ (by omega) (by omega)),h.ne⟩
 .rcases hw.2 with x | ⟨A,cap,cur,x,hg,hh,r⟩
  .exact Zu x
  .exact Zj ⟨A,cap,cur,x,hg,(b.block A (Zaa hh) (Zah hh t.Au (by decide))).trans hh,r⟩
 .have e:=b.block 1 (by omega) (by omega)
  exact (QEc (a:=⟨1,i,none⟩) e).trans (h.nm i hi)
theorem EF.oneD (h:EF w w1 P B R D bd bn ob)(a:AA w1 w' D):EF w w' P B R D bd bn ob :=
 ⟨a.os.trans h.os,a.tape.trans h.tape,a.output.trans h.output,Zv h.size a.size,fun k hk c b d f i j=>(a.block k (Zy hk h.size) b).trans (h.block k hk c b d f i j)⟩
theorem EF.Cv {k:Nat}{t:TypeId}(h:EF w w' P B R D bd bn ob)(e:w.heap[k]? =some (.cells cs t fr))(b:k≠P/\k≠D/\k≠bd/\k≠bn)(a:t≠210/\t≠288/\t≠274/\t≠266/\t≠272/\t≠276/\t≠27):w'.heap[k]? =some (.cells cs t fr) :=
 (h.block k (Zaa e) b.1 b.2.1 b.2.2.1 b.2.2.2 (Zj fun c d e'=>by rw[e] at e';simp only[QCf,QIq] at e';exact a.1 e'.2.1) (Zj ⟨cs,t,fr,e,a.2.1,a.2.2.1,a.2.2.2.1,a.2.2.2.2.1,a.2.2.2.2.2.1,fun x=>absurd x a.2.2.2.2.2.2⟩)).trans e
structure AT (qh:Nat)(w:World)(hb P B R D bd bn:Nat)(ob:Option Nat)(N:Nat)(e:Ab):Prop where
 ex:∃g d,AI qh w P B R D bd bn ob g d e/\BB g d N e
 host:Bn w hb D (.pointer (some ⟨P,0,none⟩))
 err:Ay w
 ne:HNe hb P B R D bd bn
theorem EF.host {a:Value}(h:EF w w' P B R D bd bn ob)(n:HNe hb P B R D bd bn)(hh:Bn w hb D a):Bn w' hb D a :=
 hh.at_ (h.block hb (Zaa hh.Au) n.p n.d n.md n.mn (Zu n.r) (Zu n.b))
theorem EF.err (h:EF w w' P B R D bd bn ob)(n:KNe P B R D bd bn)(he:Ay w):Ay w':=by
 have b:=n.l.gl;have c:=n.p;have d:=n.l.r;have hb:0<w.heap.size:=World.block_lt_of_cell? _ _ he;exact (QEc (a:=⟨0,0,none⟩) (h.block 0 hb (by omega) (by omega) (by omega) (by omega) (Zu (by omega)) (Zu (by omega)))).trans he
theorem Zc4 (w:World)(hb P B R D bd bn N:Nat)(ob:Option Nat)(g:AQ)(d:Ax)(e:Ab)(f:Value)(c q:Int)(h:AI qh w P B R D bd bn ob g d e)(ws:BB g d N e)(hh:Bn w hb D f) :
  Calls prog 34 #[.pointer (some ⟨hb,0,none⟩),Zbd (-1) (-1) c q] w fun x w'=>x=.returned (.tuple #[])/\AI qh w' P B R D bd bn ob g d e/\AA w w' D:=by
 obtain⟨pa,m,q1,k⟩:=h.dk.c;refine (FX w hb D bd bn _ f d.left d.full d.down (-1) (-1) c q hh q1).mono ?_;rintro x w' ⟨rfl,j,a⟩;have b:=h.aim a k q1 j;have i:({ d with left:= -1,full:= -1,down:=d.down }:Ax)=d:=by rw[ws.down];exact ws.aim
 rw[i] at b;exact⟨rfl,b,a⟩
theorem Zcn (w:World)(hb P B R D bd bn:Nat)(ob:Option Nat)(g:AQ)(d:Ax)(e:Ab)(j:Value)(a b c q:Int)(h:AI qh w P B R D bd bn ob g d e)(f:d.down=false)(hh:Bn w hb D j) :
  Calls prog 36 #[.pointer (some ⟨hb,0,none⟩),Zbd a b c q] w fun x w'=>x=.returned (.tuple #[])/\AI qh w' P B R D bd bn ob g d.calm e/\AA w w' D:=by
 obtain⟨pa,n,q1,m⟩:=h.dk.c;refine (Sd w hb D bd bn _ j d.left d.full a b c q hh (by rw[<-f];exact q1)).mono ?_;rintro x w' ⟨rfl,k,i⟩;exact⟨rfl,h.aim i m q1 k,i⟩
structure AJ (qh:Nat)(w w1:World)(hb P B R D bd bn fb:Nat)(ob0 ob:Option Nat)(g:AQ)(d:Ax)(e:Ab)(fa fo fk fp:Int):Prop where
 Et:AI qh w1 P B R D bd bn ob g d e
 host:Bn w1 hb D (.pointer (some ⟨P,0,none⟩))
 err:Ay w1
 ef:EF w w1 P B R D bd bn ob0
 LV:As w ob0 ob
 fb:w1.heap[fb]? =some (.cells #[.int .i64 fa,.int .i64 fo,.int .i64 fk,.int .i64 fp] 35 (0,0))
theorem AJ.cells {a:Option Nat}{d:Ax}(h:AJ qh w w1 hb P B R D bd bn fb a ob g d e fa fo fk fp):(((w1.cell? ⟨fb,0,none⟩=some (.int .i64 fa)/\w1.cell? ⟨fb,1,none⟩=some (.int .i64 fo))/\w1.cell? ⟨fb,2,none⟩=some (.int .i64 fk))/\w1.cell? ⟨fb,3,none⟩=some (.int .i64 fp))/\w1.cell? ⟨hb,1,none⟩=some (.pointer (some ⟨P,0,none⟩)):=by
 refine⟨⟨⟨⟨?_,?_⟩,?_⟩,?_⟩,h.host.cells.2⟩<;>(unfold QEk;rw[h.fb];rfl)
theorem AJ.new {d:Ax}{N:Nat}(h:AI qh w P B R D bd bn ob g d e)(hh:Bn w hb D (.pointer (some ⟨P,0,none⟩)))(he:Ay w)(fa fo fk fp:Int){b:World}(hw:ZY w b):AJ qh w (b.alloc (.cells #[.int .i64 fa,.int .i64 fo,.int .i64 fk,.int .i64 fp] 35)) hb P B R D bd bn b.heap.size ob ob g d e fa fo fk fp:=by
 have a:ZY w (b.alloc (.cells #[.int .i64 fa,.int .i64 fo,.int .i64 fk,.int .i64 fp] 35)):=hw.alloc hw.size _;exact⟨h.below a,hh.at_ (a.block hb (Zaa hh.Au)),he.Ak a,EF.Ae P B R D bd bn ob a,As.refl _ _,heap_alloc_new _ _⟩
theorem AJ.below {b:Option Nat}{d:Ax}(h:AJ qh w w1 hb P B R D bd bn fb b ob g d e fa fo fk fp)(a:ZY w1 w2):AJ qh w w2 hb P B R D bd bn fb b ob g d e fa fo fk fp :=
 ⟨h.Et.below a,h.host.at_ (a.block hb (Zaa h.host.Au)),h.err.Ak a,h.ef.trans (EF.Ae P B R D bd bn b a) (As.refl _ _),h.LV,(a.block fb (Zaa h.fb)).trans h.fb⟩
theorem AI.GJ {d:Ax}(h:AI qh w P B R D bd bn ob g d e)(hf:w.heap[fb]? =some (.cells cs 35 fr)):fb≠D/\fb≠bd/\fb≠bn:=by
 obtain⟨pa,o,dk,_⟩:=h.dk.c;obtain⟨m,f3⟩:=h.dk.fd;obtain⟨n,f4⟩:=h.dk.fn
 have hm:∀a f b,AE w a f b->fb≠a:=fun a f b k j=>by
  obtain⟨es,c,i,_⟩:=k.own;rw[<-j,hf] at i;cases i
 exact⟨Zah hf dk.Au (by decide),hm _ _ _ f3,hm _ _ _ f4⟩
theorem AJ.one {a:Option Nat}{d f:Ax}(h:AJ qh w w1 hb P B R D bd bn fb a ob g d e fa fo fk fp)(n:HNe hb P B R D bd bn)(i:AI qh w2 P B R D bd bn ob g f e)(b:AA w1 w2 D):AJ qh w w2 hb P B R D bd bn fb a ob g f e fa fo fk fp:=by
 have c:EF w1 w2 P B R D bd bn a:=(EF.Ae P B R D bd bn a ZV).oneD b;exact⟨i,h.host.at_ (b.block hb (Zaa h.host.Au) n.d),c.err h.Et.ne h.err,h.ef.oneD b,h.LV,(b.block fb (Zaa h.fb) (h.Et.GJ h.fb).1).trans h.fb⟩
theorem AJ.call {b a:Option Nat}{i:AQ}{d c:Ax}{e':Ab}(h:AJ qh w w1 hb P B R D bd bn fb b ob g d e fa fo fk fp)(n:HNe hb P B R D bd bn)(j:AI qh w2 P B R D bd bn a i c e')(o:As w1 ob a)(hf:EF w1 w2 P B R D bd bn ob):AJ qh w w2 hb P B R D bd bn fb b a i c e' fa fo fk fp:=by
 have m:fb≠P:=fun x=>by
  have f:=h.fb;have c1:=h.Et.log.c1;rw[<-x] at c1;have c2:w1.cell? ⟨fb,1,none⟩=some (.int .i64 fo):=by unfold QEk;rw[f];rfl
  have c0:=h.Et.log.c0;rw[<-x] at c0;have c3:w1.cell? ⟨fb,0,none⟩=some (.int .i64 fa):=by unfold QEk;rw[f];rfl
  rw[c3] at c0;exact absurd c0 (by simp[By])
 obtain⟨x1,x2,x3⟩:=h.Et.GJ h.fb;refine⟨j,hf.host n h.host,hf.err h.Et.ne h.err,h.ef.trans hf h.LV,fun k hk=> ?_,hf.Cv h.fb ⟨m,x1,x2,x3⟩ (by decide)⟩;rcases o k hk with y | y
 .exact h.LV k y
 .exact Zj (Zv h.ef.size y)
def CO (er:Int)(r:Option Ab):Int:=if r.isSome then 0 else er
theorem Gu.Pm {f:AQ}{d b:Ax}{e':Ab}{c v:Int}{r:Option Ab}(h:Gu g d e l c r v f b e')(ws:BB g d N e)(hl:l.length<=900100)(hrec:∀a,r=some a->Ez e l a):v=CO c r/\e'=r.getD e/\b.down=false/\BB f b.calm (N+1000000) (r.getD e):=by
 rcases h with⟨rfl,rfl,rfl,rfl,rfl⟩ | ⟨a,rfl,rfl,rfl,rfl,rfl⟩
 .exact⟨rfl,rfl,ws.down,ws.calm⟩
 .obtain⟨i,j,k⟩:=ws.add hl (hrec a rfl)
  exact⟨i,by rw[if_pos i];rfl,j,k⟩
theorem Ok (w:World)(hb P B R D bd bn N:Nat)(ob:Option Nat)(e:Ab)(n:Nat)(h:AT qh w hb P B R D bd bn ob N e)(ok:Aj e)(AZ:Az e)(I:N<=1000000000000)(hn:n<18446744073709551616) :
  Calls prog 26 #[.pointer (some ⟨hb,0,none⟩),.int .i64 4,.int .u64 n,Zbd (-1) (-1) 0 0] w fun x w'=>∃a,x=.returned (.int .i64 (CO 7 (e.complete n)))/\AT qh w' hb P B R D bd bn a (N+1000000) ((e.complete n).getD e)/\As w ob a/\EF w w' P B R D bd bn ob:=by
 obtain⟨g,d,H,ws⟩:=h.ex;have f:=h.ne;have hlen:(AU 4 [] n).length<=900100:=by have:=(Zdj (op:=4) (data:=[]) hn).2;simp at this;omega
 obtain⟨fb,q⟩:∃fb,fb=w.heap.size:=⟨_,rfl⟩;obtain⟨w1,r⟩:∃w1,w1=w.alloc (.cells #[.int .i64 (-1),.int .i64 (-1),.int .i64 0,.int .i64 0] 35):=⟨_,rfl⟩;have u:=Zz (show AJ qh w w1 hb P B R D bd bn fb ob ob g d e (-1) (-1) 0 0 from by rw[r,q];exact AJ.new (N:=N) H h.host h.err _ _ _ _ ZV)
 have m:=Zz (show Calls prog 34 #[.pointer (some ⟨hb,0,none⟩),Zbd (-1) (-1) 0 0] w1 fun x w'=>x=.returned (.tuple #[])/\AJ qh w w' hb P B R D bd bn fb ob ob g d e (-1) (-1) 0 0 from by
  refine (Zc4 w1 hb P B R D bd bn N ob g d e _ 0 0 u.o.Et ws u.o.host).mono ?_;rintro x w' ⟨rfl,q1,s⟩;exact⟨rfl,u.o.one f q1 s⟩)
 have p:=Zz (show ∀w2,AJ qh w w2 hb P B R D bd bn fb ob ob g d e (-1) (-1) 0 0->Calls prog 68 #[.pointer (some ⟨P,0,none⟩),.int .u64 n] w2 fun x w'=>∃v i c a,x=.returned (AK v)/\v=CO 7 (e.complete n)/\c.down=false/\BB i c.calm (N+1000000) ((e.complete n).getD e)/\AJ qh w w' hb P B R D bd bn fb ob a i c ((e.complete n).getD e) (-1) (-1) 0 0 from fun w2 b=>by
  refine (Ld w2 P B R D bd bn N ob g d e n b.Et ok AZ (ws.fit I) hn).mono ?_;rintro x w' ⟨v,i,c,e',a,rfl,q1,s,M,O⟩;obtain⟨r1,r2,Q,S⟩:=q1.Pm ws hlen (fun T he=> .complete hn he);rw[r2] at s;exact⟨v,i,c,a,rfl,r1,Q,S,b.call f s M O⟩)
 have k:=Zz (show ∀C i c a,c.down=false->AJ qh w C hb P B R D bd bn fb ob a i c ((e.complete n).getD e) (-1) (-1) 0 0->Calls prog 36 #[.pointer (some ⟨hb,0,none⟩),Zbd (-1) (-1) 0 0] C fun x w'=>x=.returned (.tuple #[])/\AJ qh w w' hb P B R D bd bn fb ob a i c.calm ((e.complete n).getD e) (-1) (-1) 0 0 from fun C i c a j b=>by
  refine (Zcn C hb P B R D bd bn a i c _ _ _ _ 0 0 b.Et j b.host).mono ?_;rintro x w' ⟨rfl,q1,s⟩;exact⟨rfl,b.one f q1 s⟩)
 have F:=Zz (Zq r (Zq q f));have U:=h.host.cells.2;have L:w1.cell? ⟨hb,1,none⟩=some (.pointer (some ⟨P,0,none⟩)):=u.o.host.cells.2;obtain⟨J,z⟩:∃J,J=CO 7 (e.complete n):=⟨_,rfl⟩;unfold Zbd at m k ⊢;rw[<-z] at p ⊢;clear h ok AZ I hn H ws f hlen r q z
 go_enter func26,ntmps26
 go_upto_region 1 with fail
 rw[<-F.o.1,<-F.o.2.1];have a0:=u.o.cells;obtain⟨⟨⟨⟨z0,z1⟩,z2⟩,z3⟩,z4⟩:=a0
 go_wp2_with (first
  | (go_at_call 34;refine m.o.mono ?_;rintro _ w2 ⟨rfl,b⟩;have K:=Zz b;obtain⟨⟨⟨⟨Y,Z⟩,y2⟩,y3⟩,y4⟩:=b.cells;clear b)
  | (go_at_call 68;refine (p.o _ K.o).mono ?_;rintro _ C ⟨v,i,c,a,rfl,rfl,j,A,b⟩;have E:=Zz (Zq b (Zq j A));obtain⟨⟨⟨⟨W,x1⟩,x2⟩,x3⟩,X⟩:=b.cells;clear b j A)
  | (go_at_call 36;refine (k.o _ _ _ _ E.o.2.1 E.o.1).mono ?_;rintro _ w4 ⟨rfl,b⟩;have G:=Zz b;clear b)
  | (go_at_call 37;refine (Zby _ w4 G.o.err).mono ?_;rintro _ V ⟨rfl,y⟩;have t:=Zz (G.o.below y);clear y))
 go_ret
 exact⟨a,rfl,⟨⟨_,_,t.o.Et,E.o.2.2⟩,t.o.host,t.o.err,F.o.2.2⟩,t.o.LV,t.o.ef⟩
theorem Ol (w:World)(hb P B R D bd bn N:Nat)(ob:Option Nat)(e:Ab)(n:Nat)(h:AT qh w hb P B R D bd bn ob N e)(ok:Aj e)(AZ:Az e)(I:N<=1000000000000)(hn:n<18446744073709551616) :
  Calls prog 26 #[.pointer (some ⟨hb,0,none⟩),.int .i64 5,.int .u64 n,Zbd (-1) (-1) 0 0] w fun x w'=>∃a,x=.returned (.int .i64 (CO 7 (e.fail n)))/\AT qh w' hb P B R D bd bn a (N+1000000) ((e.fail n).getD e)/\As w ob a/\EF w w' P B R D bd bn ob:=by
 obtain⟨g,d,H,ws⟩:=h.ex;have f:=h.ne;have hlen:(AU 5 [] n).length<=900100:=by have:=(Zdj (op:=5) (data:=[]) hn).2;simp at this;omega
 obtain⟨fb,q⟩:∃fb,fb=w.heap.size:=⟨_,rfl⟩;obtain⟨w1,r⟩:∃w1,w1=w.alloc (.cells #[.int .i64 (-1),.int .i64 (-1),.int .i64 0,.int .i64 0] 35):=⟨_,rfl⟩;have u:=Zz (show AJ qh w w1 hb P B R D bd bn fb ob ob g d e (-1) (-1) 0 0 from by rw[r,q];exact AJ.new (N:=N) H h.host h.err _ _ _ _ ZV)
 have m:=Zz (show Calls prog 34 #[.pointer (some ⟨hb,0,none⟩),Zbd (-1) (-1) 0 0] w1 fun x w'=>x=.returned (.tuple #[])/\AJ qh w w' hb P B R D bd bn fb ob ob g d e (-1) (-1) 0 0 from by
  refine (Zc4 w1 hb P B R D bd bn N ob g d e _ 0 0 u.o.Et ws u.o.host).mono ?_;rintro x w' ⟨rfl,q1,s⟩;exact⟨rfl,u.o.one f q1 s⟩)
 have p:=Zz (show ∀w2,AJ qh w w2 hb P B R D bd bn fb ob ob g d e (-1) (-1) 0 0->Calls prog 69 #[.pointer (some ⟨P,0,none⟩),.int .u64 n] w2 fun x w'=>∃v i c a,x=.returned (AK v)/\v=CO 7 (e.fail n)/\c.down=false/\BB i c.calm (N+1000000) ((e.fail n).getD e)/\AJ qh w w' hb P B R D bd bn fb ob a i c ((e.fail n).getD e) (-1) (-1) 0 0 from fun w2 b=>by
  refine (St w2 P B R D bd bn N ob g d e n b.Et ok AZ (ws.fit I) hn).mono ?_;rintro x w' ⟨v,i,c,e',a,rfl,q1,s,M,O⟩;obtain⟨r1,r2,Q,S⟩:=q1.Pm ws hlen (fun T he=> .fail hn he);rw[r2] at s;exact⟨v,i,c,a,rfl,r1,Q,S,b.call f s M O⟩)
 have k:=Zz (show ∀C i c a,c.down=false->AJ qh w C hb P B R D bd bn fb ob a i c ((e.fail n).getD e) (-1) (-1) 0 0->Calls prog 36 #[.pointer (some ⟨hb,0,none⟩),Zbd (-1) (-1) 0 0] C fun x w'=>x=.returned (.tuple #[])/\AJ qh w w' hb P B R D bd bn fb ob a i c.calm ((e.fail n).getD e) (-1) (-1) 0 0 from fun C i c a j b=>by
  refine (Zcn C hb P B R D bd bn a i c _ _ _ _ 0 0 b.Et j b.host).mono ?_;rintro x w' ⟨rfl,q1,s⟩;exact⟨rfl,b.one f q1 s⟩)
 have F:=Zz (Zq r (Zq q f));have U:=h.host.cells.2;have L:w1.cell? ⟨hb,1,none⟩=some (.pointer (some ⟨P,0,none⟩)):=u.o.host.cells.2;obtain⟨J,z⟩:∃J,J=CO 7 (e.fail n):=⟨_,rfl⟩;unfold Zbd at m k ⊢;rw[<-z] at p ⊢;clear h ok AZ I hn H ws f hlen r q z
 go_enter func26,ntmps26
 go_upto_region 1 with fail
 rw[<-F.o.1,<-F.o.2.1];have a0:=u.o.cells;obtain⟨⟨⟨⟨z0,z1⟩,z2⟩,z3⟩,z4⟩:=a0
 go_wp2_with (first
  | (go_at_call 34;refine m.o.mono ?_;rintro _ w2 ⟨rfl,b⟩;have K:=Zz b;obtain⟨⟨⟨⟨Y,Z⟩,y2⟩,y3⟩,y4⟩:=b.cells;clear b)
  | (go_at_call 69;refine (p.o _ K.o).mono ?_;rintro _ C ⟨v,i,c,a,rfl,rfl,j,A,b⟩;have E:=Zz (Zq b (Zq j A));obtain⟨⟨⟨⟨W,x1⟩,x2⟩,x3⟩,X⟩:=b.cells;clear b j A)
  | (go_at_call 36;refine (k.o _ _ _ _ E.o.2.1 E.o.1).mono ?_;rintro _ w4 ⟨rfl,b⟩;have G:=Zz b;clear b)
  | (go_at_call 37;refine (Zby _ w4 G.o.err).mono ?_;rintro _ V ⟨rfl,y⟩;have t:=Zz (G.o.below y);clear y))
 go_ret
 exact⟨a,rfl,⟨⟨_,_,t.o.Et,E.o.2.2⟩,t.o.host,t.o.err,F.o.2.2⟩,t.o.LV,t.o.ef⟩
theorem Vc (w:World)(hb P B R D bd bn N:Nat)(ob:Option Nat)(e:Ab)(n:Nat)(h:AT qh w hb P B R D bd bn ob N e)(ok:Aj e)(AZ:Az e)(I:N<=1000000000000)(hn:n<18446744073709551616) :
  Calls prog 26 #[.pointer (some ⟨hb,0,none⟩),.int .i64 3,.int .u64 n,Zbd (-1) (-1) 0 0] w fun x w'=>∃a,x=.returned (.int .i64 (CO 7 (e.AY n)))/\AT qh w' hb P B R D bd bn a (N+1000000) ((e.AY n).getD e)/\As w ob a/\EF w w' P B R D bd bn ob:=by
 obtain⟨g,d,H,ws⟩:=h.ex;have f:=h.ne;have hlen:(AU 3 [] n).length<=900100:=by have:=(Zdj (op:=3) (data:=[]) hn).2;simp at this;omega
 obtain⟨fb,q⟩:∃fb,fb=w.heap.size:=⟨_,rfl⟩;obtain⟨w1,r⟩:∃w1,w1=w.alloc (.cells #[.int .i64 (-1),.int .i64 (-1),.int .i64 0,.int .i64 0] 35):=⟨_,rfl⟩;have u:=Zz (show AJ qh w w1 hb P B R D bd bn fb ob ob g d e (-1) (-1) 0 0 from by rw[r,q];exact AJ.new (N:=N) H h.host h.err _ _ _ _ ZV)
 have m:=Zz (show Calls prog 34 #[.pointer (some ⟨hb,0,none⟩),Zbd (-1) (-1) 0 0] w1 fun x w'=>x=.returned (.tuple #[])/\AJ qh w w' hb P B R D bd bn fb ob ob g d e (-1) (-1) 0 0 from by
  refine (Zc4 w1 hb P B R D bd bn N ob g d e _ 0 0 u.o.Et ws u.o.host).mono ?_;rintro x w' ⟨rfl,q1,s⟩;exact⟨rfl,u.o.one f q1 s⟩)
 have p:=Zz (show ∀w2,AJ qh w w2 hb P B R D bd bn fb ob ob g d e (-1) (-1) 0 0->Calls prog 67 #[.pointer (some ⟨P,0,none⟩),.int .u64 n] w2 fun x w'=>∃v i c a,x=.returned (AK v)/\v=CO 7 (e.AY n)/\c.down=false/\BB i c.calm (N+1000000) ((e.AY n).getD e)/\AJ qh w w' hb P B R D bd bn fb ob a i c ((e.AY n).getD e) (-1) (-1) 0 0 from fun w2 b=>by
  refine (Sr w2 P B R D bd bn N ob g d e n b.Et ok AZ (ws.fit I) hn).mono ?_;rintro x w' ⟨v,i,c,e',a,rfl,q1,s,M,O⟩;obtain⟨r1,r2,Q,S⟩:=q1.Pm ws hlen (fun T he=> .AY hn he);rw[r2] at s;exact⟨v,i,c,a,rfl,r1,Q,S,b.call f s M O⟩)
 have k:=Zz (show ∀C i c a,c.down=false->AJ qh w C hb P B R D bd bn fb ob a i c ((e.AY n).getD e) (-1) (-1) 0 0->Calls prog 36 #[.pointer (some ⟨hb,0,none⟩),Zbd (-1) (-1) 0 0] C fun x w'=>x=.returned (.tuple #[])/\AJ qh w w' hb P B R D bd bn fb ob a i c.calm ((e.AY n).getD e) (-1) (-1) 0 0 from fun C i c a j b=>by
  refine (Zcn C hb P B R D bd bn a i c _ _ _ _ 0 0 b.Et j b.host).mono ?_;rintro x w' ⟨rfl,q1,s⟩;exact⟨rfl,b.one f q1 s⟩)
 have F:=Zz (Zq r (Zq q f));have U:=h.host.cells.2;have L:w1.cell? ⟨hb,1,none⟩=some (.pointer (some ⟨P,0,none⟩)):=u.o.host.cells.2;obtain⟨J,z⟩:∃J,J=CO 7 (e.AY n):=⟨_,rfl⟩;unfold Zbd at m k ⊢;rw[<-z] at p ⊢;clear h ok AZ I hn H ws f hlen r q z
 go_enter func26,ntmps26
 go_upto_region 1 with fail
 rw[<-F.o.1,<-F.o.2.1];have a0:=u.o.cells;obtain⟨⟨⟨⟨z0,z1⟩,z2⟩,z3⟩,z4⟩:=a0
 go_wp2_with (first
  | (go_at_call 34;refine m.o.mono ?_;rintro _ w2 ⟨rfl,b⟩;have K:=Zz b;obtain⟨⟨⟨⟨Y,Z⟩,y2⟩,y3⟩,y4⟩:=b.cells;clear b)
  | (go_at_call 67;refine (p.o _ K.o).mono ?_;rintro _ C ⟨v,i,c,a,rfl,rfl,j,A,b⟩;have E:=Zz (Zq b (Zq j A));obtain⟨⟨⟨⟨W,x1⟩,x2⟩,x3⟩,X⟩:=b.cells;clear b j A)
  | (go_at_call 36;refine (k.o _ _ _ _ E.o.2.1 E.o.1).mono ?_;rintro _ w4 ⟨rfl,b⟩;have G:=Zz b;clear b)
  | (go_at_call 37;refine (Zby _ w4 G.o.err).mono ?_;rintro _ V ⟨rfl,y⟩;have t:=Zz (G.o.below y);clear y))
 go_ret
 exact⟨a,rfl,⟨⟨_,_,t.o.Et,E.o.2.2⟩,t.o.host,t.o.err,F.o.2.2⟩,t.o.LV,t.o.ef⟩
theorem Om (w:World)(hb P B R D bd bn N:Nat)(ob:Option Nat)(e:Ab)(n:Nat)(h:AT qh w hb P B R D bd bn ob N e)(ok:Aj e)(AZ:Az e)(K:N<=1000000000000)(hn:n<18446744073709551616) :
  Calls prog 26 #[.pointer (some ⟨hb,0,none⟩),.int .i64 7,.int .u64 n,Zbd (-1) (-1) 0 0] w fun x w'=>∃a c,x=.returned (.int .i64 0)/\BR e n c/\AT qh w' hb P B R D bd bn a (N+1000000) c/\As w ob a/\EF w w' P B R D bd bn ob:=by
 obtain⟨g,d,J,ws⟩:=h.ex;have i:=h.ne;have hlen:(AU 7 [] n).length<=900100:=by have:=(Zdj (op:=7) (data:=[]) hn).2;simp at this;omega
 obtain⟨fb,q⟩:∃fb,fb=w.heap.size:=⟨_,rfl⟩;obtain⟨w1,r⟩:∃w1,w1=w.alloc (.cells #[.int .i64 (-1),.int .i64 (-1),.int .i64 0,.int .i64 0] 35):=⟨_,rfl⟩;have y:=Zz (show AJ qh w w1 hb P B R D bd bn fb ob ob g d e (-1) (-1) 0 0 from by rw[r,q];exact AJ.new (N:=N) J h.host h.err _ _ _ _ ZV)
 have p:=Zz (show Calls prog 34 #[.pointer (some ⟨hb,0,none⟩),Zbd (-1) (-1) 0 0] w1 fun x w'=>x=.returned (.tuple #[])/\AJ qh w w' hb P B R D bd bn fb ob ob g d e (-1) (-1) 0 0 from by
  refine (Zc4 w1 hb P B R D bd bn N ob g d e _ 0 0 y.o.Et ws y.o.host).mono ?_;rintro x w' ⟨rfl,q1,s⟩;exact⟨rfl,y.o.one i q1 s⟩)
 have z:=Zz (show ∀w2,AJ qh w w2 hb P B R D bd bn fb ob ob g d e (-1) (-1) 0 0->Calls prog 71 #[.pointer (some ⟨P,0,none⟩),.int .u64 n] w2 fun x w'=>∃v j f a c,x=.returned (AK v)/\v=0/\BR e n c/\f.down=false/\BB j f.calm (N+1000000) c/\AJ qh w w' hb P B R D bd bn fb ob a j f c (-1) (-1) 0 0 from fun w2 b=>by
  refine (Sz w2 P B R D bd bn N ob g d e n b.Et ok AZ (ws.fit K) hn).mono ?_;rintro x w' ⟨v,j,f,e',a,rfl,⟨c,t,rfl,rfl,rfl,rfl⟩,s,Q,S⟩;have r1:=ws.add0 (l:=AU 7 [] n);obtain⟨_,T,U⟩:=ws.add hlen (.tick hn (t r1));rw[if_pos r1] at s;exact⟨_,_,_,a,c,rfl,r1,t r1,T,U,b.call i s Q S⟩)
 have m:=Zz (show ∀E j f a (c:Ab),f.down=false->AJ qh w E hb P B R D bd bn fb ob a j f c (-1) (-1) 0 0->Calls prog 36 #[.pointer (some ⟨hb,0,none⟩),Zbd (-1) (-1) 0 0] E fun x w'=>x=.returned (.tuple #[])/\AJ qh w w' hb P B R D bd bn fb ob a j f.calm c (-1) (-1) 0 0 from fun E j f a c k b=>by
  refine (Zcn E hb P B R D bd bn a j f _ _ _ _ 0 0 b.Et k b.host).mono ?_;rintro x w' ⟨rfl,q1,s⟩;exact⟨rfl,b.one i q1 s⟩)
 have G:=Zz (Zq r (Zq q i));have V:=h.host.cells.2;have O:w1.cell? ⟨hb,1,none⟩=some (.pointer (some ⟨P,0,none⟩)):=y.o.host.cells.2;unfold Zbd at p m ⊢;clear h ok AZ K hn J ws i hlen r q
 go_enter func26,ntmps26
 go_upto_region 1 with fail
 rw[<-G.o.1,<-G.o.2.1];have a0:=y.o.cells;obtain⟨⟨⟨⟨z0,z1⟩,z2⟩,z3⟩,z4⟩:=a0
 go_wp2_with (first
  | (go_at_call 34;refine p.o.mono ?_;rintro _ w2 ⟨rfl,b⟩;have M:=Zz b;obtain⟨⟨⟨⟨Z,y1⟩,y2⟩,y3⟩,y4⟩:=b.cells;clear b)
  | (go_at_call 71;refine (z.o _ M.o).mono ?_;rintro _ E ⟨v,j,f,a,c,rfl,rfl,L,k,C,b⟩;have F:=Zz (Zq b (Zq k C));have H:=Zz L;obtain⟨⟨⟨⟨X,x1⟩,x2⟩,x3⟩,Y⟩:=b.cells;clear b k C L)
  | (go_at_call 36;refine (m.o _ _ _ _ _ F.o.2.1 F.o.1).mono ?_;rintro _ w4 ⟨rfl,b⟩;have I:=Zz b;clear b)
  | (go_at_call 37;refine (Zby _ w4 I.o.err).mono ?_;rintro _ W ⟨rfl,A⟩;have u:=Zz (I.o.below A);clear A))
 go_ret
 exact⟨a,c,rfl,H.o,⟨⟨_,_,u.o.Et,F.o.2.2⟩,u.o.host,u.o.err,G.o.2.2⟩,u.o.LV,u.o.ef⟩
