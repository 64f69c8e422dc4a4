import Derived.Test.YtgdcjccbdmcebaaGreatDoorM41
import Derived.Test.YtgdcjccbdmcebaaGreatDoorM44
set_option linter.unusedSimpArgs false
set_option linter.unusedVariables false
set_option maxHeartbeats 8000000
set_option maxRecDepth 100000
open Go.Proofs.Tryz
namespace Go.Proofs.YtgdcjccbdmcebaaGreatDoor
open Go.RowKit
attribute [local go_sem ↓] Go.wp_at_zero Go.wp_at_succ
variable {ob:Option Nat}{w w' w1 w2:World}{g:AS}{e:Ab}{D hb bd bn N P B R fb:Nat}{pv:Value}{l:List Int}{cs:Array Value}{fr:Nat×Nat}{fa fo fk fp:Int}{pa:Option Addr}
theorem Zch (x:Int)(w:World)(hg:Az w) :
  Calls prog 37 #[AH x] w fun e w'=>e= .returned (.int .i64 x)/\Below w.heap.size w w':=by
 have c:=Zz hg;clear hg;unfold AH;by_cases b:x=0
 ·subst b
  rw[if_pos rfl]
  go_enter func37,ntmps37
  go_wp2_with (go_at_call 40;refine (KS w).mono ?_;rintro e w1 ⟨rfl,hb⟩;have a:=Zz hb;clear hb)
  go_ret
  exact⟨rfl,a.o⟩
 ·rw[if_neg b]
  go_enter func37,ntmps37
  go_wp2_with (go_at_call 40;refine (Jf x w c.o).mono ?_;rintro e w1 ⟨rfl,hb⟩;have a:=Zz hb;clear hb)
  go_ret
  exact⟨rfl,a.o⟩
structure Bm (w:World)(hb D:Nat)(pv:Value):Prop where
 Au:w.heap[hb]? =some (.cells #[.pointer (some ⟨D,0,none⟩),pv] 95 (0,0))
theorem Bm.cells (h:Bm w hb D pv):w.cell? ⟨hb,0,none⟩=some (.pointer (some ⟨D,0,none⟩))/\w.cell? ⟨hb,1,none⟩=some pv:=by
 refine⟨?_,?_⟩<;>(unfold World.cell?;rw[h.Au];rfl)
theorem Bm.AE (h:Bm w hb D pv)(o:Nat):w.frozen? ⟨hb,o,none⟩=false:=by simp[World.frozen?,h.Au]
theorem Bm.at_ (h:Bm w hb D pv)(e:w'.heap[hb]? =w.heap[hb]?):Bm w' hb D pv:=⟨e.trans h.Au⟩
theorem Bm.set (h:Bm w hb D pv)(v:Value):Bm (w.setCell ⟨hb,1,none⟩ v) hb D v:=⟨by rw[Zab h.Au];rfl⟩
def Zbl (a b c e:Int):Value:= .agg #[.int .i64 a, .int .i64 b, .int .i64 c, .int .i64 e]
theorem FY (w:World)(hb D bd bn:Nat)(pv H:Value)(I f0:Int)(y:Bool)(a b c e:Int)(h:Bm w hb D H)(r:CF w D bd bn pv I f0 y) :
  Calls prog 34 #[.pointer (some ⟨hb,0,none⟩),Zbl a b c e] w fun x w'=>x= .returned (.tuple #[])/\CF w' D bd bn pv a b y/\Ax w w' D:=by
 have t:hb≠D:=fun x=>by
  have p:=h.Au;rw[x,r.Au] at p;simp only[Option.some.injEq,Obj.cells.injEq] at p;exact absurd p.2.1 (by decide)
 have A:D≠hb:=Ne.symm t;have q:=Zaa h.Au;have f:=Zaa r.Au;obtain⟨w1,i⟩:∃w1,w1=w.alloc (.cells #[.int .i64 a, .int .i64 b, .int .i64 c, .int .i64 e] 35):=⟨_,rfl⟩;obtain⟨fb,m⟩:∃fb,fb=w.heap.size:=⟨_,rfl⟩;have j:Below w.heap.size w w1:=by rw[i];exact (Zk _ _).alloc (Zx _) _
 have p:=h.at_ (j.block hb q);have d:=r.at_ (j.block D f);have n:w1.heap[fb]? =some (.cells #[.int .i64 a, .int .i64 b, .int .i64 c, .int .i64 e] 35 (0,0)):=by rw[i,m];exact heap_alloc_new w _
 obtain⟨c0,c1⟩:=p.cells;have d3:=d.cells.1.1.2;have d4:=d.cells.1.2;have g3:=d.AE 3;have g4:=d.AE 4;have z0:w1.cell? ⟨fb,0,none⟩=some (.int .i64 a):=by unfold World.cell?;rw[n];rfl
 have J:w1.cell? ⟨fb,1,none⟩=some (.int .i64 b):=by unfold World.cell?;rw[n];rfl
 have C:fb≠D:=by omega
 have E:D≠fb:=by omega
 have F:=Zz (Zq i (Zq m (Zq j (Zq d f))))
 have G:=Zz (show ∀u v:Value,Ax w ((w1.setCell ⟨D,3,none⟩ u).setCell ⟨D,4,none⟩ v).drew D from fun u v=>by
  have:=(((Ax.refl w1 D).set 3 u).set 4 v).drew;exact⟨this.os.trans j.os,this.tape.trans j.tape,this.output.trans j.output,Zv j.size this.size,fun k z s=>(this.block k (Zy z j.size) s).trans (j.block k z)⟩)
 clear h r q f j p d n;unfold Zbl
 go_enter func34,ntmps34
 go_upto_region 1 with fail
 rw[<-m,<-i];clear i m
 go_region
 go_wp2_with fail
 go_end0
 exact⟨rfl,⟨((F.o.2.2.2.1.WT a).KI b).Au⟩,G.o _ _⟩
theorem Sm (w:World)(hb D bd bn:Nat)(pv A:Value)(C f0:Int)(a b c e:Int)(h:Bm w hb D A)(p:CF w D bd bn pv C f0 false) :
  Calls prog 36 #[.pointer (some ⟨hb,0,none⟩),Zbl a b c e] w fun x w'=>x= .returned (.tuple #[])/\CF w' D bd bn pv (-1) (-1) false/\Ax w w' D:=by
 have r:hb≠D:=fun x=>by
  have m:=h.Au;rw[x,p.Au] at m;simp only[Option.some.injEq,Obj.cells.injEq] at m;exact absurd m.2.1 (by decide)
 have t:D≠hb:=Ne.symm r;have n:=Zaa h.Au;have f:=Zaa p.Au;obtain⟨w1,j⟩:∃w1,w1=w.alloc (.cells #[.int .i64 a, .int .i64 b, .int .i64 c, .int .i64 e] 35):=⟨_,rfl⟩;have i:Below w.heap.size w w1:=by rw[j];exact (Zk _ _).alloc (Zx _) _
 have m:=h.at_ (i.block hb n);have d:=p.at_ (i.block D f);obtain⟨c0,c1⟩:=m.cells;have d3:=d.cells.1.1.2;have d4:=d.cells.1.2;have d5:=d.cells.2;have g3:=d.AE 3;have g4:=d.AE 4;have y:=Zz (Zq j (Zq i (Zq d f)))
 have z:=Zz (show ∀u v:Value,Ax w ((w1.setCell ⟨D,3,none⟩ u).setCell ⟨D,4,none⟩ v).drew D from fun u v=>by
  have:=(((Ax.refl w1 D).set 3 u).set 4 v).drew;exact⟨this.os.trans i.os,this.tape.trans i.tape,this.output.trans i.output,Zv i.size this.size,fun k s q=>(this.block k (Zy s i.size) q).trans (i.block k s)⟩)
 clear h p n f i m d;unfold Zbl
 go_enter func36,ntmps36
 go_upto_region 1 with fail
 rw[<-j];clear j
 go_upto_region 4 with fail
 go_region
 go_wp2_with fail
 go_end0
 exact⟨rfl,⟨((y.o.2.2.1.WT (-1)).KI (-1)).Au⟩,z.o _ _⟩
structure HNe (hb P B R D bd bn:Nat):Prop where
 b:hb<B
 r:hb<R
 p:hb≠P
 d:hb≠D
 md:hb≠bd
 mn:hb≠bn
 gl:4<hb
structure BD (g:AS)(d:Ay)(N:Nat)(e:Ab):Prop where
 err:g.err=0
 at_:g.at_=0
 short:g.short=0
 Ap:d.Ap=[]
 left:d.left= -1
 full:d.full= -1
 down:d.down=false
 s1:Hr d.CJ N
 s2:Hr d.now N
 m2:2000000<=N
 log:∃recs,Dc Za1 recs e/\d.CJ=DH recs/\d.now=DH recs
def Ay.calm (d:Ay):Ay:={ d with left:= -1,full:= -1,down:=false }
theorem BD.fit {d:Ay}(h:BD g d N e)(b:N<=1000000000000):Fit g d N :=
 ⟨by rw[h.Ap];decide,by rw[h.at_];decide,by rw[h.short];decide,h.s1,h.s2,fun o a=>(by rw[h.Ap] at a;cases a),b,h.m2⟩
theorem BD.aim {d:Ay}(h:BD g d N e):({ d with left:= -1,full:= -1,down:=false }:Ay)=d:=by
 obtain⟨CJ,now,Ap,left,full,down⟩:=d;have a:=h.left;have b:=h.full;have c:=h.down;simp only at a b c;rw[a,b,c]
theorem BD.add {d:Ay}{e0 j:Ab}(h:BD g d N e0)(hl:l.length<=900100)(x:Ew e0 l j):Ea g d l=0/\(CO g d l).down=false/\BD (FH g d l) (CO g d l).calm (N+1000000) j:=by
 obtain⟨CJ,now,Ap,left,full,down⟩:=d;obtain⟨at_,short,err⟩:=g;obtain⟨k,m,n,o,p,q,r,s,t,v,c,i,a,b⟩:=h;simp only at k m n o p q r s t a b;subst k m n o p q r;have u:∀(f:BG),Hr f N->Hr (Ez f ⟨2,0,Zcx 0 l⟩) (N+1000000):=fun f hf=>hf.do_ _ (by simp only[Zcx,ZX,List.length_replicate,Zeh];omega)
 refine⟨by simp[Ea,AS.op,Ay.BW,Ay.Bx,Ay.told,Ay.wrote,wI],by simp[CO,AS.op,Ay.BW,Ay.Bx,Ay.told,Ay.wrote,Ay.synced,wI],?_⟩;refine⟨by simp[FH,AS.op,Ay.BW,Ay.Bx,Ay.told,Ay.wrote,wI],by simp[FH,AS.op,Ay.BW,Ay.Bx,Ay.told,Ay.wrote,wI],by simp[FH,AS.op,Ay.BW,Ay.Bx,Ay.told,Ay.wrote,wI],by simp[Ay.calm,CO,AS.op,Ay.BW,Ay.Bx,Ay.told,Ay.wrote,Ay.synced,wI],rfl,rfl,rfl,?_,?_,by omega,c++[l],i.snoc x,?_,?_⟩
 ·have e:(CO ⟨0,0,0⟩ ⟨CJ,now,[],-1,-1,false⟩ l).calm.CJ=Ez CJ ⟨2,0,Zcx 0 l⟩:=by simp[Ay.calm,CO,AS.op,Ay.BW,Ay.Bx,Ay.told,Ay.wrote,Ay.synced,wI]
  rw[e];exact u _ s
 ·have e:(CO ⟨0,0,0⟩ ⟨CJ,now,[],-1,-1,false⟩ l).calm.now=Ez now ⟨2,0,Zcx 0 l⟩:=by simp[Ay.calm,CO,AS.op,Ay.BW,Ay.Bx,Ay.told,Ay.wrote,Ay.synced,wI]
  rw[e];exact u _ t
 ·have e:(CO ⟨0,0,0⟩ ⟨CJ,now,[],-1,-1,false⟩ l).calm.CJ=Ez CJ ⟨2,0,Zcx 0 l⟩:=by simp[Ay.calm,CO,AS.op,Ay.BW,Ay.Bx,Ay.told,Ay.wrote,Ay.synced,wI]
  rw[e,a,Lz]
 ·have e:(CO ⟨0,0,0⟩ ⟨CJ,now,[],-1,-1,false⟩ l).calm.now=Ez now ⟨2,0,Zcx 0 l⟩:=by simp[Ay.calm,CO,AS.op,Ay.BW,Ay.Bx,Ay.told,Ay.wrote,Ay.synced,wI]
  rw[e,b,Lz]
theorem BD.add0 {d:Ay}{e0:Ab}(h:BD g d N e0):Ea g d l=0:=by
 obtain⟨CJ,now,Ap,left,full,down⟩:=d;obtain⟨at_,short,err⟩:=g;obtain⟨a,b,c,f,i,j,k,n,o,m,_⟩:=h;simp only at a b c f i j k;subst a b c f i j k;simp[Ea,AS.op,Ay.BW,Ay.Bx,Ay.told,Ay.wrote,wI]
theorem BD.calm {d:Ay}(h:BD g d N e):BD g d.calm (N+1000000) e:=by
 have e:d.calm=d:=h.aim;rw[e];exact⟨h.err,h.at_,h.short,h.Ap,h.left,h.full,h.down,h.s1.mono (by omega),h.s2.mono (by omega),by have:=h.m2;omega,h.log⟩
theorem AK.aim {d:Ay}(h:AK w P B R D bd bn ob g d e)(b:Ax w w' D){o:Nat}{L F:Int}{z:Bool}(hw:w.ownsRow R 210 3 (.slice pa d.Ap.length o) d.Ap.length (d.Ap.flatMap IV))(t:CF w D bd bn (.slice pa d.Ap.length o) d.left d.full d.down)(H:CF w' D bd bn (.slice pa d.Ap.length o) L F z):AK w' P B R D bd bn ob g { d with left:=L,full:=F,down:=z } e:=by
 obtain⟨K,M⟩:=h.pl;have I:=h.ne.l.gl;have n:P<w.heap.size:=by omega
 have q:=h.ne.l.d;obtain⟨rs,l,u,J⟩:=h.kp;have nf:=NF.RP (LF.of_df (DF.CM (R:=R) (bd:=bd) (bn:=bn) b (Zu rfl)) n h.ne.l) h.ne;obtain⟨E,f3⟩:=h.dk.fd;obtain⟨G,f4⟩:=h.dk.fn
 have hm:∀p f v,AB w p f v->p≠D:=fun p f v u m=>by
  obtain⟨es,c,j,_⟩:=u.own;rw[m,t.Au] at j;cases j
 have C:∀k s,Zde w k s->w'.heap[k]? =w.heap[k]? :=fun k s m=>b.block k (Zaa m) (fun y=>by
  have j:=t.Au;unfold Zde at m;rw[<-y,m] at j;simp only[Option.some.injEq,Obj.cells.injEq] at j;exact absurd j.2.1 (by decide))
 refine⟨⟨rs,l,u.side nf,J⟩,h.log.at_ (b.block P n q),⟨Zv h.dk.rs b.size,⟨pa,o,H,hw.1,?_⟩,⟨E,f3.Et (b.block bd f3.lt (hm _ _ _ f3)) C⟩,⟨G,f4.Et (b.block bn f4.lt (hm _ _ _ f4)) C⟩,h.dk.ne,h.dk.Bs,h.dk.ops⟩,fun i hi=> ?_,h.Je.at_ (b.block _ (by omega) (by omega)),h.ne⟩
 ·rcases hw.2 with x | ⟨A,cap,cur,x,hg,hh,r⟩
  ·exact Zu x
  ·exact Zj ⟨A,cap,cur,x,hg,(b.block A (Zaa hh) (Zai hh t.Au (by decide))).trans hh,r⟩
 ·have e:=b.block 1 (by omega) (by omega)
  exact (World.cell?_of_block (a:=⟨1,i,none⟩) e).trans (h.nm i hi)
theorem EF.oneD (h:EF w w1 P B R D bd bn ob)(a:Ax w1 w' D):EF w w' P B R D bd bn ob :=
 ⟨a.os.trans h.os,a.tape.trans h.tape,a.output.trans h.output,Zv h.size a.size,fun k c d b f i j m=>(a.block k (Zy c h.size) b).trans (h.block k c d b f i j m)⟩
theorem EF.Cx {k:Nat}{t:TypeId}(h:EF w w' P B R D bd bn ob)(e:w.heap[k]? =some (.cells cs t fr))(b:k≠P/\k≠D/\k≠bd/\k≠bn)(a:t≠210/\t≠288/\t≠274/\t≠266/\t≠272/\t≠276/\t≠27):w'.heap[k]? =some (.cells cs t fr) :=
 (h.block k (Zaa e) b.1 b.2.1 b.2.2.1 b.2.2.2 (Zj fun c d e'=>by rw[e] at e';simp only[Option.some.injEq,Obj.cells.injEq] at e';exact a.1 e'.2.1) (Zj ⟨cs,t,fr,e,a.2.1,a.2.2.1,a.2.2.2.1,a.2.2.2.2.1,a.2.2.2.2.2.1,fun x=>absurd x a.2.2.2.2.2.2⟩)).trans e
structure Bd (w:World)(hb P B R D bd bn:Nat)(ob:Option Nat)(N:Nat)(e:Ab):Prop where
 ex:∃g d,AK w P B R D bd bn ob g d e/\BD g d N e
 host:Bm w hb D (.pointer (some ⟨P,0,none⟩))
 err:Az w
 ne:HNe hb P B R D bd bn
theorem EF.host {a:Value}(h:EF w w' P B R D bd bn ob)(n:HNe hb P B R D bd bn)(hh:Bm w hb D a):Bm w' hb D a :=
 hh.at_ (h.block hb (Zaa hh.Au) n.p n.d n.md n.mn (Zu n.r) (Zu n.b))
theorem EF.err (h:EF w w' P B R D bd bn ob)(n:KNe P B R D bd bn)(he:Az w):Az w':=by
 have b:=n.l.gl;have c:=n.p;have d:=n.l.r;have hb:0<w.heap.size:=World.block_lt_of_cell? _ _ he;exact (World.cell?_of_block (a:=⟨0,0,none⟩) (h.block 0 hb (by omega) (by omega) (by omega) (by omega) (Zu (by omega)) (Zu (by omega)))).trans he
theorem Zdm (w:World)(hb P B R D bd bn N:Nat)(ob:Option Nat)(g:AS)(d:Ay)(e:Ab)(f:Value)(c q:Int)(h:AK w P B R D bd bn ob g d e)(ws:BD g d N e)(hh:Bm w hb D f) :
  Calls prog 34 #[.pointer (some ⟨hb,0,none⟩),Zbl (-1) (-1) c q] w fun x w'=>x= .returned (.tuple #[])/\AK w' P B R D bd bn ob g d e/\Ax w w' D:=by
 obtain⟨pa,m,q1,k⟩:=h.dk.c;refine (FY w hb D bd bn _ f d.left d.full d.down (-1) (-1) c q hh q1).mono ?_;rintro x w' ⟨rfl,j,a⟩;have b:=h.aim a k q1 j;have i:({ d with left:= -1,full:= -1,down:=d.down }:Ay)=d:=by rw[ws.down];exact ws.aim
 rw[i] at b;exact⟨rfl,b,a⟩
theorem Zc4 (w:World)(hb P B R D bd bn:Nat)(ob:Option Nat)(g:AS)(d:Ay)(e:Ab)(j:Value)(a b c q:Int)(h:AK w P B R D bd bn ob g d e)(f:d.down=false)(hh:Bm w hb D j) :
  Calls prog 36 #[.pointer (some ⟨hb,0,none⟩),Zbl a b c q] w fun x w'=>x= .returned (.tuple #[])/\AK w' P B R D bd bn ob g d.calm e/\Ax w w' D:=by
 obtain⟨pa,n,q1,m⟩:=h.dk.c;refine (Sm w hb D bd bn _ j d.left d.full a b c q hh (by rw[<-f];exact q1)).mono ?_;rintro x w' ⟨rfl,k,i⟩;exact⟨rfl,h.aim i m q1 k,i⟩
structure AO (w w1:World)(hb P B R D bd bn fb:Nat)(ob0 ob:Option Nat)(g:AS)(d:Ay)(e:Ab)(fa fo fk fp:Int):Prop where
 Fk:AK w1 P B R D bd bn ob g d e
 host:Bm w1 hb D (.pointer (some ⟨P,0,none⟩))
 err:Az w1
 ef:EF w w1 P B R D bd bn ob0
 MY:As w ob0 ob
 fb:w1.heap[fb]? =some (.cells #[.int .i64 fa, .int .i64 fo, .int .i64 fk, .int .i64 fp] 35 (0,0))
theorem AO.cells {a:Option Nat}{d:Ay}(h:AO w w1 hb P B R D bd bn fb a ob g d e fa fo fk fp):(((w1.cell? ⟨fb,0,none⟩=some (.int .i64 fa)/\w1.cell? ⟨fb,1,none⟩=some (.int .i64 fo))/\w1.cell? ⟨fb,2,none⟩=some (.int .i64 fk))/\w1.cell? ⟨fb,3,none⟩=some (.int .i64 fp))/\w1.cell? ⟨hb,1,none⟩=some (.pointer (some ⟨P,0,none⟩)):=by
 refine⟨⟨⟨⟨?_,?_⟩,?_⟩,?_⟩,h.host.cells.2⟩<;>(unfold World.cell?;rw[h.fb];rfl)
theorem AO.new {d:Ay}{N:Nat}(h:AK w P B R D bd bn ob g d e)(hh:Bm w hb D (.pointer (some ⟨P,0,none⟩)))(he:Az w)(fa fo fk fp:Int){b:World}(hw:Below w.heap.size w b):AO w (b.alloc (.cells #[.int .i64 fa, .int .i64 fo, .int .i64 fk, .int .i64 fp] 35)) hb P B R D bd bn b.heap.size ob ob g d e fa fo fk fp:=by
 have a:Below w.heap.size w (b.alloc (.cells #[.int .i64 fa, .int .i64 fo, .int .i64 fk, .int .i64 fp] 35)):=hw.alloc hw.size _;exact⟨h.below a,hh.at_ (a.block hb (Zaa hh.Au)),he.Aj a,EF.Ae P B R D bd bn ob a,As.refl _ _,heap_alloc_new _ _⟩
theorem AO.below {b:Option Nat}{d:Ay}(h:AO w w1 hb P B R D bd bn fb b ob g d e fa fo fk fp)(a:Below w1.heap.size w1 w2):AO w w2 hb P B R D bd bn fb b ob g d e fa fo fk fp :=
 ⟨h.Fk.below a,h.host.at_ (a.block hb (Zaa h.host.Au)),h.err.Aj a,h.ef.trans (EF.Ae P B R D bd bn b a) (As.refl _ _),h.MY,(a.block fb (Zaa h.fb)).trans h.fb⟩
theorem AK.Jr {d:Ay}(h:AK w P B R D bd bn ob g d e)(hf:w.heap[fb]? =some (.cells cs 35 fr)):fb≠D/\fb≠bd/\fb≠bn:=by
 obtain⟨pa,o,dk,_⟩:=h.dk.c;obtain⟨m,f3⟩:=h.dk.fd;obtain⟨n,f4⟩:=h.dk.fn
 have hm:∀a f b,AB w a f b->fb≠a:=fun a f b k j=>by
  obtain⟨es,c,i,_⟩:=k.own;rw[<-j,hf] at i;cases i
 exact⟨Zai hf dk.Au (by decide),hm _ _ _ f3,hm _ _ _ f4⟩
theorem AO.one {a:Option Nat}{d d':Ay}(h:AO w w1 hb P B R D bd bn fb a ob g d e fa fo fk fp)(n:HNe hb P B R D bd bn)(f:AK w2 P B R D bd bn ob g d' e)(b:Ax w1 w2 D):AO w w2 hb P B R D bd bn fb a ob g d' e fa fo fk fp:=by
 have c:EF w1 w2 P B R D bd bn a:=(EF.Ae P B R D bd bn a (Zk _ _)).oneD b;exact⟨f,h.host.at_ (b.block hb (Zaa h.host.Au) n.d),c.err h.Fk.ne h.err,h.ef.oneD b,h.MY,(b.block fb (Zaa h.fb) (h.Fk.Jr h.fb).1).trans h.fb⟩
theorem AO.call {b a:Option Nat}{f:AS}{d d':Ay}{e':Ab}(h:AO w w1 hb P B R D bd bn fb b ob g d e fa fo fk fp)(n:HNe hb P B R D bd bn)(i:AK w2 P B R D bd bn a f d' e')(o:As w1 ob a)(hf:EF w1 w2 P B R D bd bn ob):AO w w2 hb P B R D bd bn fb b a f d' e' fa fo fk fp:=by
 have j:fb≠P:=fun x=>by
  have c:=h.fb;have c1:=h.Fk.log.c1;rw[<-x] at c1;have c2:w1.cell? ⟨fb,1,none⟩=some (.int .i64 fo):=by unfold World.cell?;rw[c];rfl
  have c0:=h.Fk.log.c0;rw[<-x] at c0;have c3:w1.cell? ⟨fb,0,none⟩=some (.int .i64 fa):=by unfold World.cell?;rw[c];rfl
  rw[c3] at c0;exact absurd c0 (by simp[Bw])
 obtain⟨p,q,r⟩:=h.Fk.Jr h.fb;refine⟨i,hf.host n h.host,hf.err h.Fk.ne h.err,h.ef.trans hf h.MY,fun k m=> ?_,hf.Cx h.fb ⟨j,p,q,r⟩ (by decide)⟩;rcases o k m with y | y
 ·exact h.MY k y
 ·exact Zj (Zv h.ef.size y)
def Jm (er:Int)(r:Option Ab):Int:=if r.isSome then 0 else er
theorem JG.Rf {c:AS}{d d':Ay}{e':Ab}{b v:Int}{r:Option Ab}(h:JG g d e l b r v c d' e')(ws:BD g d N e)(hl:l.length<=900100)(hrec:∀a,r=some a->Ew e l a):v=Jm b r/\e'=r.getD e/\d'.down=false/\BD c d'.calm (N+1000000) (r.getD e):=by
 rcases h with⟨rfl,rfl,rfl,rfl,rfl⟩ | ⟨a,rfl,rfl,rfl,rfl,rfl⟩
 ·exact⟨rfl,rfl,ws.down,ws.calm⟩
 ·obtain⟨f,i,j⟩:=ws.add hl (hrec a rfl)
  exact⟨f,by rw[if_pos f];rfl,i,j⟩
theorem Ox (w:World)(hb P B R D bd bn N:Nat)(ob:Option Nat)(e:Ab)(n:Nat)(h:Bd w hb P B R D bd bn ob N e)(ok:Ak e)(AQ:AD e)(H:N<=1000000000000)(hn:n<18446744073709551616) :
  Calls prog 26 #[.pointer (some ⟨hb,0,none⟩), .int .i64 4, .int .u64 n,Zbl (-1) (-1) 0 0] w fun x w'=>∃a,x= .returned (.int .i64 (Jm 7 (e.complete n)))/\Bd w' hb P B R D bd bn a (N+1000000) ((e.complete n).getD e)/\As w ob a/\EF w w' P B R D bd bn ob:=by
 obtain⟨g,d,G,ws⟩:=h.ex;have c:=h.ne;have hlen:(AX 4 [] n).length<=900100:=by have:=(Zdu (op:=4) (data:=[]) hn).2;simp at this;omega
 obtain⟨fb,p⟩:∃fb,fb=w.heap.size:=⟨_,rfl⟩;obtain⟨w1,q⟩:∃w1,w1=w.alloc (.cells #[.int .i64 (-1), .int .i64 (-1), .int .i64 0, .int .i64 0] 35):=⟨_,rfl⟩;have t:=Zz (show AO w w1 hb P B R D bd bn fb ob ob g d e (-1) (-1) 0 0 from by rw[q,p];exact AO.new (N:=N) G h.host h.err _ _ _ _ (Zk _ _))
 have k:=Zz (show Calls prog 34 #[.pointer (some ⟨hb,0,none⟩),Zbl (-1) (-1) 0 0] w1 fun x w'=>x= .returned (.tuple #[])/\AO w w' hb P B R D bd bn fb ob ob g d e (-1) (-1) 0 0 from by
  refine (Zdm w1 hb P B R D bd bn N ob g d e _ 0 0 t.o.Fk ws t.o.host).mono ?_;rintro x w' ⟨rfl,q1,r⟩;exact⟨rfl,t.o.one c q1 r⟩)
 have m:=Zz (show ∀w2,AO w w2 hb P B R D bd bn fb ob ob g d e (-1) (-1) 0 0->Calls prog 68 #[.pointer (some ⟨P,0,none⟩), .int .u64 n] w2 fun x w'=>∃v f d' a,x= .returned (AH v)/\v=Jm 7 (e.complete n)/\d'.down=false/\BD f d'.calm (N+1000000) ((e.complete n).getD e)/\AO w w' hb P B R D bd bn fb ob a f d' ((e.complete n).getD e) (-1) (-1) 0 0 from fun w2 b=>by
  refine (Lc w2 P B R D bd bn N ob g d e n b.Fk ok AQ (ws.fit H) hn).mono ?_;rintro x w' ⟨v,f,d',e',a,rfl,q1,r,L,M⟩;obtain⟨r1,r2,O,Q⟩:=q1.Rf ws hlen (fun S he=> .complete hn he);rw[r2] at r;exact⟨v,f,d',a,rfl,r1,O,Q,b.call c r L M⟩)
 have j:=Zz (show ∀A f d' a,d'.down=false->AO w A hb P B R D bd bn fb ob a f d' ((e.complete n).getD e) (-1) (-1) 0 0->Calls prog 36 #[.pointer (some ⟨hb,0,none⟩),Zbl (-1) (-1) 0 0] A fun x w'=>x= .returned (.tuple #[])/\AO w w' hb P B R D bd bn fb ob a f d'.calm ((e.complete n).getD e) (-1) (-1) 0 0 from fun A f d' a i b=>by
  refine (Zc4 A hb P B R D bd bn a f d' _ _ _ _ 0 0 b.Fk i b.host).mono ?_;rintro x w' ⟨rfl,q1,r⟩;exact⟨rfl,b.one c q1 r⟩)
 have E:=Zz (Zq q (Zq p c));have T:=h.host.cells.2;have K:w1.cell? ⟨hb,1,none⟩=some (.pointer (some ⟨P,0,none⟩)):=t.o.host.cells.2;obtain⟨I,y⟩:∃I,I=Jm 7 (e.complete n):=⟨_,rfl⟩;unfold Zbl at k j ⊢;rw[<-y] at m ⊢;clear h ok AQ H hn G ws c hlen q p y
 go_enter func26,ntmps26
 go_upto_region 1 with fail
 rw[<-E.o.1,<-E.o.2.1];have a0:=t.o.cells;obtain⟨⟨⟨⟨z0,z1⟩,z2⟩,z3⟩,z4⟩:=a0
 go_wp2_with (first
  | (go_at_call 34;refine k.o.mono ?_;rintro _ w2 ⟨rfl,b⟩;have J:=Zz b;obtain⟨⟨⟨⟨y0,y1⟩,y2⟩,y3⟩,y4⟩:=b.cells;clear b)
  | (go_at_call 68;refine (m.o _ J.o).mono ?_;rintro _ A ⟨v,f,d',a,rfl,rfl,i,z,b⟩;have C:=Zz (Zq b (Zq i z));obtain⟨⟨⟨⟨V,W⟩,X⟩,Y⟩,Z⟩:=b.cells;clear b i z)
  | (go_at_call 36;refine (j.o _ _ _ _ C.o.2.1 C.o.1).mono ?_;rintro _ w4 ⟨rfl,b⟩;have F:=Zz b;clear b)
  | (go_at_call 37;refine (Zch _ w4 F.o.err).mono ?_;rintro _ U ⟨rfl,u⟩;have s:=Zz (F.o.below u);clear u))
 go_ret
 exact⟨a,rfl,⟨⟨_,_,s.o.Fk,C.o.2.2⟩,s.o.host,s.o.err,E.o.2.2⟩,s.o.MY,s.o.ef⟩
theorem Oy (w:World)(hb P B R D bd bn N:Nat)(ob:Option Nat)(e:Ab)(n:Nat)(h:Bd w hb P B R D bd bn ob N e)(ok:Ak e)(AQ:AD e)(H:N<=1000000000000)(hn:n<18446744073709551616) :
  Calls prog 26 #[.pointer (some ⟨hb,0,none⟩), .int .i64 5, .int .u64 n,Zbl (-1) (-1) 0 0] w fun x w'=>∃a,x= .returned (.int .i64 (Jm 7 (e.fail n)))/\Bd w' hb P B R D bd bn a (N+1000000) ((e.fail n).getD e)/\As w ob a/\EF w w' P B R D bd bn ob:=by
 obtain⟨g,d,G,ws⟩:=h.ex;have c:=h.ne;have hlen:(AX 5 [] n).length<=900100:=by have:=(Zdu (op:=5) (data:=[]) hn).2;simp at this;omega
 obtain⟨fb,p⟩:∃fb,fb=w.heap.size:=⟨_,rfl⟩;obtain⟨w1,q⟩:∃w1,w1=w.alloc (.cells #[.int .i64 (-1), .int .i64 (-1), .int .i64 0, .int .i64 0] 35):=⟨_,rfl⟩;have t:=Zz (show AO w w1 hb P B R D bd bn fb ob ob g d e (-1) (-1) 0 0 from by rw[q,p];exact AO.new (N:=N) G h.host h.err _ _ _ _ (Zk _ _))
 have k:=Zz (show Calls prog 34 #[.pointer (some ⟨hb,0,none⟩),Zbl (-1) (-1) 0 0] w1 fun x w'=>x= .returned (.tuple #[])/\AO w w' hb P B R D bd bn fb ob ob g d e (-1) (-1) 0 0 from by
  refine (Zdm w1 hb P B R D bd bn N ob g d e _ 0 0 t.o.Fk ws t.o.host).mono ?_;rintro x w' ⟨rfl,q1,r⟩;exact⟨rfl,t.o.one c q1 r⟩)
 have m:=Zz (show ∀w2,AO w w2 hb P B R D bd bn fb ob ob g d e (-1) (-1) 0 0->Calls prog 69 #[.pointer (some ⟨P,0,none⟩), .int .u64 n] w2 fun x w'=>∃v f d' a,x= .returned (AH v)/\v=Jm 7 (e.fail n)/\d'.down=false/\BD f d'.calm (N+1000000) ((e.fail n).getD e)/\AO w w' hb P B R D bd bn fb ob a f d' ((e.fail n).getD e) (-1) (-1) 0 0 from fun w2 b=>by
  refine (SB w2 P B R D bd bn N ob g d e n b.Fk ok AQ (ws.fit H) hn).mono ?_;rintro x w' ⟨v,f,d',e',a,rfl,q1,r,L,M⟩;obtain⟨r1,r2,O,Q⟩:=q1.Rf ws hlen (fun S he=> .fail hn he);rw[r2] at r;exact⟨v,f,d',a,rfl,r1,O,Q,b.call c r L M⟩)
 have j:=Zz (show ∀A f d' a,d'.down=false->AO w A hb P B R D bd bn fb ob a f d' ((e.fail n).getD e) (-1) (-1) 0 0->Calls prog 36 #[.pointer (some ⟨hb,0,none⟩),Zbl (-1) (-1) 0 0] A fun x w'=>x= .returned (.tuple #[])/\AO w w' hb P B R D bd bn fb ob a f d'.calm ((e.fail n).getD e) (-1) (-1) 0 0 from fun A f d' a i b=>by
  refine (Zc4 A hb P B R D bd bn a f d' _ _ _ _ 0 0 b.Fk i b.host).mono ?_;rintro x w' ⟨rfl,q1,r⟩;exact⟨rfl,b.one c q1 r⟩)
 have E:=Zz (Zq q (Zq p c));have T:=h.host.cells.2;have K:w1.cell? ⟨hb,1,none⟩=some (.pointer (some ⟨P,0,none⟩)):=t.o.host.cells.2;obtain⟨I,y⟩:∃I,I=Jm 7 (e.fail n):=⟨_,rfl⟩;unfold Zbl at k j ⊢;rw[<-y] at m ⊢;clear h ok AQ H hn G ws c hlen q p y
 go_enter func26,ntmps26
 go_upto_region 1 with fail
 rw[<-E.o.1,<-E.o.2.1];have a0:=t.o.cells;obtain⟨⟨⟨⟨z0,z1⟩,z2⟩,z3⟩,z4⟩:=a0
 go_wp2_with (first
  | (go_at_call 34;refine k.o.mono ?_;rintro _ w2 ⟨rfl,b⟩;have J:=Zz b;obtain⟨⟨⟨⟨y0,y1⟩,y2⟩,y3⟩,y4⟩:=b.cells;clear b)
  | (go_at_call 69;refine (m.o _ J.o).mono ?_;rintro _ A ⟨v,f,d',a,rfl,rfl,i,z,b⟩;have C:=Zz (Zq b (Zq i z));obtain⟨⟨⟨⟨V,W⟩,X⟩,Y⟩,Z⟩:=b.cells;clear b i z)
  | (go_at_call 36;refine (j.o _ _ _ _ C.o.2.1 C.o.1).mono ?_;rintro _ w4 ⟨rfl,b⟩;have F:=Zz b;clear b)
  | (go_at_call 37;refine (Zch _ w4 F.o.err).mono ?_;rintro _ U ⟨rfl,u⟩;have s:=Zz (F.o.below u);clear u))
 go_ret
 exact⟨a,rfl,⟨⟨_,_,s.o.Fk,C.o.2.2⟩,s.o.host,s.o.err,E.o.2.2⟩,s.o.MY,s.o.ef⟩
theorem Oz (w:World)(hb P B R D bd bn N:Nat)(ob:Option Nat)(e:Ab)(n:Nat)(h:Bd w hb P B R D bd bn ob N e)(ok:Ak e)(AQ:AD e)(J:N<=1000000000000)(hn:n<18446744073709551616) :
  Calls prog 26 #[.pointer (some ⟨hb,0,none⟩), .int .i64 7, .int .u64 n,Zbl (-1) (-1) 0 0] w fun x w'=>∃a c,x= .returned (.int .i64 0)/\BU e n c/\Bd w' hb P B R D bd bn a (N+1000000) c/\As w ob a/\EF w w' P B R D bd bn ob:=by
 obtain⟨g,d,I,ws⟩:=h.ex;have f:=h.ne;have hlen:(AX 7 [] n).length<=900100:=by have:=(Zdu (op:=7) (data:=[]) hn).2;simp at this;omega
 obtain⟨fb,p⟩:∃fb,fb=w.heap.size:=⟨_,rfl⟩;obtain⟨w1,q⟩:∃w1,w1=w.alloc (.cells #[.int .i64 (-1), .int .i64 (-1), .int .i64 0, .int .i64 0] 35):=⟨_,rfl⟩;have u:=Zz (show AO w w1 hb P B R D bd bn fb ob ob g d e (-1) (-1) 0 0 from by rw[q,p];exact AO.new (N:=N) I h.host h.err _ _ _ _ (Zk _ _))
 have m:=Zz (show Calls prog 34 #[.pointer (some ⟨hb,0,none⟩),Zbl (-1) (-1) 0 0] w1 fun x w'=>x= .returned (.tuple #[])/\AO w w' hb P B R D bd bn fb ob ob g d e (-1) (-1) 0 0 from by
  refine (Zdm w1 hb P B R D bd bn N ob g d e _ 0 0 u.o.Fk ws u.o.host).mono ?_;rintro x w' ⟨rfl,q1,r⟩;exact⟨rfl,u.o.one f q1 r⟩)
 have y:=Zz (show ∀w2,AO w w2 hb P B R D bd bn fb ob ob g d e (-1) (-1) 0 0->Calls prog 71 #[.pointer (some ⟨P,0,none⟩), .int .u64 n] w2 fun x w'=>∃v i d' a c,x= .returned (AH v)/\v=0/\BU e n c/\d'.down=false/\BD i d'.calm (N+1000000) c/\AO w w' hb P B R D bd bn fb ob a i d' c (-1) (-1) 0 0 from fun w2 b=>by
  refine (SH w2 P B R D bd bn N ob g d e n b.Fk ok AQ (ws.fit J) hn).mono ?_;rintro x w' ⟨v,i,d',e',a,rfl,⟨c,t,rfl,rfl,rfl,rfl⟩,r,O,Q⟩;have r1:=ws.add0 (l:=AX 7 [] n);obtain⟨_,S,T⟩:=ws.add hlen (.tick hn (t r1));rw[if_pos r1] at r;exact⟨_,_,_,a,c,rfl,r1,t r1,S,T,b.call f r O Q⟩)
 have k:=Zz (show ∀C i d' a (c:Ab),d'.down=false->AO w C hb P B R D bd bn fb ob a i d' c (-1) (-1) 0 0->Calls prog 36 #[.pointer (some ⟨hb,0,none⟩),Zbl (-1) (-1) 0 0] C fun x w'=>x= .returned (.tuple #[])/\AO w w' hb P B R D bd bn fb ob a i d'.calm c (-1) (-1) 0 0 from fun C i d' a c j b=>by
  refine (Zc4 C hb P B R D bd bn a i d' _ _ _ _ 0 0 b.Fk j b.host).mono ?_;rintro x w' ⟨rfl,q1,r⟩;exact⟨rfl,b.one f q1 r⟩)
 have F:=Zz (Zq q (Zq p f));have U:=h.host.cells.2;have M:w1.cell? ⟨hb,1,none⟩=some (.pointer (some ⟨P,0,none⟩)):=u.o.host.cells.2;unfold Zbl at m k ⊢;clear h ok AQ J hn I ws f hlen q p
 go_enter func26,ntmps26
 go_upto_region 1 with fail
 rw[<-F.o.1,<-F.o.2.1];have a0:=u.o.cells;obtain⟨⟨⟨⟨z0,z1⟩,z2⟩,z3⟩,z4⟩:=a0
 go_wp2_with (first
  | (go_at_call 34;refine m.o.mono ?_;rintro _ w2 ⟨rfl,b⟩;have L:=Zz b;obtain⟨⟨⟨⟨y0,y1⟩,y2⟩,y3⟩,y4⟩:=b.cells;clear b)
  | (go_at_call 71;refine (y.o _ L.o).mono ?_;rintro _ C ⟨v,i,d',a,c,rfl,rfl,K,j,A,b⟩;have E:=Zz (Zq b (Zq j A));have G:=Zz K;obtain⟨⟨⟨⟨W,X⟩,Y⟩,Z⟩,x4⟩:=b.cells;clear b j A K)
  | (go_at_call 36;refine (k.o _ _ _ _ _ E.o.2.1 E.o.1).mono ?_;rintro _ w4 ⟨rfl,b⟩;have H:=Zz b;clear b)
  | (go_at_call 37;refine (Zch _ w4 H.o.err).mono ?_;rintro _ V ⟨rfl,z⟩;have s:=Zz (H.o.below z);clear z))
 go_ret
 exact⟨a,c,rfl,G.o,⟨⟨_,_,s.o.Fk,E.o.2.2⟩,s.o.host,s.o.err,F.o.2.2⟩,s.o.MY,s.o.ef⟩
end Go.Proofs.YtgdcjccbdmcebaaGreatDoor
