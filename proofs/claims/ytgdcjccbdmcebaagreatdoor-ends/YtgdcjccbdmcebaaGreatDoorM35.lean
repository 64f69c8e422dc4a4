import Derived.Test.YtgdcjccbdmcebaaGreatDoorM34
import Derived.Laws.BitsAllLaws
import Derived.Lib.AppendStr
set_option linter.unusedSimpArgs false
set_option linter.unusedVariables false
set_option maxHeartbeats 8000000
set_option maxRecDepth 100000
open Go.Proofs.Tryz
namespace Go.Proofs.YtgdcjccbdmcebaaGreatDoor
open Go.RowKit
attribute [local go_sem ↓] Go.wp_at_zero Go.wp_at_succ
variable {w w':World}{D bd bn P R i:Nat}{d:Ay}{cs:Array Value}{pa:Option Addr}
structure DFb (w w':World)(R D bd bn g:Nat):Prop where
 os:w'.os=w.os
 tape:w'.tape=w.tape
 output:w'.output=w.output
 size:w.heap.size<=w'.heap.size
 block:∀k,k<w.heap.size->k≠D->k≠bd->k≠bn->k≠g->(k<R\/∀cs fr,w.heap[k]? ≠some (.cells cs 210 fr))->w'.heap[k]? =w.heap[k]?
theorem Av.one {g:Nat}(h:Av w R D bd bn d)(a:Ax w w' g){fr:Nat×Nat}(hg:w.heap[g]? =some (.cells cs 5 fr)):Av w' R D bd bn d:=by
 obtain⟨pa,s,q1,_⟩:=h.c;obtain⟨q,m⟩:=h.fd;obtain⟨r,n⟩:=h.fn
 have hm:∀b f j,AB w b f j->b≠g:=fun b f j p e=>by
  obtain⟨es,c,l,_⟩:=p.own;rw[e,hg] at l;cases l
 exact h.Aj a.size (a.block D (Zaa q1.Au) (Zai q1.Au hg (by decide))) (a.block bd m.lt (hm _ _ _ m)) (a.block bn n.lt (hm _ _ _ n)) (fun k cs t fr e o=>a.block k (Zaa e) (Zai e hg (by rcases o with rfl | rfl<;>decide)))
theorem UR (w:World)(R D bd bn B0 g c:Nat)(d:Ay)(o:Jp)(h:Av w R D bd bn d)(hf:d.Ap.length<8)(N:o.at_<3)(y:o.kind=1\/o.kind=2)(O:∀s,d.now o.at_=some s->s.length+o.data.length<=9223372036854775807)(v:Al B0 w (.slice (some ⟨g,0,none⟩) o.data.length c) o.data)(hl:o.data.length<=1099511627776) :
  Calls prog 322 #[.pointer (some ⟨D,0,none⟩), .int .i64 o.kind, .string (Da o.at_), .slice (some ⟨g,0,none⟩) o.data.length c] w fun x w'=>x= .returned (AH (d.BW o))/\Av w' R D bd bn (d.told o)/\DFb w w' R D bd bn g:=by
 have j:o.kind=1\/o.kind=2\/o.kind=3:=by rcases y with h | h;exact Zu h;exact Zj (Zu h)
 have E:=Zz (Xh w R D bd bn d o h hf ⟨N,j⟩ O);obtain⟨nm,q⟩:∃nm,nm=Da o.at_:=⟨_,rfl⟩;obtain⟨sd,t⟩:∃sd,sd=Zbm o.data:=⟨_,rfl⟩;obtain⟨Q,p⟩:∃Q,Q=o.kind:=⟨_,rfl⟩;obtain⟨n,hn⟩:∃n,n=o.data.length:=⟨_,rfl⟩;obtain⟨M,m⟩:∃M,M=AH (d.BW o):=⟨_,rfl⟩
 have G:(convert 112 9 (.slice (some ⟨g,0,none⟩) n c)).run prog w= .ok (.string sd) w:=by
  rw[hn,t];exact FP (fun k y=>World.ownsRow.cellAt v k (by omega))
 have T:=Zz (Zq q (Zq t (Zq p (Zq hn m))));have C:=Zz (Zq v h);unfold opV at E;rw[<-q,<-t,<-p,<-m] at E;rw[<-q,<-p,<-hn,<-m];rw[<-hn] at hl;clear h q t p hn v O j y N hf m
 go_enter func322,ntmps322
 go_wp2_with (go_at_call 324;refine E.o.mono ?_;rintro _ I ⟨rfl,B,b⟩;have H1:=Zz (Zq B b);clear B b)
 have K:=Zz (show I.ownsRow B0 5 1 (.slice (some ⟨g,0,none⟩) n c) n (bv o.data) by
  have v:=C.o.1;unfold Al at v;rw[<-T.o.2.2.2.1] at v;refine⟨v.1,?_⟩;rcases v.2 with x | ⟨A,cap,cur,x,hg,hh,r⟩
  ·exact Zu x
  ·obtain⟨pa,pc,q1,_⟩:=C.o.2.c
   obtain⟨X,V⟩:=C.o.2.fd;obtain⟨Y,W⟩:=C.o.2.fn
   have hm:∀F f J,AB w F f J->A≠F:=fun F f J U e=>by
    obtain⟨es,c,L,_⟩:=U.own;rw[<-e,hh] at L;cases L
   exact Zj ⟨A,cap,cur,x,hg,(H1.o.2.block A (Zaa hh) (Zai hh q1.Au (by decide)) (hm _ _ _ V) (hm _ _ _ W) (Zj (fun cs fr e=>by rw[hh] at e;simp only[Option.some.injEq,Obj.cells.injEq] at e;exact absurd e.2.1 (by decide)))).trans hh,r⟩)
 go_loopw [20] (fun H wr=>∃(i:Nat) (S:List Value),H= .int .i64 i/\i<=n/\wr.ownsRow B0 5 1 (.slice (some ⟨g,0,none⟩) n c) n S/\Ax I wr g) (fun H _=>n - (intOf H).toNat)
 case atStart =>
  exact⟨0,bv o.data,rfl,by omega,K.o,Ax.refl _ _⟩
 case round =>
  obtain⟨i,S,rfl,hi,a,l⟩:=hrel;by_cases Z:i<n
  ·have t0:=a.cellAt i (by omega)
   obtain⟨u,hu⟩:∃u,wr.cell? ⟨g,i,none⟩=some u:=by
    have hz:=a.1;rw[t0];exact⟨_,ZZ (by omega)⟩
   have f0:=a.frozenAt i;have z:=Zz (Zq a l);have i1:(i:Int)<(n:Int):=by omega
   clear t0 a l;go_wp2_with fail
   go_roundw
   case rel=>exact⟨i+1,_,by go_num,by omega,(z.o.1.stored i (.int .u8 33)).1,z.o.2.set i _⟩
   case measure=>simp[intOf];omega
  ·have i1:¬(i:Int)<(n:Int):=by omega
   have z:=Zz (Zq a l);clear a l;go_wp2_with fail
   go_ret
   obtain⟨cs,fr,hg⟩:∃cs fr,I.heap[g]? =some (.cells cs 5 fr):=by
    rcases K.o.2 with⟨x,_⟩ | ⟨A,cap,cur,x,_,hh,_⟩
    ·simp at x
    ·obtain rfl:g=A:=by simp only[Value.slice.injEq,Option.some.injEq,Addr.mk.injEq] at x;exact x.1.1
     exact⟨_,_,hh⟩
   refine⟨rfl,H1.o.1.one z.o.2 hg,?_⟩;have b:=H1.o.2;have l:=z.o.2;exact⟨l.os.trans b.os,l.tape.trans b.tape,l.output.trans b.output,Zv b.size l.size,fun k y a1 a2 a3 a4 a5=>(l.block k (Zy y b.size) a4).trans (b.block k y a1 a2 a3 a5)⟩
theorem NY (w:World)(R D bd bn B0 g c:Nat)(d:Ay)(i:Nat)(l:List Int)(h:Av w R D bd bn d)(hf:d.Ap.length<8)(j:i<3)(b:∀s,d.now i=some s->s.length+l.length<=9223372036854775807)(a:Al B0 w (.slice (some ⟨g,0,none⟩) l.length c) l)(hl:l.length<=1099511627776) :
  Calls prog 316 #[.pointer (some ⟨D,0,none⟩), .string (Da i), .slice (some ⟨g,0,none⟩) l.length c] w fun x w'=>x= .returned (AH (d.BW ⟨2,i,l⟩))/\Av w' R D bd bn (d.told ⟨2,i,l⟩)/\DFb w w' R D bd bn g:=by
 have e:=Zz (UR w R D bd bn B0 g c d ⟨2,i,l⟩ h hf j (Zj rfl) b a hl);clear h hf b a
 go_enter func316,ntmps316
 go_wp2_with (go_at_call 322;refine e.o.mono ?_;rintro _ k ⟨rfl,f⟩)
 go_ret
 exact⟨rfl,f⟩
theorem Av.didD {f:BG}(h:Av w R D bd bn d)(hf:∃l,AB w' bd f l)(a:Ax w w' bd):Av w' R D bd bn { d with CJ:=f }/\∀(k:Nat) (ob:Obj),w.heap[k]? =some ob->(∀es c,ob≠Obj.map es c)->w'.heap[k]? =w.heap[k]? :=by
 obtain⟨pa,n,q1,b⟩:=h.c;obtain⟨p,o⟩:=h.fd;obtain⟨m,j⟩:=h.fn;obtain⟨es,cl,hm,_⟩:=o.own
 have stay:∀(k:Nat) (ob:Obj),w.heap[k]? =some ob->(∀es c,ob≠Obj.map es c)->w'.heap[k]? =w.heap[k]? :=fun k ob e hn=>a.block k (Zaa e) (fun x=>by
  subst x;rw[hm] at e;exact hn es cl (Option.some.inj e).symm)
 refine⟨⟨Zv h.rs a.size,⟨pa,n,q1.at_ (stay D _ q1.Au (fun _ _ x=>by cases x)),b.1,?_⟩,hf,⟨m,j.Aj (a.block bn j.lt (Ne.symm h.ne)) (fun k cs fr e=>stay k _ e (fun _ _ x=>by cases x))⟩,h.ne,h.Bs,h.ops⟩,stay⟩;rcases b.2 with x | ⟨g,cap,cur,x,hg,hh,r⟩
 ·exact Zu x
 ·exact Zj ⟨g,cap,cur,x,hg,(stay g _ hh (fun _ _ x=>by cases x)).trans hh,r⟩
theorem LH {M:Nat}:∀(l:List Jp) (f:BG) (N:Nat),Hr f N->(∀o∈l,o.data.length<=M)->Hr (l.foldl Ez f) (N+l.length * M)
 | [],f,N,h,_=>by simpa using h
 | o::l,f,N,h,hd=>by
  rw[List.foldl_cons,List.length_cons];have:=LH l (Ez f o) (N+M) (h.do_ o (by have:=hd o (List.mem_cons_self ..);omega)) (fun x a=>hd x (List.mem_cons_of_mem _ a));refine this.mono ?_;rw[Nat.add_mul];omega
theorem dcell {e a n:Nat}{l:List Jp}(h:w.ownsRow R 210 3 (.slice (some ⟨a,0,none⟩) n e) n (l.flatMap IV))(hn:l.length=n)(hi:i<n):w.cell? ⟨a,i * 3,none⟩=some (.int .i64 (l.getD i .z).kind)/\w.cell? ⟨a,i * 3+1,none⟩=some (.string (Da (l.getD i .z).at_))/\w.cell? ⟨a,i * 3+2,none⟩=some (.string (Zbm (l.getD i .z).data)):=by
 have b:∀j,j<3->w.cell? ⟨a,i * 3+j,none⟩=(IV (l.getD i .z))[j]? :=fun j c=>by
  rw[h.cellAt (i * 3+j) (by omega),RC (z:=Jp.z) Ze l (by omega) c]
 exact⟨b 0 (by omega),b 1 (by omega),b 2 (by omega)⟩
structure Ls (w wr:World)(R D bd bn pc:Nat)(pa:Option Addr)(d:Ay)(i:Nat):Prop where
 c:CF wr D bd bn (.slice pa d.Ap.length pc) d.left d.full d.down
 own:wr.ownsRow R 210 3 (.slice pa d.Ap.length pc) d.Ap.length (d.Ap.flatMap IV)
 at_:Av wr R D bd bn { d with CJ:=(d.Ap.take i).foldl Ez d.CJ }
 f:DF w wr R D bd bn
theorem Ls.below {wr wx:World}{b:Nat}(h:Ls w wr R D bd bn b pa d i)(a:Below wr.heap.size wr wx):Ls w wx R D bd bn b pa d i :=
 ⟨h.c.at_ (a.block _ (Zaa h.c.Au)),Zam h.own a,h.at_.below a,h.f.trans (DF.Ae R D bd bn a)⟩
theorem Ia (w:World)(R D bd bn M:Nat)(d:Ay)(h:Av w R D bd bn d)(hs:Hr d.CJ M)(aj:∀o∈d.Ap,o.data.length<=M)(hM:M<=1099511627776) :
  Calls prog 320 #[.pointer (some ⟨D,0,none⟩)] w fun x w'=>x= .returned (AH d.Bx)/\Av w' R D bd bn d.synced/\DF w w' R D bd bn/\(d.Bx=0->w'.cell? ⟨D,2,none⟩=some (.slice none 0 0)):=by
 obtain⟨pa,pc,q1,q2⟩:=h.c;have t:=Zz (KV w D bd bn (.slice pa d.Ap.length pc) d q1);have U:=Zz (Zq h (Zq q1 q2));obtain⟨n,hn⟩:∃n,n=d.Ap.length:=⟨_,rfl⟩;have b9:n<=8:=by rw[hn];exact h.Bs
 have X:=Zz hn;rw[<-hn] at t;by_cases G:d.Bx=0
 ·have E:d.synced={ d.wrote with CJ:=d.Ap.foldl Ez d.CJ,Ap:=[] }:=by unfold Ay.synced;rw[if_neg (by rw[G];decide)]
  rw[G] at t;rw[G,E];clear h q1 q2 hn G E
  go_enter func320,ntmps320
  go_upto_region 4 with (go_at_call 325;refine t.o.mono ?_;rintro _ w1 ⟨rfl,a,v⟩;have p:=Zz (Zq a v);clear a v;rw[Zaw])
  obtain⟨l,B⟩:∃l,l=d.wrote:=⟨_,rfl⟩
  have Q:Ls w w1 R D bd bn pc pa l 0:=by
   have a:=p.o.1;have hw:=Zay d;rw[X.o] at a;have h2:=U.o.1.wrote U.o.2.1 U.o.2.2 a p.o.2;rw[B];exact⟨by rw[hw.2.2];exact a,by rw[hw.2.2];exact h2.2,h2.1,DF.CM p.o.2 (Zu rfl)⟩
  have hp:l.Ap=d.Ap:=by rw[B];exact (Zay d).2.2
  have m2:=Q.c.cells.1.1.1.2;rw[hp,<-X.o] at m2;have HS:=Zz Q;have j:=Zz (Zq B hp);clear Q B hp;go_wp2_with fail
  go_loopw [16] (fun iv wr=>∃i:Nat,iv= .int .i64 i/\i<=n/\Ls w wr R D bd bn pc pa l i) (fun iv _=>n - (intOf iv).toNat)
  case atStart=>exact⟨0,rfl,by omega,HS.o⟩
  case round =>
   obtain⟨i,rfl,hi,m⟩:=hrel;by_cases h1:i<n
   ·have u:l.Ap.length=n:=by rw[j.o.2];exact X.o.symm
    obtain⟨pg,ax,bf⟩:∃pg,pa=some ⟨pg,0,none⟩/\n<=pc:=by
     rcases m.own.2 with⟨_,x⟩ | ⟨g,cap,cur,x,_,_,x2,_⟩
     ·omega
     ·simp only[Value.slice.injEq] at x
      exact⟨g,x.1,by omega⟩
    subst ax;obtain⟨o,V⟩:∃o,o=l.Ap.getD i .z:=⟨_,rfl⟩;have y:=m.own;rw[u] at y;obtain⟨t0,t1,t2⟩:=dcell y u h1;rw[<-V] at t0 t1 t2;obtain⟨nm,L⟩:∃nm,nm=Da o.at_:=⟨_,rfl⟩;obtain⟨sd,S⟩:∃sd,sd=Zbm o.data:=⟨_,rfl⟩;obtain⟨I,K⟩:∃I,I=o.kind:=⟨_,rfl⟩;rw[<-K] at t0;rw[<-L] at t1;rw[<-S] at t2;obtain⟨T,C⟩:∃T,T=wr.alloc (.cells #[.int .i64 I, .string nm, .string sd] 210):=⟨_,rfl⟩;obtain⟨ob,N⟩:∃ob,ob=wr.heap.size:=⟨_,rfl⟩;have Z:Below wr.heap.size wr T:=by rw[C];exact (Zk _ _).alloc (Zx _) _
    have b:T.heap[ob]? =some (.cells #[.int .i64 I, .string nm, .string sd] 210 (0,0)):=by rw[C,N];exact heap_alloc_new wr _
    have J:=m.below Z;have m0:=J.c.cells.1.1.1.1.1;have u0:=Zaj b 0;have u1:=Zaj b 1;have u2:=Zaj b 2;have O:o∈l.Ap:=by rw[V];exact Zbw (z:=Jp.z) (by omega)
    have al:=Zz (show ∀wx,Below T.heap.size T wx->Calls prog 106 #[.map (some bd), .agg #[.int .i64 I, .string nm, .string sd]] wx fun x w'=>x= .returned (.tuple #[])/\Ls w w' R D bd bn pc (some ⟨pg,0,none⟩) l (i+1)/\w'.heap[ob]? =some (.cells #[.int .i64 I, .string nm, .string sd] 210 (0,0)) from fun wx hb=>by
     have F:=J.below hb;obtain⟨Dd,av⟩:=F.at_.fd;have H:=F.at_.ops o O;have az:Hr ((l.Ap.take i).foldl Ez l.CJ) (M+(l.Ap.take i).length * M):=LH _ _ _ (by rw[j.o.1,(Zay d).1];exact hs) (fun x W=>aj x (by rw[<-j.o.2];exact List.mem_of_mem_take W))
     have hd:=PL wx bd _ Dd o av H.1 H.2 (fun s ay=>by
      have h4:=az _ _ ay;have h5:=aj o (by rw[<-j.o.2];exact O);have h6:(l.Ap.take i).length * M<=8 * M:=Nat.mul_le_mul_right _ (by rw[List.length_take];omega);omega)
     unfold opV at hd;rw[<-L,<-S,<-K] at hd;refine hd.mono ?_;rintro x w' ⟨rfl,hf,ag⟩;have q:=F.at_.didD hf ag
     have W:(l.Ap.take (i+1)).foldl Ez l.CJ=Ez ((l.Ap.take i).foldl Ez l.CJ) o:=by
      rw[List.take_add_one,List.foldl_append,ZZ (by omega)];have:l.Ap[i]=o:=by rw[V,ZQ,ZZ (by omega)];rfl
      rw[Option.toList_some,this];rfl
     refine⟨rfl,⟨F.c.at_ (q.2 D _ F.c.Au (fun _ _ x=>by cases x)),⟨F.own.1,?_⟩,?_,F.f.trans (DF.CM ag (Zj (Zu rfl)))⟩,?_⟩
     ·rcases F.own.2 with x | ⟨g,cap,cur,x,hg,hh,r⟩
      ·exact Zu x
      ·exact Zj ⟨g,cap,cur,x,hg,(q.2 g _ hh (fun _ _ x=>by cases x)).trans hh,r⟩
     ·rw[W];exact q.1
     ·have e1:=(hb.block ob (Zaa b)).trans b
      exact (q.2 ob _ e1 (fun _ _ x=>by cases x)).trans e1)
    have Y:=Zz (Zq C N);have i1:(i:Int)<(n:Int):=by omega
    clear C N Z b m J y O V L S K u
    go_upto_region 7 with fail
    rw[<-Y.o.2,<-Y.o.1];clear t0 t1 t2
    go_region_held3 (fun w'=>((w'.cell? ⟨D,0,none⟩=some (.map (some bd))/\w'.cell? ⟨ob,0,none⟩=some (.int .i64 I))/\w'.cell? ⟨ob,1,none⟩=some (.string nm))/\w'.cell? ⟨ob,2,none⟩=some (.string sd)) (go_keep) ((go_at_call 106;refine (al.o T.drew ((Zk _ _).drew)).mono ?_;rintro _ w3 ⟨rfl,z1,z4⟩;have ar:=Zz z1;have y0:=z1.c.cells.1.1.1.1.1;have y1:w3.cell? ⟨ob,0,none⟩=some (.int .i64 I):=Zaj z4 0;have y2:w3.cell? ⟨ob,1,none⟩=some (.string nm):=Zaj z4 1;have y3:w3.cell? ⟨ob,2,none⟩=some (.string sd):=Zaj z4 2;clear z1 z4))
    all_goals
     clear u0 u1 u2 m0 y0 y1 y2 y3;go_wp2_with fail
     go_roundw
     case rel=>exact⟨i+1,by go_num,by omega,ar.o⟩
     case measure=>simp[intOf];omega
   ·have i1:¬(i:Int)<(n:Int):=by omega
    have aw:i=n:=by omega
    have au:=Zz m;have m0:=m.c.cells.1.1.1.2;have m2:=m.c.AE 2;clear m;go_wp2_with fail
    go_ret
    have m:=au.o;have u:l.Ap.length=n:=by rw[j.o.2];exact X.o.symm
    obtain⟨Dd,q3⟩:=m.at_.fd;obtain⟨Dn,q4⟩:=m.at_.fn
    have A:∀bm f Dx,AB wr bm f Dx->AB (wr.setCell ⟨D,2,none⟩ (.slice none 0 0)) bm f Dx:=fun bm f Dx W=>by
     obtain⟨es,c,E,_⟩:=W.own;exact W.Aj (Zl wr ⟨D,2,none⟩ _ bm (fun e=>by rw[e,m.c.Au] at E;cases E)) (fun k cs fr e=>Zl wr ⟨D,2,none⟩ _ k (Zai e m.c.Au (by decide)))
    refine⟨by rw[Zaw];rfl,⟨by have:=m.at_.rs;simpa[World.setCell] using this,⟨none,0,?_,World.ownsRow_nil _ _ _ _⟩,⟨Dd,?_⟩,⟨Dn,?_⟩,m.at_.ne,Nat.zero_le _,fun o V=>by cases V⟩,?_,(m.c.Bt (.slice none 0 0)).cells.1.1.1.2⟩
    ·have:=m.c.Bt (.slice none 0 0)
     rw[j.o.1] at this;exact this
    ·have:=A _ _ _ q3
     rw[aw,<-u,List.take_length,j.o.2,j.o.1,(Zay d).1] at this;exact this
    ·have:=A _ _ _ q4
     rw[j.o.1] at this;exact this
    ·exact m.f.trans (DF.CM ((Ax.refl wr D).set 2 _) (Zu rfl))
 ·have E:d.synced=d.wrote:=by unfold Ay.synced;rw[if_pos G]
  rw[E];obtain⟨er,ae⟩:∃er,er=d.Bx:=⟨_,rfl⟩;rw[<-ae] at t G ⊢;have HE:=Zz G;clear h q1 q2 hn E ae G
  go_enter func320,ntmps320
  go_wp2_with (go_at_call 325;refine t.o.mono ?_;rintro _ w1 ⟨rfl,a,v⟩;have p:=Zz (Zq a v);clear a v;rw[Zan HE.o])
  go_ret
  have a:=p.o.1;rw[X.o] at a;exact⟨by rw[Zan HE.o];rfl,(U.o.1.wrote U.o.2.1 U.o.2.2 a p.o.2).1,DF.CM p.o.2 (Zu rfl),fun x=>absurd x HE.o⟩
theorem Sz (w:World)(R D bd bn M:Nat)(d:Ay)(h:Av w R D bd bn d)(c:Hr d.CJ M)(a:∀o∈d.Ap,o.data.length<=M)(b:M<=1099511627776) :
  Calls prog 320 #[.pointer (some ⟨D,0,none⟩)] w fun x w'=>x= .returned (AH d.Bx)/\Av w' R D bd bn d.synced/\DF w w' R D bd bn :=
 (Ia w R D bd bn M d h c a b).mono fun _ _ h=>⟨h.1,h.2.1,h.2.2.1⟩
theorem Av.raise {a:Nat}(h:Av w R D bd bn d)(hp:d.Ap=[])(j:w.cell? ⟨D,2,none⟩=some (.slice none 0 0))(g:a<=w.heap.size):Av w a D bd bn d:=by
 obtain⟨pa,l,q1,m⟩:=h.c;have e:=q1.cells.1.1.1.2;rw[j] at e;simp only[Option.some.injEq,Value.slice.injEq] at e;obtain⟨b,k,f⟩:=e;subst b f;refine⟨g,⟨none,0,q1,?_⟩,h.fd,h.fn,h.ne,h.Bs,h.ops⟩;rw[hp];exact World.ownsRow_nil _ _ _ _
theorem YA (s c:Nat):SQ s c<4294967296:=by unfold SQ;exact Nat.mod_lt _ (by omega)
theorem Vg (l:List Int):DI l<4294967296:=by
 have:∀(l:List Int) (s:Nat),s<4294967296->l.foldl (fun s c=>SQ s c.toNat) s<4294967296:=by
  intro l
  induction l with
  | nil=>intro s h;exact h
  | cons a l b=>intro s h;rw[List.foldl_cons];exact b _ (YA _ _)
 exact this l _ (by omega)
theorem Vh (l:List Int)(hi:i<l.length):DI (l.take (i+1))=SQ (DI (l.take i)) (l.getD i 0).toNat:=by
 unfold DI;rw[List.take_add_one,List.foldl_append,ZZ hi,ZQ,ZZ hi,Option.toList_some,List.foldl_cons,List.foldl_nil,Option.getD_some]
def Mf (l:List Int):Value:= .agg #[.int .u8 ((DI l % 256:Nat):Int), .int .u8 ((DI l / 256 % 256:Nat):Int), .int .u8 ((DI l / 65536 % 256:Nat):Int), .int .u8 ((DI l / 16777216 % 256 ||| 1:Nat):Int)]
theorem Ph (w:World)(a:Option Addr)(c:Nat)(l:List Int)(hl:BB l)(hlen:l.length<=1099511627776)(h:Aw w a l.length c (fun k=>(l.getD k 0).toNat)) :
  Calls prog 243 #[.slice a l.length c] w fun x w'=>x= .returned (Mf l)/\Below w.heap.size w w':=by
 obtain⟨n,hn⟩:∃n,n=l.length:=⟨_,rfl⟩;have H:=Zz h;have r:=Zz hn;rw[<-hn] at hlen ⊢;clear h hn
 go_enter func243,ntmps243
 go_wp2_with fail
 go_loop [3,9] (fun M u=>∃i:Nat,i<=n/\u= .int .i64 i/\M= .int .u32 (DI (l.take i):Nat)) (fun _ u=>n - (intOf u).toNat)
 case atStart=>exact⟨0,by omega,rfl,rfl⟩
 case round =>
  obtain⟨i,hi,rfl,rfl⟩:=hrel;by_cases y:i<n
  ·obtain⟨b,o,rfl,L,_,J,e⟩:∃b o,a=some ⟨b,o,none⟩/\n<=c/\c<=maxLen/\b<w.heap.size/\∀k,k<n->w.cell? ⟨b,o+k,none⟩=some (.int .u8 (((l.getD k 0).toNat:Nat):Int))/\(l.getD k 0).toNat<256:=by
    rcases H.o with h | h
    ·have:=r.o;omega
    ·rw[<-r.o] at h;exact h
   obtain⟨t0,t1⟩:=e i y;have t0:=cell_later ((Zk w.heap.size w).alloc (Zx _) (.cells #[.int .u8 0, .int .u8 0, .int .u8 0, .int .u8 0] 390)) t0;obtain⟨x,t⟩:∃x,x=(l.getD i 0).toNat:=⟨_,rfl⟩;obtain⟨s,f⟩:∃s,s=DI (l.take i):=⟨_,rfl⟩;have p:s<4294967296:=by rw[f];exact Vg _
   rw[<-t] at t0 t1;rw[<-f];have A:=u32_xor_nat s x p (by omega);have i1:(i:Int)<(n:Int):=by omega
   have v:=Zz (Zq t f);clear t f e;go_wp2_with fail
   go_round
   case rel=>exact⟨i+1,by omega,by go_num,by
    have q:=Vh l (i:=i) (by have:=r.o;omega);rw[<-v.o.1,<-v.o.2] at q;rw[q];unfold SQ
    congr 1⟩
   case measure=>simp[intOf];omega
  ·have g:i=n:=by omega
   obtain⟨s,f⟩:∃s,s=DI l:=⟨_,rfl⟩;have p:s<4294967296:=by rw[f];exact Vg _
   have z:l.take i=l:=by rw[g,r.o];exact List.take_length
   rw[z,<-f];have i1:¬(i:Int)<(n:Int):=by omega
   have B:=Zz f;clear f z g y;go_wp2_with fail
   refine wp_loop_rounds 5 ?_;rw[rounds_succ];go_wp2_with fail
   rw[rounds_succ];go_wp2_with fail
   rw[rounds_succ];go_wp2_with fail
   rw[rounds_succ];go_wp2_with fail
   rw[rounds_succ];go_wp2_with fail
   have j:=u8_or_nat (s / 16777216) 1 (by omega) (by omega);have K:((s / 16777216:Nat):Int)=(s:Int) / 16777216:=by omega
   rw[K] at j;have m:bits BinOp.or .u8 ((s:Int) / 16777216) 1=((s / 16777216 ||| 1:Nat):Int):=j;rw[m]
   have I:Mf l= .agg #[.int .u8 ((s:Int) % 256), .int .u8 ((s:Int) / 256 % 256), .int .u8 ((s:Int) / 65536 % 256), .int .u8 ((s / 16777216 ||| 1:Nat):Int)]:=by
    unfold Mf;rw[<-B.o];have C:((s % 256:Nat):Int)=(s:Int) % 256:=by omega
    have E:((s / 256 % 256:Nat):Int)=(s:Int) / 256 % 256:=by omega
    have F:((s / 65536 % 256:Nat):Int)=(s:Int) / 65536 % 256:=by omega
    have G:s / 16777216 % 256=s / 16777216:=Nat.mod_eq_of_lt (by omega);rw[C,E,F,G]
   refine bodyPost_ret (results_cell_row rfl _ _ w.heap.size 390 #[.int .u8 ((s:Int) % 256), .int .u8 ((s:Int) / 256 % 256), .int .u8 ((s:Int) / 65536 % 256), .int .u8 ((s / 16777216 ||| 1:Nat):Int)] (0,0) _ rfl (heap_alloc_new w _) underlying390 rfl rfl) rfl ?_;exact⟨by rw[I],(Zk _ _).alloc (Zx _) _⟩
theorem PI {B:Nat}{b:World}{v v':Value}{l m:List Int}(hl:Al B w v l)(e:B<=w.heap.size){ob:Obj}(a:b.ownsRow B 5 1 v' (l.length+m.length) (bv l++bv m))(hg:(w.alloc ob).grownBy b v.ownBlock):Al B b v' (l++m)/\F8 B w b:=by
 have c:Al B (w.alloc ob) v l:=hl.below ((Zk _ _).alloc (Zx _) _);refine⟨?_,((F8.refl B w).alloc e ob).trans (F8.grown c hg (by simp;omega))⟩;unfold Al;rw[ZX,Hw];exact a
theorem IF {B:Nat}{b:World}{v v':Value}{l m:List Int}(hl:Al B w v l)(c:B<=w.heap.size)(a:b.ownsRow B 5 1 v' (l.length+m.length) (bv l++bv m))(hg:w.grownBy b v.ownBlock):Al B b v' (l++m)/\F8 B w b:=by
 refine⟨?_,F8.grown hl hg c⟩;unfold Al;rw[ZX,Hw];exact a
theorem SR (w:World)(B B0:Nat)(v:Value)(h:List Int)(rg rc:Nat)(l:List Int)(hv:Al B w v h)(hB:B<=w.heap.size)(A:Al B0 w (.slice (some ⟨rg,0,none⟩) l.length rc) l)(Q:rg<B)(hl:BB l)(hlen:l.length<=1000000)(az:1<=l.length)(hz:h.length<=1000000000) :
  Calls prog 224 #[v, .slice (some ⟨rg,0,none⟩) l.length rc] w fun x w'=>∃v',x= .returned v'/\Al B w' v' (h++Zas l)/\F8 B w w':=by
 obtain⟨n,hn⟩:∃n,n=l.length:=⟨_,rfl⟩;obtain⟨m,hm⟩:∃m,m=h.length:=⟨_,rfl⟩;obtain⟨i5,hi,U,V,W⟩:=info_parts LL;have q:=Zz (Zq hi (Zq U (Zq V W)));have f:=Zz (Zq hn (Zq hm (Zq hl hv)));have HR:=Zz A;rw[<-hn] at hlen az ⊢;rw[<-hm] at hz;have HV:=Zz (show w.ownsRow B 5 1 v m (bv h) by rw[hm];exact hv);clear hv A hn hm hl hi U V W
 go_enter func224,ntmps224
 go_upto_region 2 with (at_builtin;refine wpList_append_own _ rfl (.tmp 6) (.tmp 14) 112 rfl B 5 i5 (.int .u8 0) 1 1 underlying112 q.o.1 q.o.2.1 q.o.2.2.1 q.o.2.2.2 rfl (by decide) v m (bv h) rfl (HV.o.alloc _) ⟨w.heap.size,0,none⟩ 2 2 [.int .u8 ((n:Int) % 256), .int .u8 ((n:Int) / 256 % 256)] rfl rfl (World.news_of_block (cs:=#[.int .u8 ((n:Int) % 256), .int .u8 ((n:Int) / 256 % 256)]) (t:=5) (fr:=(0,0)) (heap_alloc_new w _)) (by simp[Value.oneCell']) (by unfold maxLen;omega) (by omega) (by simp;omega) ?_;intro v2 X s j b;clear b;have aj:=Zz (Zq s j);clear s j)
 have J:=Zz (show Al B X v2 (h++Cw l)/\F8 B w X by
  obtain⟨F,L⟩:=aj.o
  have e1:Cw l=[(n:Int) % 256,(n:Int) / 256 % 256]:=by
   unfold Cw;rw[<-f.o.1];have a1:((n % 256:Nat):Int)=(n:Int) % 256:=by omega
   have a2:((n / 256 % 256:Nat):Int)=(n:Int) / 256 % 256:=by omega
   rw[a1,a2]
  rw[f.o.2.1] at F;rw[e1];exact PI f.o.2.2.2 hB F L)
 have M:B<=X.heap.size:=Zv hB J.o.2.bl.size
 have aw:=Zz (show X.ownsRow B 5 1 v2 (m+2) (bv (h++Cw l)) by
  have:=J.o.1;unfold Al at this;rw[ZX,<-f.o.2.1] at this;exact this)
 have K:=Zz (show Al B0 X (.slice (some ⟨rg,0,none⟩) n rc) l/\(bv l).length=n * 1 by
  refine⟨?_,by rw[Fj,f.o.1];omega⟩;have A:=HR.o;rw[<-f.o.1] at A;refine⟨A.1,?_⟩;rcases A.2 with x | ⟨g,cap,cur,x,hg,hh,r⟩
  ·exact Zu x
  ·obtain rfl:rg=g:=by simp only[Value.slice.injEq,Option.some.injEq,Addr.mk.injEq] at x;exact x.1.1
   exact Zj ⟨rg,cap,cur,x,hg,(J.o.2.bl.block rg Q).trans hh,r⟩)
 go_upto_region 3 with (at_builtin;refine wpList_append_own _ rfl (.tmp 16) (.tmp 17) 112 rfl B 5 i5 (.int .u8 0) 1 1 underlying112 q.o.1 q.o.2.1 q.o.2.2.1 q.o.2.2.2 rfl (by decide) v2 (m+2) (bv (h++Cw l)) rfl aw.o ⟨rg,0,none⟩ n rc (bv l) rfl K.o.2 (World.ownsRow.cells K.o.1 rfl) (bv_one l) (by unfold maxLen;omega) (by omega) M ?_;intro v3 z u k b;clear b;have al:=Zz (Zq u k);clear u k)
 have Y:=Zz (show Al B z v3 (h++Cw l++l)/\F8 B w z by
  obtain⟨F,L⟩:=al.o;have e:(h++Cw l).length+l.length=m+2+n:=by rw[ZX,f.o.2.1,f.o.1];rfl
  rw[<-e] at F;have:=IF J.o.1 M F L;exact⟨this.1,J.o.2.trans this.2⟩)
 have ay:B<=z.heap.size:=Zv hB Y.o.2.bl.size;obtain⟨s0,s1,s2,s3,T,S⟩:∃s0 s1 s2 s3,Mf l= .agg #[.int .u8 s0, .int .u8 s1, .int .u8 s2, .int .u8 s3]/\CY l=[s0,s1,s2,s3]:=⟨_,_,_,_,rfl,rfl⟩
 have au:=Zz (show Calls prog 243 #[.slice (some ⟨rg,0,none⟩) n rc] z fun x w'=>x= .returned (.agg #[.int .u8 s0, .int .u8 s1, .int .u8 s2, .int .u8 s3])/\Below z.heap.size z w' by
  have A:=HR.o
  have b9:Al B0 z (.slice (some ⟨rg,0,none⟩) l.length rc) l:=by
   refine⟨A.1,?_⟩;rcases A.2 with x | ⟨g,cap,cur,x,hg,hh,r⟩
   ·exact Zu x
   ·obtain rfl:rg=g:=by simp only[Value.slice.injEq,Option.some.injEq,Addr.mk.injEq] at x;exact x.1.1
    exact Zj ⟨rg,cap,cur,x,hg,(Y.o.2.bl.block rg Q).trans hh,r⟩
  obtain⟨a,c,e,_,_,hb,_,_⟩:=Md b9 f.o.2.2.1;simp only[Value.slice.injEq,true_and] at e;obtain⟨rfl,rfl⟩:=e;have:=Ph z (some ⟨rg,0,none⟩) rc l f.o.2.2.1 (by rw[<-f.o.1];omega) hb;rw[<-f.o.1,T] at this;exact this)
 have av:=Zz S;clear T S
 go_upto_region 4 with (go_at_call 243;refine au.o.mono ?_;rintro _ w4 ⟨rfl,O⟩;have ae:=Zz O;clear O)
 obtain⟨E,C⟩:∃E,E=w4.alloc (.cells #[.int .u8 s0, .int .u8 s1, .int .u8 s2, .int .u8 s3] 390):=⟨_,rfl⟩;obtain⟨sb,I⟩:∃sb,sb=w4.heap.size:=⟨_,rfl⟩;have H:E.heap[sb]? =some (.cells #[.int .u8 s0, .int .u8 s1, .int .u8 s2, .int .u8 s3] 390 (0,0)):=by rw[C,I];exact heap_alloc_new w4 _
 have G:Below w4.heap.size w4 E:=by rw[C];exact (Zk _ _).alloc (Zx _) _
 rw[<-C,<-I]
 have Z:=Zz (show Al B E v3 (h++Cw l++l)/\F8 B w E by
  have hb:Below z.heap.size z E:=ae.o.trans' G;exact⟨Y.o.1.below hb,Y.o.2.trans (F8.Ae hb ay)⟩)
 have N:B<=E.heap.size:=Zv hB Z.o.2.bl.size
 have ax:=Zz (show E.ownsRow B 5 1 v3 (m+2+n) (bv (h++Cw l++l)) by
  have:=Z.o.1;unfold Al at this;rw[ZX,ZX,<-f.o.2.1,<-f.o.1] at this;exact this)
 have ag:=Zz (World.news_of_block H);clear C I H G;go_wp2_with (at_builtin;refine wpList_append_own _ rfl (.tmp 21) (.tmp 22) 112 rfl B 5 i5 (.int .u8 0) 1 1 underlying112 q.o.1 q.o.2.1 q.o.2.2.1 q.o.2.2.2 rfl (by decide) v3 (m+2+n) (bv (h++Cw l++l)) rfl ax.o ⟨sb,0,none⟩ 4 4 [.int .u8 s0, .int .u8 s1, .int .u8 s2, .int .u8 s3] rfl rfl ag.o (by simp[Value.oneCell']) (by unfold maxLen;omega) (by omega) N ?_;intro v6 w6 y p b;clear b;have ar:=Zz (Zq y p);clear y p)
 go_ret
 obtain⟨F,L⟩:=ar.o;have e:(h++Cw l++l).length+(CY l).length=m+2+n+4:=by rw[ZX,ZX,f.o.2.1,f.o.1];rfl
 have e2:bv (CY l)=[.int .u8 s0, .int .u8 s1, .int .u8 s2, .int .u8 s3]:=by rw[av.o];rfl
 rw[<-e,<-e2] at F;have h3:=IF Z.o.1 N F L;refine⟨v6,rfl,?_,Z.o.2.trans h3.2⟩;have:=h3.1;unfold Zas;rw[<-List.append_assoc,<-List.append_assoc];exact this
theorem VD:∀n:Nat,BB (Ct n):=by
 intro n
 induction n using Nat.strongRecOn with
 | _ n b =>
  by_cases h:n=0
  ·subst h;rw[Zdz];intro x a;cases a
  ·rw[Fp h]
   intro x a;rcases List.mem_cons.1 a with rfl | a
   ·omega
   ·exact b (n / 256) (by omega) x a
theorem KP (l:List Int)(hl:BB l):(Zbm l).data.toList.map (fun b=>(b.toNat:Int))=l:=by
 have:∀(l:List Int) (b:ByteArray),BB l->(l.foldl (fun r n=>r.push (UInt8.ofNat n.toNat)) b).data.toList.map (fun b=>(b.toNat:Int))=b.data.toList.map (fun b=>(b.toNat:Int))++l:=by
  intro l
  induction l with
  | nil=>intro b _;simp
  | cons a l f =>
   intro b h;have g:=h a (List.mem_cons_self ..);rw[List.foldl_cons,f _ (fun x c=>h x (List.mem_cons_of_mem _ c))];simp only[ByteArray.push,Array.toList_push,List.map_append,List.map_cons,List.map_nil,List.append_assoc,List.singleton_append]
   congr 2
   have e:a.toNat<256:=by omega
   simp only[UInt8.toNat_ofNat',Nat.mod_eq_of_lt e];omega
 have h:=this l ByteArray.empty hl;unfold Zbm;rw[h];simp
theorem Pl (l:List Int)(hl:BB l):Lib.strCells (Zbm l)=bv l:=by
 have h:=KP l hl;unfold bv Lib.strCells
 conv=>rhs;rw[<-h]
 rw[List.map_map]
 rfl
theorem QR (w:World)(op:Int)(N:Nat)(data:List Int)(ax:0<=op/\op<256)(S:N<18446744073709551616)(hd:BB data)(hl:data.length<=1000000) :
  Calls prog 151 #[.agg #[.int .i64 op, .int .u64 N, .string (Zbm data)]] w fun x w'=>∃g c,x= .returned (.slice (some ⟨g,0,none⟩) (AX op data N).length c)/\Al w.heap.size w' (.slice (some ⟨g,0,none⟩) (AX op data N).length c) (AX op data N)/\Below w.heap.size w w':=by
 obtain⟨sd,t⟩:∃sd,sd=Zbm data:=⟨_,rfl⟩;obtain⟨n,hn⟩:∃n,n=data.length:=⟨_,rfl⟩;have I:sd.size=n:=by rw[t,Zd9,hn]
 obtain⟨i5,hi,K,L,M⟩:=info_parts LL;have y:=Zz (Zq hi (Zq K (Zq L M)));obtain⟨u,v⟩:∃u,u=w.alloc (.cells #[.int .i64 op, .int .u64 N, .string sd] 29):=⟨_,rfl⟩;obtain⟨E,B⟩:∃E,E=w.heap.size:=⟨_,rfl⟩;have A:Below w.heap.size w u:=by rw[v];exact (Zk _ _).alloc (Zx _) _
 have b:u.heap[E]? =some (.cells #[.int .i64 op, .int .u64 N, .string sd] 29 (0,0)):=by rw[v,B];exact heap_alloc_new w _
 have u0:=Zaj b 0;have u1:=Zaj b 1;have u2:=Zaj b 2;have ag:=Zaa b;have ar:=cell_later ((Zk u.heap.size u).alloc (Zx _) (.cells #[.int .u8 op] 5)) u2;have G:=World.ownsRow_lit (e:=5) (base:=w.heap.size) (size:=1) u #[.int .u8 op] 1 A.size (by unfold maxLen;omega) rfl;have H:Lib.strCells sd=bv data:=by rw[t];exact Pl data hd
 have Z:=Zz G;have z:=Zz (Zq B (Zq v (Zq A (Zq b (Zq t (Zq hn (Zq I H)))))));have av:IntKind.u8.wrap op=op:=by rw[IntKind.wrap_u8];omega
 rw[<-t];rw[<-hn] at hl;clear t v B A b hn I G hi K L M hd H
 go_enter func151,ntmps151
 go_upto_region 1 with fail
 rw[<-z.o.1,<-z.o.2.1]
 go_upto_region 2 with (at_builtin;refine Lib.wpList_append_own_string _ rfl (.tmp 8) (.tmp 10) 112 9 rfl w.heap.size 5 i5 underlying112 underlying9 y.o.1 y.o.2.1 y.o.2.2.1 y.o.2.2.2 (.slice (some ⟨u.heap.size,0,none⟩) 1 1) 1 [.int .u8 op] rfl Z.o sd rfl (by have:=z.o.2.2.2.2.2.2.1;unfold maxLen;omega) (by have:=z.o.2.2.2.2.2.2.1;omega) (by have:=z.o.2.2.1.size;simp;omega) ?_;intro v2 w2 r h q;clear q;have W:=Zz (Zq r h);clear r h)
 have V:=Zz (show Al w.heap.size w2 v2 (op::data)/\Below w.heap.size w w2/\w2.cell? ⟨E,1,none⟩=some (.int .u64 N) by
  obtain⟨F,Q⟩:=W.o;obtain⟨q1,q2,q3,q4,q5,q6,q7,q8⟩:=z.o;have ae:Below u.heap.size u (u.alloc (.cells #[.int .u8 op] 5)):=(Zk _ _).alloc (Zx _) _;refine⟨?_,?_,?_⟩
  ·unfold Al
   rw[q8,q7,q6] at F;have:(op::data).length=1+data.length:=by rw[List.length_cons];omega
   rw[this];exact F
  ·have J:=q3.size
   refine (q3.trans (ae.mono J)).grown Q (by simp;omega) (fun k T=> ?_);simp only[Value.ownBlock,Option.some.injEq] at T;omega
  ·refine (World.cell?_of_block (a:=⟨E,1,none⟩) ((Q.block E (by simp;omega) (fun e=> ?_)).trans (Zao _ _ _ ag))).trans u1
   simp only[Value.ownBlock,Option.some.injEq] at e;omega)
 have u1:=V.o.2.2;clear u0 u2 ar;go_wp2_with fail
 go_loopw [3,4] (fun xv nv wr=>∃(k:Nat) (l:List Int) (O:Value),O=xv/\nv= .int .u64 k/\k<18446744073709551616/\l++Ct k=AX op data N/\Al w.heap.size wr O l/\Below w.heap.size w wr/\1<=l.length/\l.length+(Ct k).length<=1000009) (fun _ nv _=>(intOf nv).toNat)
 case atStart =>
  have:=Zd7 8 N S;exact⟨N,op::data,v2,rfl,rfl,S,rfl,V.o.1,V.o.2.1,by rw[List.length_cons];omega,by rw[List.length_cons,<-z.o.2.2.2.2.2.1];omega⟩
 case round =>
  obtain⟨k,l,O,rfl,rfl,T,hrec,f,p,aj,al⟩:=hrel;by_cases h0:k=0
  ·subst h0
   have Y:=Zz (Zq hrec (Zq f p));clear hrec f p;go_wp2_with fail
   go_ret
   obtain⟨r1,r2,U⟩:=Y.o;rw[Zdz,List.append_nil] at r1;obtain⟨a,c,e⟩:=Zaz r2;obtain⟨g,cap,e2,_⟩:=World.ownsRow.form r2 (by omega);rw[e] at e2;simp only[Value.slice.injEq] at e2;obtain⟨rfl,_,rfl⟩:=e2;rw[<-r1];refine⟨g,c,?_,?_,U⟩
   ·exact congrArg Ending.returned e
   ·rw[<-e];exact r2
  ·obtain⟨m,hm⟩:∃m,m=l.length:=⟨_,rfl⟩
   have C:=Fp h0;have Y:=Zz (Zq hrec (Zq f (Zq p (Zq C hm))));have HV:=Zz (show wr.ownsRow w.heap.size 5 1 O m (bv l) by rw[hm];exact f);have ay:=p.size;have aw:(0:Int)<(k:Int):=by omega
   rw[C,List.length_cons,<-hm] at al;rw[<-hm] at aj;have HK:=Zz T;have au:=Zz S;clear hrec f p C hm T S;go_wp2_with (at_builtin;refine wpList_append_own _ rfl (.tmp 18) (.tmp 21) 112 rfl w.heap.size 5 i5 (.int .u8 0) 1 1 underlying112 y.o.1 y.o.2.1 y.o.2.2.1 y.o.2.2.2 rfl (by decide) O m (bv l) rfl (HV.o.alloc _) ⟨wr.heap.size,0,none⟩ 1 1 [.int .u8 ((k:Int) % 256)] rfl rfl (Kj _ _ _ _ rfl) (Fa _) (by unfold maxLen;omega) (by omega) (by simp;omega) ?_;intro v3 w3 s j q;clear q;have X:=Zz (Zq s j);clear s j)
   go_roundw
   case rel =>
    obtain⟨r1,r2,U,r4,r5⟩:=Y.o;obtain⟨F,Q⟩:=X.o;rw[r5] at F;have h3:=DC r2 U.size F Q;refine⟨k / 256,l++[(k:Int) % 256],_,rfl,by go_num,by have:=HK.o;omega,?_,h3.1,U.trans (h3.2.bl),by rw[ZX];simp,by rw[ZX,List.length_singleton,<-r5];omega⟩;rw[List.append_assoc,List.singleton_append,<-r1,r4];have:((k % 256:Nat):Int)=(k:Int) % 256:=by omega
    rw[this]
   case measure=>simp[intOf];omega
structure AS where
 at_:Nat
 short:Nat
 err:Int
def Bw (D:Nat):Value:= .iface 88 (.pointer (some ⟨D,0,none⟩))
structure Bp (w:World)(P D:Nat)(g:AS):Prop where
 c0:w.cell? ⟨P,0,none⟩=some (Bw D)
 c1:w.cell? ⟨P,1,none⟩=some (.int .i64 g.at_)
 c2:w.cell? ⟨P,2,none⟩=some (.int .i64 g.short)
 c3:w.cell? ⟨P,3,none⟩=some (AH g.err)
 fz:∀o,w.frozen? ⟨P,o,none⟩=false
def Za4 (w:World):Prop:=∀i,i<3->w.cell? ⟨1,i,none⟩=some (.string (Da i))
theorem VN (v:Value)(w:World):(Go.method 596 88 v "Append").run prog w= .ok (316,v) w:=by kernel_rfl
theorem Qx (v:Value)(w:World):(Go.method 596 88 v "Sync").run prog w= .ok (320,v) w:=by kernel_rfl
theorem VO (v:Value)(w:World):(Go.method 596 88 v "Read").run prog w= .ok (318,v) w:=by kernel_rfl
theorem make8 (w:World)(n:Nat)(hn:n<=100000):(Instr.makeSlice 112 (.int .i64 (n:Int)) (.int .i64 (n:Int))).run prog w= .ok (.slice (some ⟨w.heap.size,0,none⟩) n n) (w.alloc (.cells (madeCells (.int .u8 0:Value).cells (n * 1)) 5)):=by
 obtain⟨i,hi,c,a,b⟩:=info_parts LL;have:=run_makeSlice (P:=prog) w 112 5 i _ underlying112 hi c .i64 .i64 n n (by omega) (by omega) (by rw[a];simp;omega) (by rw[b];omega) (by omega);rw[a] at this;simpa using this
theorem made8 (n:Nat):(madeCells (.int .u8 0:Value).cells (n * 1)).toList=bv (List.replicate n 0):=by
 have h:(madeCells (.int .u8 0:Value).cells (n * 1)).toList=(List.replicate n (.int .u8 0:Value).cells.toList).flatten:=by rw[<-Zb2];rfl
 rw[h];unfold bv;rw[List.map_replicate]
 induction n with
 | zero=>rfl
 | succ n a=>rw[List.replicate_succ,List.flatten_cons,List.replicate_succ,a (by rw[<-Zb2];rfl)];rfl
theorem VI (w:World)(P D:Nat)(g:AS)(h:Bp w P D g) :
  Calls prog 222 #[.pointer (some ⟨P,0,none⟩)] w fun x w'=>x= .returned (AH g.err)/\w'=w:=by
 have c0:=h.c0;have c3:=h.c3;unfold Bw at c0;obtain⟨v,a⟩:∃v,v=AH g.err:=⟨_,rfl⟩;rw[<-a] at c3 ⊢;clear h a
 go_enter func222,ntmps222
 go_wp2_with fail
 go_ret
 exact⟨rfl,rfl⟩
theorem Kd (w:World)(P a lb:Nat)(v:Value)(g:w.cell? ⟨lb,0,none⟩=some (.pointer (some ⟨P,0,none⟩)))(h:w.cell? ⟨a,0,none⟩=some v)(c:v= .nilIface\/∃t x,v= .iface t x)(b:∃x,w.cell? ⟨P,3,none⟩=some x)(j:w.frozen? ⟨P,3,none⟩=false) :
  CallsD prog 223 #[.pointer (some ⟨a,0,none⟩), .pointer (some ⟨lb,0,none⟩)] .returning w fun e f w'=>f= .returning/\(e= .returned (.tuple #[])/\w'=w.setCell ⟨P,3,none⟩ v):=by
 obtain⟨x,b⟩:=b;rcases c with rfl | ⟨t,y,rfl⟩
 all_goals
  go_enter_d func223,ntmps223
  go_wp2_with fail
  go_end0
  exact⟨rfl,rfl⟩
def AS.op (g:AS)(l:List Int):Jp:=⟨2,g.at_,Zcx g.short l⟩
def Ea (g:AS)(d:Ay)(l:List Int):Int:=if g.err≠0 then g.err else if d.BW (g.op l)≠0 then d.BW (g.op l) else (d.told (g.op l)).Bx
def FH (g:AS)(d:Ay)(l:List Int):AS:=if g.err≠0 then g else if d.BW (g.op l)≠0 then { g with err:=d.BW (g.op l) } else { g with short:=0,err:=(d.told (g.op l)).Bx }
def CO (g:AS)(d:Ay)(l:List Int):Ay:=if g.err≠0 then d else if d.BW (g.op l)≠0 then d.told (g.op l) else (d.told (g.op l)).synced
structure LF (w w':World)(P R D bd bn:Nat):Prop where
 os:w'.os=w.os
 tape:w'.tape=w.tape
 output:w'.output=w.output
 size:w.heap.size<=w'.heap.size
 block:∀k,k<w.heap.size->k≠P->k≠D->k≠bd->k≠bn->(k<R\/∀cs fr,w.heap[k]? ≠some (.cells cs 210 fr))->w'.heap[k]? =w.heap[k]?
 off:∀o,4<=o->w'.cell? ⟨P,o,none⟩=w.cell? ⟨P,o,none⟩
 AE:∀o,w'.frozen? ⟨P,o,none⟩=w.frozen? ⟨P,o,none⟩
theorem LF.trans {x y z:World}(h:LF x y P R D bd bn)(g:LF y z P R D bd bn):LF x z P R D bd bn :=
 ⟨g.os.trans h.os,g.tape.trans h.tape,g.output.trans h.output,Zv h.size g.size,fun k l b c f j a=>by
  have e:=h.block k l b c f j a;exact (g.block k (Zy l h.size) b c f j (a.imp id (fun a cs fr=>by rw[e];exact a cs fr))).trans e,fun o m=>(g.off o m).trans (h.off o m),fun o=>(g.AE o).trans (h.AE o)⟩
structure LNe (P R D bd bn:Nat):Prop where
 d:P≠D
 md:P≠bd
 mn:P≠bn
 r:P<R
 gl:4<P/\4<D/\4<bd/\4<bn
theorem LF.Ae (R D bd bn:Nat)(h:Below w.heap.size w w')(b:P<w.heap.size):LF w w' P R D bd bn:=⟨h.os,h.tape,h.output,h.size,fun k c _ _ _ _ _=>h.block k c,fun o _=>World.cell?_of_block (a:=⟨P,o,none⟩) (h.block P b),fun o=>World.frozen?_of_block (a:=⟨P,o,none⟩) (h.block P b)⟩
theorem LF.Bt (w:World)(P R D bd bn o:Nat)(v:Value)(c:o<4):LF w (w.setCell ⟨P,o,none⟩ v) P R D bd bn :=
 have g:=GF.set w P o v
 ⟨rfl,rfl,rfl,g.size,fun k b a _ _ _ _=>g.block k b a (fun x=>x),fun x e=>g.off x (by omega),g.AE⟩
theorem LF.of_df (h:DF w w' R D bd bn)(j:P<w.heap.size)(hn:LNe P R D bd bn):LF w w' P R D bd bn:=by
 have e:=h.block P j hn.d hn.md hn.mn (Zu hn.r);exact⟨h.os,h.tape,h.output,h.size,fun k l _ b c f g=>h.block k l b c f g,fun o _=>World.cell?_of_block (a:=⟨P,o,none⟩) e,fun o=>World.frozen?_of_block (a:=⟨P,o,none⟩) e⟩
theorem Bp.at_ {g:AS}(h:Bp w P D g)(e:w'.heap[P]? =w.heap[P]?):Bp w' P D g :=
 ⟨(World.cell?_of_block (a:=⟨P,0,none⟩) e).trans h.c0,(World.cell?_of_block (a:=⟨P,1,none⟩) e).trans h.c1,(World.cell?_of_block (a:=⟨P,2,none⟩) e).trans h.c2,(World.cell?_of_block (a:=⟨P,3,none⟩) e).trans h.c3,fun o=>(World.frozen?_of_block (a:=⟨P,o,none⟩) e).trans (h.fz o)⟩
theorem Bp.setS {g:AS}(h:Bp w P D g)(n:Nat):Bp (w.setCell ⟨P,2,none⟩ (.int .i64 n)) P D { g with short:=n } :=
 have f:=GF.set w P 2 (.int .i64 n)
 ⟨(f.off 0 (by omega)).trans h.c0,(f.off 1 (by omega)).trans h.c1,World.cell?_setCell_same _ _ _ h.c2,(f.off 3 (by omega)).trans h.c3,fun o=>(f.AE o).trans (h.fz o)⟩
theorem Bp.Ir {g:AS}(h:Bp w P D g)(v:Int):Bp (w.setCell ⟨P,3,none⟩ (AH v)) P D { g with err:=v } :=
 have f:=GF.set w P 3 (AH v)
 ⟨(f.off 0 (by omega)).trans h.c0,(f.off 1 (by omega)).trans h.c1,(f.off 2 (by omega)).trans h.c2,World.cell?_setCell_same _ _ _ h.c3,fun o=>(f.AE o).trans (h.fz o)⟩
theorem Av.Bt (h:Av w R D bd bn d)(hn:LNe P R D bd bn)(o:Nat)(v:Value){x:Value}(b:w.cell? ⟨P,1,none⟩=some x):Av (w.setCell ⟨P,o,none⟩ v) R D bd bn d:=by
 obtain⟨pa,p,q1,j⟩:=h.c;have a:∀k,k≠P->(w.setCell ⟨P,o,none⟩ v).heap[k]? =w.heap[k]? :=fun k n=>Zl w ⟨P,o,none⟩ v k n;obtain⟨l,q⟩:=h.fd;obtain⟨m,t⟩:=h.fn
 have f:∀k s,Zde w k s->(w.setCell ⟨P,o,none⟩ v).heap[k]? =w.heap[k]? :=fun k s e=>a k (fun y=>by
  subst y;unfold World.cell? at b;unfold Zde at e;rw[e] at b;simp at b)
 refine⟨by simpa[World.setCell] using h.rs,⟨pa,p,q1.at_ (a D (Ne.symm hn.d)),j.1,?_⟩,⟨l,q.Et (a bd (Ne.symm hn.md)) f⟩,⟨m,t.Et (a bn (Ne.symm hn.mn)) f⟩,h.ne,h.Bs,h.ops⟩;rcases j.2 with x | ⟨g,cap,cur,x,hg,hh,r⟩
 ·exact Zu x
 ·exact Zj ⟨g,cap,cur,x,hg,(a g (by have:=hn.r;omega)).trans hh,r⟩
end Go.Proofs.YtgdcjccbdmcebaaGreatDoor
