import Derived.Test.YtgdcjccbdmcebaaGreatDoorM21
import Derived.Laws.BitsAllLaws
import Derived.Lib.AppendStr
set_option linter.all false
set_option maxHeartbeats 8000000
set_option maxRecDepth 100000
open Go.Proofs.Tryz
open Go renaming info_parts->QJk,method->QDn,madeCells->QGu,cell_later->QFa,rounds_succ->QGv,wpList_append_own->QFb,heap_alloc_new->QFm
open Go.Addr renaming mk.injEq->QJl
open Go.Value renaming oneCell'->QFu,ownBlock->QCi,iface->QJm,nilIface->QJn,slice.injEq->QGx
open Go.World renaming ownsRow_lit->QJo,ownsRow_nil->QEj,news_of_block->QJh,cell?_setCell_same->QDz,setCell->QDw,frozen?_of_block->QDx,cell?_of_block->QEc
open List renaming take_length->QHn,foldl_append->QJp,take_add_one->QEq,mem_cons_self->QDa,replicate_succ->QDf,mem_cons_of_mem->QDg,singleton_append->QJq,replicate->QAw,foldl_cons->QDe,length_replicate->QHp,append_assoc->QHz,length_cons->QAs
open Ne renaming symm->QJr
open Option renaming toList_some->QJs,some.injEq->QCf
namespace Go.Proofs.YtgdcjccbdmcebaaGreatDoor
open Go.RowKit
attribute [local go_sem ↓] Go.wp_at_zero Go.wp_at_succ
variable {w w':World}{P D bd bn R lb eb i:Nat}{v x:Value}{d:Ax}{cs:Array Value}{pa:Option Addr}
structure DFb (w w':World)(R D bd bn g:Nat):Prop where
 os:w'.os=w.os
 tape:w'.tape=w.tape
 output:w'.output=w.output
 size:w.heap.size<=w'.heap.size
 block:∀k,k<w.heap.size->k≠D->k≠bd->k≠bn->k≠g->(k<R\/∀cs fr,w.heap[k]? ≠some (.cells cs 210 fr))->w'.heap[k]? =w.heap[k]?
theorem Av.one {g:Nat}(h:Av w R D bd bn d)(a:AA w w' g){fr:Nat×Nat}(hg:w.heap[g]? =some (.cells cs 5 fr)):Av w' R D bd bn d:=by
 obtain⟨pa,s,q1,_⟩:=h.c;obtain⟨q,m⟩:=h.fd;obtain⟨r,n⟩:=h.fn
 have hm:∀b f j,AE w b f j->b≠g:=fun b f j p e=>by
  obtain⟨es,c,l,_⟩:=p.own;rw[e,hg] at l;cases l
 exact h.Ak a.size (a.block D (Zaa q1.Au) (Zah q1.Au hg (by decide))) (a.block bd m.lt (hm _ _ _ m)) (a.block bn n.lt (hm _ _ _ n)) (fun k cs t fr e o=>a.block k (Zaa e) (Zah e hg (by rcases o with rfl | rfl<;>decide)))
theorem UK (w:World)(R D bd bn B0 g c:Nat)(d:Ax)(o:Jr)(h:Av w R D bd bn d)(hf:d.Ap.length<8)(N:o.at_<3)(hk:o.kind=1\/o.kind=2)(O:∀s,d.now o.at_=some s->s.length+o.data.length<=9223372036854775807)(y:Al B0 w (.slice (some ⟨g,0,none⟩) o.data.length c) o.data)(hl:o.data.length<=1099511627776) :
  Calls prog 322 #[.pointer (some ⟨D,0,none⟩),.int .i64 o.kind,.string (CX o.at_),.slice (some ⟨g,0,none⟩) o.data.length c] w fun x w'=>x=.returned (AK (d.BU o))/\Av w' R D bd bn (d.told o)/\DFb w w' R D bd bn g:=by
 have j:o.kind=1\/o.kind=2\/o.kind=3:=by rcases hk with h | h;exact Zu h;exact Zj (Zu h)
 have E:=Zz (WX w R D bd bn d o h hf ⟨N,j⟩ O);obtain⟨nm,q⟩:∃nm,nm=CX o.at_:=⟨_,rfl⟩;obtain⟨sd,t⟩:∃sd,sd=Zbn o.data:=⟨_,rfl⟩;obtain⟨kd,p⟩:∃kd,kd=o.kind:=⟨_,rfl⟩;obtain⟨n,hn⟩:∃n,n=o.data.length:=⟨_,rfl⟩;obtain⟨M,m⟩:∃M,M=AK (d.BU o):=⟨_,rfl⟩
 have G:(convert 112 9 (.slice (some ⟨g,0,none⟩) n c)).run prog w=.ok (.string sd) w:=by
  rw[hn,t];exact FO (fun k hk=>World.ownsRow.cellAt y k (by omega))
 have S:=Zz (Zq q (Zq t (Zq p (Zq hn m))));have C:=Zz (Zq y h);unfold opV at E;rw[<-q,<-t,<-p,<-m] at E;rw[<-q,<-p,<-hn,<-m];rw[<-hn] at hl;clear h q t p hn y O j hk N hf m
 go_enter func322,ntmps322
 go_wp2_with (go_at_call 324;refine E.o.mono ?_;rintro _ I ⟨rfl,B,b⟩;have H1:=Zz (Zq B b);clear B b)
 have K:=Zz (show I.ownsRow B0 5 1 (.slice (some ⟨g,0,none⟩) n c) n (bv o.data) by
  have y:=C.o.1;unfold Al at y;rw[<-S.o.2.2.2.1] at y;refine⟨y.1,?_⟩;rcases y.2 with x | ⟨A,cap,cur,x,hg,hh,r⟩
  .exact Zu x
  .obtain⟨pa,pc,q1,_⟩:=C.o.2.c
   obtain⟨W,U⟩:=C.o.2.fd;obtain⟨X,V⟩:=C.o.2.fn
   have hm:∀F f J,AE w F f J->A≠F:=fun F f J T e=>by
    obtain⟨es,c,L,_⟩:=T.own;rw[<-e,hh] at L;cases L
   exact Zj ⟨A,cap,cur,x,hg,(H1.o.2.block A (Zaa hh) (Zah hh q1.Au (by decide)) (hm _ _ _ U) (hm _ _ _ V) (Zj (fun cs fr e=>by rw[hh] at e;simp only[QCf,Obj.cells.injEq] at e;exact absurd e.2.1 (by decide)))).trans hh,r⟩)
 go_loopw [20] (fun H wr=>∃(i:Nat) (Q:List Value),H=.int .i64 i/\i<=n/\wr.ownsRow B0 5 1 (.slice (some ⟨g,0,none⟩) n c) n Q/\AA I wr g) (fun H _=>n - (intOf H).toNat)
 case atStart =>
  exact⟨0,bv o.data,rfl,by omega,K.o,AA.refl _ _⟩
 case round =>
  obtain⟨i,Q,rfl,hi,a,l⟩:=hrel;by_cases Y:i<n
  .have t0:=a.cellAt i (by omega)
   obtain⟨u,hu⟩:∃u,wr.cell? ⟨g,i,none⟩=some u:=by
    have Z:=a.1;rw[t0];exact⟨_,ZZ (by omega)⟩
   have f0:=a.frozenAt i;have z:=Zz (Zq a l);have i1:(i:Int)<(n:Int):=by omega
   clear t0 a l;go_wp2_with fail
   go_roundw
   case rel=>exact⟨i+1,_,by go_num,by omega,(z.o.1.stored i (.int .u8 33)).1,z.o.2.set i _⟩
   case measure=>simp[intOf];omega
  .have i1:¬(i:Int)<(n:Int):=by omega
   have z:=Zz (Zq a l);clear a l;go_wp2_with fail
   go_ret
   obtain⟨cs,fr,hg⟩:∃cs fr,I.heap[g]? =some (.cells cs 5 fr):=by
    rcases K.o.2 with⟨x,_⟩ | ⟨A,cap,cur,x,_,hh,_⟩
    .simp at x
    .obtain rfl:g=A:=by simp only[QGx,QCf,QJl] at x;exact x.1.1
     exact⟨_,_,hh⟩
   refine⟨rfl,H1.o.1.one z.o.2 hg,?_⟩;have b:=H1.o.2;have l:=z.o.2;exact⟨l.os.trans b.os,l.tape.trans b.tape,l.output.trans b.output,Zv b.size l.size,fun k hk a1 a2 a3 a4 a5=>(l.block k (Zy hk b.size) a4).trans (b.block k hk a1 a2 a3 a5)⟩
theorem NQ (w:World)(R D bd bn B0 g c:Nat)(d:Ax)(i:Nat)(l:List Int)(h:Av w R D bd bn d)(hf:d.Ap.length<8)(j:i<3)(b:∀s,d.now i=some s->s.length+l.length<=9223372036854775807)(a:Al B0 w (.slice (some ⟨g,0,none⟩) l.length c) l)(hl:l.length<=1099511627776) :
  Calls prog 316 #[.pointer (some ⟨D,0,none⟩),.string (CX i),.slice (some ⟨g,0,none⟩) l.length c] w fun x w'=>x=.returned (AK (d.BU ⟨2,i,l⟩))/\Av w' R D bd bn (d.told ⟨2,i,l⟩)/\DFb w w' R D bd bn g:=by
 have e:=Zz (UK w R D bd bn B0 g c d ⟨2,i,l⟩ h hf j (Zj rfl) b a hl);clear h hf b a
 go_enter func316,ntmps316
 go_wp2_with (go_at_call 322;refine e.o.mono ?_;rintro _ k ⟨rfl,f⟩)
 go_ret
 exact⟨rfl,f⟩
theorem Av.didD {f:BI}(h:Av w R D bd bn d)(hf:∃l,AE w' bd f l)(a:AA w w' bd):Av w' R D bd bn { d with CH:=f }/\∀(k:Nat) (ob:Obj),w.heap[k]? =some ob->(∀es c,ob≠Obj.map es c)->w'.heap[k]? =w.heap[k]? :=by
 obtain⟨pa,n,q1,b⟩:=h.c;obtain⟨p,o⟩:=h.fd;obtain⟨m,j⟩:=h.fn;obtain⟨es,cl,hm,_⟩:=o.own
 have stay:∀(k:Nat) (ob:Obj),w.heap[k]? =some ob->(∀es c,ob≠Obj.map es c)->w'.heap[k]? =w.heap[k]? :=fun k ob e hn=>a.block k (Zaa e) (fun x=>by
  subst x;rw[hm] at e;exact hn es cl (Option.some.inj e).symm)
 refine⟨⟨Zv h.rs a.size,⟨pa,n,q1.at_ (stay D _ q1.Au (fun _ _ x=>by cases x)),b.1,?_⟩,hf,⟨m,j.Ak (a.block bn j.lt (QJr h.ne)) (fun k cs fr e=>stay k _ e (fun _ _ x=>by cases x))⟩,h.ne,h.Br,h.ops⟩,stay⟩;rcases b.2 with x | ⟨g,cap,cur,x,hg,hh,r⟩
 .exact Zu x
 .exact Zj ⟨g,cap,cur,x,hg,(stay g _ hh (fun _ _ x=>by cases x)).trans hh,r⟩
theorem LG {M:Nat}:∀(l:List Jr) (f:BI) (N:Nat),Hs f N->(∀o∈l,o.data.length<=M)->Hs (l.foldl EB f) (N+l.length * M)
 | [],f,N,h,_=>by simpa using h
 | o::l,f,N,h,hd=>by
  rw[QDe,QAs];have:=LG l (EB f o) (N+M) (h.do_ o (by have:=hd o (QDa ..);omega)) (fun x a=>hd x (QDg _ a));refine this.mono ?_;rw[Nat.add_mul];omega
theorem dcell {e a n:Nat}{l:List Jr}(h:w.ownsRow R 210 3 (.slice (some ⟨a,0,none⟩) n e) n (l.flatMap IW))(hn:l.length=n)(hi:i<n):w.cell? ⟨a,i * 3,none⟩=some (.int .i64 (l.getD i .z).kind)/\w.cell? ⟨a,i * 3+1,none⟩=some (.string (CX (l.getD i .z).at_))/\w.cell? ⟨a,i * 3+2,none⟩=some (.string (Zbn (l.getD i .z).data)):=by
 have b:∀j,j<3->w.cell? ⟨a,i * 3+j,none⟩=(IW (l.getD i .z))[j]? :=fun j c=>by
  rw[h.cellAt (i * 3+j) (by omega),Jt (z:=Jr.z) YR l (by omega) c]
 exact⟨b 0 (by omega),b 1 (by omega),b 2 (by omega)⟩
structure Lr (w wr:World)(R D bd bn pc:Nat)(pa:Option Addr)(d:Ax)(i:Nat):Prop where
 c:CF wr D bd bn (.slice pa d.Ap.length pc) d.left d.full d.down
 own:wr.ownsRow R 210 3 (.slice pa d.Ap.length pc) d.Ap.length (d.Ap.flatMap IW)
 at_:Av wr R D bd bn { d with CH:=(d.Ap.take i).foldl EB d.CH }
 f:DF w wr R D bd bn
theorem Lr.below {wr wx:World}{a:Nat}(h:Lr w wr R D bd bn a pa d i)(hb:ZY wr wx):Lr w wx R D bd bn a pa d i :=
 ⟨h.c.at_ (hb.block _ (Zaa h.c.Au)),Zak h.own hb,h.at_.below hb,h.f.trans (DF.Ae R D bd bn hb)⟩
theorem Ic (w:World)(R D bd bn M:Nat)(d:Ax)(h:Av w R D bd bn d)(hs:Hs d.CH M)(aj:∀o∈d.Ap,o.data.length<=M)(hM:M<=1099511627776) :
  Calls prog 320 #[.pointer (some ⟨D,0,none⟩)] w fun x w'=>x=.returned (AK d.Bz)/\Av w' R D bd bn d.synced/\DF w w' R D bd bn/\(d.Bz=0->w'.cell? ⟨D,2,none⟩=some (.slice none 0 0)):=by
 obtain⟨pa,pc,q1,q2⟩:=h.c;have t:=Zz (KV w D bd bn (.slice pa d.Ap.length pc) d q1);have T:=Zz (Zq h (Zq q1 q2));obtain⟨n,hn⟩:∃n,n=d.Ap.length:=⟨_,rfl⟩;have bh:n<=8:=by rw[hn];exact h.Br
 have X:=Zz hn;rw[<-hn] at t;by_cases H:d.Bz=0
 .have F:d.synced={ d.wrote with CH:=d.Ap.foldl EB d.CH,Ap:=[] }:=by unfold Ax.synced;rw[if_neg (by rw[H];decide)]
  rw[H] at t;rw[H,F];clear h q1 q2 hn H F
  go_enter func320,ntmps320
  go_upto_region 4 with (go_at_call 325;refine t.o.mono ?_;rintro _ w1 ⟨rfl,a,y⟩;have p:=Zz (Zq a y);clear a y;rw[Zaw])
  obtain⟨l,C⟩:∃l,l=d.wrote:=⟨_,rfl⟩
  have Q:Lr w w1 R D bd bn pc pa l 0:=by
   have a:=p.o.1;have hw:=Zay d;rw[X.o] at a;have h2:=T.o.1.wrote T.o.2.1 T.o.2.2 a p.o.2;rw[C];exact⟨by rw[hw.2.2];exact a,by rw[hw.2.2];exact h2.2,h2.1,DF.CK p.o.2 (Zu rfl)⟩
  have hp:l.Ap=d.Ap:=by rw[C];exact (Zay d).2.2
  have m2:=Q.c.cells.1.1.1.2;rw[hp,<-X.o] at m2;have HS:=Zz Q;have j:=Zz (Zq C hp);clear Q C hp;go_wp2_with fail
  go_loopw [16] (fun iv wr=>∃i:Nat,iv=.int .i64 i/\i<=n/\Lr w wr R D bd bn pc pa l i) (fun iv _=>n - (intOf iv).toNat)
  case atStart=>exact⟨0,rfl,by omega,HS.o⟩
  case round =>
   obtain⟨i,rfl,hi,m⟩:=hrel;by_cases h1:i<n
   .have u:l.Ap.length=n:=by rw[j.o.2];exact X.o.symm
    obtain⟨pg,ay,bj⟩:∃pg,pa=some ⟨pg,0,none⟩/\n<=pc:=by
     rcases m.own.2 with⟨_,x⟩ | ⟨g,cap,cur,x,_,_,x2,_⟩
     .omega
     .simp only[QGx] at x
      exact⟨g,x.1,by omega⟩
    subst ay;obtain⟨o,U⟩:∃o,o=l.Ap.getD i .z:=⟨_,rfl⟩;have A:=m.own;rw[u] at A;obtain⟨t0,t1,t2⟩:=dcell A u h1;rw[<-U] at t0 t1 t2;obtain⟨nm,L⟩:∃nm,nm=CX o.at_:=⟨_,rfl⟩;obtain⟨sd,S⟩:∃sd,sd=Zbn o.data:=⟨_,rfl⟩;obtain⟨kd,K⟩:∃kd,kd=o.kind:=⟨_,rfl⟩;rw[<-K] at t0;rw[<-L] at t1;rw[<-S] at t2;obtain⟨W,E⟩:∃W,W=wr.alloc (.cells #[.int .i64 kd,.string nm,.string sd] 210):=⟨_,rfl⟩;obtain⟨ob,N⟩:∃ob,ob=wr.heap.size:=⟨_,rfl⟩;have Z:ZY wr W:=by rw[E];exact ZV.alloc ZU _
    have b:W.heap[ob]? =some (.cells #[.int .i64 kd,.string nm,.string sd] 210 (0,0)):=by rw[E,N];exact QFm wr _
    have J:=m.below Z;have m0:=J.c.cells.1.1.1.1.1;have u0:=Zad b 0;have u1:=Zad b 1;have u2:=Zad b 2;have O:o∈l.Ap:=by rw[U];exact Zbz (z:=Jr.z) (by omega)
    have al:=Zz (show ∀wx,ZY W wx->Calls prog 106 #[.map (some bd),.agg #[.int .i64 kd,.string nm,.string sd]] wx fun x w'=>x=.returned (.tuple #[])/\Lr w w' R D bd bn pc (some ⟨pg,0,none⟩) l (i+1)/\w'.heap[ob]? =some (.cells #[.int .i64 kd,.string nm,.string sd] 210 (0,0)) from fun wx hb=>by
     have G:=J.below hb;obtain⟨Dd,aw⟩:=G.at_.fd;have I:=G.at_.ops o O;have bf:Hs ((l.Ap.take i).foldl EB l.CH) (M+(l.Ap.take i).length * M):=LG _ _ _ (by rw[j.o.1,(Zay d).1];exact hs) (fun x V=>aj x (by rw[<-j.o.2];exact List.mem_of_mem_take V))
     have hd:=PB wx bd _ Dd o aw I.1 I.2 (fun s az=>by
      have h4:=bf _ _ az;have h5:=aj o (by rw[<-j.o.2];exact O);have h6:(l.Ap.take i).length * M<=8 * M:=Nat.mul_le_mul_right _ (by rw[List.length_take];omega);omega)
     unfold opV at hd;rw[<-L,<-S,<-K] at hd;refine hd.mono ?_;rintro x w' ⟨rfl,hf,ag⟩;have q:=G.at_.didD hf ag
     have V:(l.Ap.take (i+1)).foldl EB l.CH=EB ((l.Ap.take i).foldl EB l.CH) o:=by
      rw[QEq,QJp,ZZ (by omega)];have:l.Ap[i]=o:=by rw[U,ZQ,ZZ (by omega)];rfl
      rw[QJs,this];rfl
     refine⟨rfl,⟨G.c.at_ (q.2 D _ G.c.Au (fun _ _ x=>by cases x)),⟨G.own.1,?_⟩,?_,G.f.trans (DF.CK ag (Zj (Zu rfl)))⟩,?_⟩
     .rcases G.own.2 with x | ⟨g,cap,cur,x,hg,hh,r⟩
      .exact Zu x
      .exact Zj ⟨g,cap,cur,x,hg,(q.2 g _ hh (fun _ _ x=>by cases x)).trans hh,r⟩
     .rw[V];exact q.1
     .have e1:=(hb.block ob (Zaa b)).trans b
      exact (q.2 ob _ e1 (fun _ _ x=>by cases x)).trans e1)
    have Y:=Zz (Zq E N);have i1:(i:Int)<(n:Int):=by omega
    clear E N Z b m J A O U L S K u
    go_upto_region 7 with fail
    rw[<-Y.o.2,<-Y.o.1];clear t0 t1 t2
    go_region_held3 (fun w'=>((w'.cell? ⟨D,0,none⟩=some (.map (some bd))/\w'.cell? ⟨ob,0,none⟩=some (.int .i64 kd))/\w'.cell? ⟨ob,1,none⟩=some (.string nm))/\w'.cell? ⟨ob,2,none⟩=some (.string sd)) (go_keep) ((go_at_call 106;refine (al.o W.drew (ZV.drew)).mono ?_;rintro _ w3 ⟨rfl,z1,z4⟩;have ar:=Zz z1;have y0:=z1.c.cells.1.1.1.1.1;have y1:w3.cell? ⟨ob,0,none⟩=some (.int .i64 kd):=Zad z4 0;have y2:w3.cell? ⟨ob,1,none⟩=some (.string nm):=Zad z4 1;have y3:w3.cell? ⟨ob,2,none⟩=some (.string sd):=Zad z4 2;clear z1 z4))
    all_goals
     clear u0 u1 u2 m0 y0 y1 y2 y3;go_wp2_with fail
     go_roundw
     case rel=>exact⟨i+1,by go_num,by omega,ar.o⟩
     case measure=>simp[intOf];omega
   .have i1:¬(i:Int)<(n:Int):=by omega
    have ax:i=n:=by omega
    have au:=Zz m;have m0:=m.c.cells.1.1.1.2;have m2:=m.c.AD 2;clear m;go_wp2_with fail
    go_ret
    have m:=au.o;have u:l.Ap.length=n:=by rw[j.o.2];exact X.o.symm
    obtain⟨Dd,q3⟩:=m.at_.fd;obtain⟨Dn,q4⟩:=m.at_.fn
    have B:∀bm f Dx,AE wr bm f Dx->AE (wr.setCell ⟨D,2,none⟩ (.slice none 0 0)) bm f Dx:=fun bm f Dx V=>by
     obtain⟨es,c,F,_⟩:=V.own;exact V.Ak (Zl wr ⟨D,2,none⟩ _ bm (fun e=>by rw[e,m.c.Au] at F;cases F)) (fun k cs fr e=>Zl wr ⟨D,2,none⟩ _ k (Zah e m.c.Au (by decide)))
    refine⟨by rw[Zaw];rfl,⟨by have:=m.at_.rs;simpa[QDw] using this,⟨none,0,?_,QEj _ _ _ _⟩,⟨Dd,?_⟩,⟨Dn,?_⟩,m.at_.ne,Nat.zero_le _,fun o U=>by cases U⟩,?_,(m.c.Bv (.slice none 0 0)).cells.1.1.1.2⟩
    .have:=m.c.Bv (.slice none 0 0)
     rw[j.o.1] at this;exact this
    .have:=B _ _ _ q3
     rw[ax,<-u,QHn,j.o.2,j.o.1,(Zay d).1] at this;exact this
    .have:=B _ _ _ q4
     rw[j.o.1] at this;exact this
    .exact m.f.trans (DF.CK ((AA.refl wr D).set 2 _) (Zu rfl))
 .have F:d.synced=d.wrote:=by unfold Ax.synced;rw[if_pos H]
  rw[F];obtain⟨er,ae⟩:∃er,er=d.Bz:=⟨_,rfl⟩;rw[<-ae] at t H ⊢;have HE:=Zz H;clear h q1 q2 hn F ae H
  go_enter func320,ntmps320
  go_wp2_with (go_at_call 325;refine t.o.mono ?_;rintro _ w1 ⟨rfl,a,y⟩;have p:=Zz (Zq a y);clear a y;rw[Zan HE.o])
  go_ret
  have a:=p.o.1;rw[X.o] at a;exact⟨by rw[Zan HE.o];rfl,(T.o.1.wrote T.o.2.1 T.o.2.2 a p.o.2).1,DF.CK p.o.2 (Zu rfl),fun x=>absurd x HE.o⟩
theorem Sq (w:World)(R D bd bn M:Nat)(d:Ax)(h:Av w R D bd bn d)(c:Hs d.CH M)(a:∀o∈d.Ap,o.data.length<=M)(b:M<=1099511627776) :
  Calls prog 320 #[.pointer (some ⟨D,0,none⟩)] w fun x w'=>x=.returned (AK d.Bz)/\Av w' R D bd bn d.synced/\DF w w' R D bd bn :=
 (Ic w R D bd bn M d h c a b).mono fun _ _ h=>⟨h.1,h.2.1,h.2.2.1⟩
theorem Av.raise {a:Nat}(h:Av w R D bd bn d)(hp:d.Ap=[])(j:w.cell? ⟨D,2,none⟩=some (.slice none 0 0))(g:a<=w.heap.size):Av w a D bd bn d:=by
 obtain⟨pa,l,q1,m⟩:=h.c;have e:=q1.cells.1.1.1.2;rw[j] at e;simp only[QCf,QGx] at e;obtain⟨b,k,f⟩:=e;subst b f;refine⟨g,⟨none,0,q1,?_⟩,h.fd,h.fn,h.ne,h.Br,h.ops⟩;rw[hp];exact QEj _ _ _ _
theorem Yn (s c:Nat):SI s c<4294967296:=by unfold SI;exact Nat.mod_lt _ (by omega)
theorem UW (l:List Int):DE l<4294967296:=by
 have:∀(l:List Int) (s:Nat),s<4294967296->l.foldl (fun s c=>SI s c.toNat) s<4294967296:=by
  intro l
  induction l with
  | nil=>intro s h;exact h
  | cons a l b=>intro s h;rw[QDe];exact b _ (Yn _ _)
 exact this l _ (by omega)
theorem UX (l:List Int)(hi:i<l.length):DE (l.take (i+1))=SI (DE (l.take i)) (l.getD i 0).toNat:=by
 unfold DE;rw[QEq,QJp,ZZ hi,ZQ,ZZ hi,QJs,QDe,List.foldl_nil,Option.getD_some]
def Mg (l:List Int):Value:=.agg #[.int .u8 ((DE l % 256:Nat):Int),.int .u8 ((DE l / 256 % 256:Nat):Int),.int .u8 ((DE l / 65536 % 256:Nat):Int),.int .u8 ((DE l / 16777216 % 256 ||| 1:Nat):Int)]
theorem OU (w:World)(a:Option Addr)(c:Nat)(l:List Int)(hl:BC l)(hlen:l.length<=1099511627776)(h:Aw w a l.length c (fun k=>(l.getD k 0).toNat)) :
  Calls prog 243 #[.slice a l.length c] w fun x w'=>x=.returned (Mg l)/\ZY w w':=by
 obtain⟨n,hn⟩:∃n,n=l.length:=⟨_,rfl⟩;have H:=Zz h;have r:=Zz hn;rw[<-hn] at hlen ⊢;clear h hn
 go_enter func243,ntmps243
 go_wp2_with fail
 go_loop [3,9] (fun N u=>∃i:Nat,i<=n/\u=.int .i64 i/\N=.int .u32 (DE (l.take i):Nat)) (fun _ u=>n - (intOf u).toNat)
 case atStart=>exact⟨0,by omega,rfl,rfl⟩
 case round =>
  obtain⟨i,hi,rfl,rfl⟩:=hrel;by_cases z:i<n
  .obtain⟨b,o,rfl,M,_,K,e⟩:∃b o,a=some ⟨b,o,none⟩/\n<=c/\c<=maxLen/\b<w.heap.size/\∀k,k<n->w.cell? ⟨b,o+k,none⟩=some (.int .u8 (((l.getD k 0).toNat:Nat):Int))/\(l.getD k 0).toNat<256:=by
    rcases H.o with h | h
    .have:=r.o;omega
    .rw[<-r.o] at h;exact h
   obtain⟨t0,t1⟩:=e i z;have t0:=QFa ((Zk w.heap.size w).alloc ZU (.cells #[.int .u8 0,.int .u8 0,.int .u8 0,.int .u8 0] 390)) t0;obtain⟨x,t⟩:∃x,x=(l.getD i 0).toNat:=⟨_,rfl⟩;obtain⟨s,f⟩:∃s,s=DE (l.take i):=⟨_,rfl⟩;have p:s<4294967296:=by rw[f];exact UW _
   rw[<-t] at t0 t1;rw[<-f];have B:=u32_xor_nat s x p (by omega);have i1:(i:Int)<(n:Int):=by omega
   have y:=Zz (Zq t f);clear t f e;go_wp2_with fail
   go_round
   case rel=>exact⟨i+1,by omega,by go_num,by
    have q:=UX l (i:=i) (by have:=r.o;omega);rw[<-y.o.1,<-y.o.2] at q;rw[q];unfold SI
    congr 1⟩
   case measure=>simp[intOf];omega
  .have g:i=n:=by omega
   obtain⟨s,f⟩:∃s,s=DE l:=⟨_,rfl⟩;have p:s<4294967296:=by rw[f];exact UW _
   have A:l.take i=l:=by rw[g,r.o];exact QHn
   rw[A,<-f];have i1:¬(i:Int)<(n:Int):=by omega
   have C:=Zz f;clear f A g z;go_wp2_with fail
   refine wp_loop_rounds 5 ?_;rw[QGv];go_wp2_with fail
   rw[QGv];go_wp2_with fail
   rw[QGv];go_wp2_with fail
   rw[QGv];go_wp2_with fail
   rw[QGv];go_wp2_with fail
   have j:=u8_or_nat (s / 16777216) 1 (by omega) (by omega);have L:((s / 16777216:Nat):Int)=(s:Int) / 16777216:=by omega
   rw[L] at j;have m:bits BinOp.or .u8 ((s:Int) / 16777216) 1=((s / 16777216 ||| 1:Nat):Int):=j;rw[m]
   have J:Mg l=.agg #[.int .u8 ((s:Int) % 256),.int .u8 ((s:Int) / 256 % 256),.int .u8 ((s:Int) / 65536 % 256),.int .u8 ((s / 16777216 ||| 1:Nat):Int)]:=by
    unfold Mg;rw[<-C.o];have E:((s % 256:Nat):Int)=(s:Int) % 256:=by omega
    have F:((s / 256 % 256:Nat):Int)=(s:Int) / 256 % 256:=by omega
    have G:((s / 65536 % 256:Nat):Int)=(s:Int) / 65536 % 256:=by omega
    have I:s / 16777216 % 256=s / 16777216:=Nat.mod_eq_of_lt (by omega);rw[E,F,G,I]
   refine bodyPost_ret (results_cell_row rfl _ _ w.heap.size 390 #[.int .u8 ((s:Int) % 256),.int .u8 ((s:Int) / 256 % 256),.int .u8 ((s:Int) / 65536 % 256),.int .u8 ((s / 16777216 ||| 1:Nat):Int)] (0,0) _ rfl (QFm w _) underlying390 rfl rfl) rfl ?_;exact⟨by rw[J],ZV.alloc ZU _⟩
theorem Px {B:Nat}{b:World}{v':Value}{l m:List Int}(hl:Al B w v l)(e:B<=w.heap.size){ob:Obj}(a:b.ownsRow B 5 1 v' (l.length+m.length) (bv l++bv m))(hg:(w.alloc ob).grownBy b v.ownBlock):Al B b v' (l++m)/\F8 B w b:=by
 have c:Al B (w.alloc ob) v l:=hl.below (ZV.alloc ZU _);refine⟨?_,((F8.refl B w).alloc e ob).trans (F8.grown c hg (by simp;omega))⟩;unfold Al;rw[ZX,Hx];exact a
theorem IG {B:Nat}{b:World}{v':Value}{l m:List Int}(hl:Al B w v l)(c:B<=w.heap.size)(a:b.ownsRow B 5 1 v' (l.length+m.length) (bv l++bv m))(hg:w.grownBy b v.ownBlock):Al B b v' (l++m)/\F8 B w b:=by
 refine⟨?_,F8.grown hl hg c⟩;unfold Al;rw[ZX,Hx];exact a
theorem SJ (w:World)(B B0:Nat)(v:Value)(j:List Int)(rg rc:Nat)(l:List Int)(hv:Al B w v j)(hB:B<=w.heap.size)(A:Al B0 w (.slice (some ⟨rg,0,none⟩) l.length rc) l)(S:rg<B)(hl:BC l)(hlen:l.length<=1000000)(bf:1<=l.length)(hz:j.length<=1000000000) :
  Calls prog 224 #[v,.slice (some ⟨rg,0,none⟩) l.length rc] w fun x w'=>∃v',x=.returned v'/\Al B w' v' (j++Zar l)/\F8 B w w':=by
 obtain⟨n,hn⟩:∃n,n=l.length:=⟨_,rfl⟩;obtain⟨m,hm⟩:∃m,m=j.length:=⟨_,rfl⟩;obtain⟨i5,hi,V,W,X⟩:=QJk LK;have s:=Zz (Zq hi (Zq V (Zq W X)));have f:=Zz (Zq hn (Zq hm (Zq hl hv)));have HR:=Zz A;rw[<-hn] at hlen bf ⊢;rw[<-hm] at hz;have HV:=Zz (show w.ownsRow B 5 1 v m (bv j) by rw[hm];exact hv);clear hv A hn hm hl hi V W X
 go_enter func224,ntmps224
 go_upto_region 2 with (at_builtin;refine QFb _ rfl (.tmp 6) (.tmp 14) 112 rfl B 5 i5 (.int .u8 0) 1 1 underlying112 s.o.1 s.o.2.1 s.o.2.2.1 s.o.2.2.2 rfl (by decide) v m (bv j) rfl (HV.o.alloc _) ⟨w.heap.size,0,none⟩ 2 2 [.int .u8 ((n:Int) % 256),.int .u8 ((n:Int) / 256 % 256)] rfl rfl (QJh (cs:=#[.int .u8 ((n:Int) % 256),.int .u8 ((n:Int) / 256 % 256)]) (t:=5) (fr:=(0,0)) (QFm w _)) (by simp[QFu]) (by unfold maxLen;omega) (by omega) (by simp;omega) ?_;intro v2 Y u k b;clear b;have aj:=Zz (Zq u k);clear u k)
 have K:=Zz (show Al B Y v2 (j++Cu l)/\F8 B w Y by
  obtain⟨F,M⟩:=aj.o
  have e1:Cu l=[(n:Int) % 256,(n:Int) / 256 % 256]:=by
   unfold Cu;rw[<-f.o.1];have a1:((n % 256:Nat):Int)=(n:Int) % 256:=by omega
   have a2:((n / 256 % 256:Nat):Int)=(n:Int) / 256 % 256:=by omega
   rw[a1,a2]
  rw[f.o.2.1] at F;rw[e1];exact Px f.o.2.2.2 hB F M)
 have N:B<=Y.heap.size:=Zv hB K.o.2.bl.size
 have ax:=Zz (show Y.ownsRow B 5 1 v2 (m+2) (bv (j++Cu l)) by
  have:=K.o.1;unfold Al at this;rw[ZX,<-f.o.2.1] at this;exact this)
 have L:=Zz (show Al B0 Y (.slice (some ⟨rg,0,none⟩) n rc) l/\(bv l).length=n * 1 by
  refine⟨?_,by rw[Fj,f.o.1];omega⟩;have A:=HR.o;rw[<-f.o.1] at A;refine⟨A.1,?_⟩;rcases A.2 with x | ⟨g,cap,cur,x,hg,hh,r⟩
  .exact Zu x
  .obtain rfl:rg=g:=by simp only[QGx,QCf,QJl] at x;exact x.1.1
   exact Zj ⟨rg,cap,cur,x,hg,(K.o.2.bl.block rg S).trans hh,r⟩)
 go_upto_region 3 with (at_builtin;refine QFb _ rfl (.tmp 16) (.tmp 17) 112 rfl B 5 i5 (.int .u8 0) 1 1 underlying112 s.o.1 s.o.2.1 s.o.2.2.1 s.o.2.2.2 rfl (by decide) v2 (m+2) (bv (j++Cu l)) rfl ax.o ⟨rg,0,none⟩ n rc (bv l) rfl L.o.2 (World.ownsRow.cells L.o.1 rfl) (bv_one l) (by unfold maxLen;omega) (by omega) N ?_;intro v3 I y p b;clear b;have al:=Zz (Zq y p);clear y p)
 have Z:=Zz (show Al B I v3 (j++Cu l++l)/\F8 B w I by
  obtain⟨F,M⟩:=al.o;have e:(j++Cu l).length+l.length=m+2+n:=by rw[ZX,f.o.2.1,f.o.1];rfl
  rw[<-e] at F;have:=IG K.o.1 N F M;exact⟨this.1,K.o.2.trans this.2⟩)
 have az:B<=I.heap.size:=Zv hB Z.o.2.bl.size;obtain⟨s0,s1,s2,s3,U,T⟩:∃s0 s1 s2 s3,Mg l=.agg #[.int .u8 s0,.int .u8 s1,.int .u8 s2,.int .u8 s3]/\CV l=[s0,s1,s2,s3]:=⟨_,_,_,_,rfl,rfl⟩
 have au:=Zz (show Calls prog 243 #[.slice (some ⟨rg,0,none⟩) n rc] I fun x w'=>x=.returned (.agg #[.int .u8 s0,.int .u8 s1,.int .u8 s2,.int .u8 s3])/\ZY I w' by
  have A:=HR.o
  have bh:Al B0 I (.slice (some ⟨rg,0,none⟩) l.length rc) l:=by
   refine⟨A.1,?_⟩;rcases A.2 with x | ⟨g,cap,cur,x,hg,hh,r⟩
   .exact Zu x
   .obtain rfl:rg=g:=by simp only[QGx,QCf,QJl] at x;exact x.1.1
    exact Zj ⟨rg,cap,cur,x,hg,(Z.o.2.bl.block rg S).trans hh,r⟩
  obtain⟨a,c,e,_,_,hb,_,_⟩:=Me bh f.o.2.2.1;simp only[QGx,true_and] at e;obtain⟨rfl,rfl⟩:=e;have:=OU I (some ⟨rg,0,none⟩) rc l f.o.2.2.1 (by rw[<-f.o.1];omega) hb;rw[<-f.o.1,U] at this;exact this)
 have aw:=Zz T;clear U T
 go_upto_region 4 with (go_at_call 243;refine au.o.mono ?_;rintro _ w4 ⟨rfl,Q⟩;have ae:=Zz Q;clear Q)
 obtain⟨E,C⟩:∃E,E=w4.alloc (.cells #[.int .u8 s0,.int .u8 s1,.int .u8 s2,.int .u8 s3] 390):=⟨_,rfl⟩;obtain⟨sb,J⟩:∃sb,sb=w4.heap.size:=⟨_,rfl⟩;have H:E.heap[sb]? =some (.cells #[.int .u8 s0,.int .u8 s1,.int .u8 s2,.int .u8 s3] 390 (0,0)):=by rw[C,J];exact QFm w4 _
 have G:ZY w4 E:=by rw[C];exact ZV.alloc ZU _
 rw[<-C,<-J]
 have H5:=Zz (show Al B E v3 (j++Cu l++l)/\F8 B w E by
  have hb:ZY I E:=ae.o.trans' G;exact⟨Z.o.1.below hb,Z.o.2.trans (F8.Ae hb az)⟩)
 have O:B<=E.heap.size:=Zv hB H5.o.2.bl.size
 have ay:=Zz (show E.ownsRow B 5 1 v3 (m+2+n) (bv (j++Cu l++l)) by
  have:=H5.o.1;unfold Al at this;rw[ZX,ZX,<-f.o.2.1,<-f.o.1] at this;exact this)
 have ag:=Zz (QJh H);clear C J H G;go_wp2_with (at_builtin;refine QFb _ rfl (.tmp 21) (.tmp 22) 112 rfl B 5 i5 (.int .u8 0) 1 1 underlying112 s.o.1 s.o.2.1 s.o.2.2.1 s.o.2.2.2 rfl (by decide) v3 (m+2+n) (bv (j++Cu l++l)) rfl ay.o ⟨sb,0,none⟩ 4 4 [.int .u8 s0,.int .u8 s1,.int .u8 s2,.int .u8 s3] rfl rfl ag.o (by simp[QFu]) (by unfold maxLen;omega) (by omega) O ?_;intro v6 w6 z q b;clear b;have ar:=Zz (Zq z q);clear z q)
 go_ret
 obtain⟨F,M⟩:=ar.o;have e:(j++Cu l++l).length+(CV l).length=m+2+n+4:=by rw[ZX,ZX,f.o.2.1,f.o.1];rfl
 have e2:bv (CV l)=[.int .u8 s0,.int .u8 s1,.int .u8 s2,.int .u8 s3]:=by rw[aw.o];rfl
 rw[<-e,<-e2] at F;have h3:=IG H5.o.1 O F M;refine⟨v6,rfl,?_,H5.o.2.trans h3.2⟩;have:=h3.1;unfold Zar;rw[<-QHz,<-QHz];exact this
theorem Vw:∀n:Nat,BC (Ct n):=by
 intro n
 induction n using Nat.strongRecOn with
 | _ n b =>
  by_cases h:n=0
  .subst h;rw[Zd3];intro x a;cases a
  .rw[Fo h]
   intro x a;rcases List.mem_cons.1 a with rfl | a
   .omega
   .exact b (n / 256) (by omega) x a
theorem KO (l:List Int)(hl:BC l):(Zbn l).data.toList.map (fun b=>(b.toNat:Int))=l:=by
 have:∀(l:List Int) (b:ByteArray),BC l->(l.foldl (fun r n=>r.push (UInt8.ofNat n.toNat)) b).data.toList.map (fun b=>(b.toNat:Int))=b.data.toList.map (fun b=>(b.toNat:Int))++l:=by
  intro l
  induction l with
  | nil=>intro b _;simp
  | cons a l f =>
   intro b h;have g:=h a (QDa ..);rw[QDe,f _ (fun x c=>h x (QDg _ c))];simp only[ByteArray.push,Array.toList_push,List.map_append,List.map_cons,List.map_nil,QHz,QJq]
   congr 2
   have e:a.toNat<256:=by omega
   simp only[UInt8.toNat_ofNat',Nat.mod_eq_of_lt e];omega
 have h:=this l ByteArray.empty hl;unfold Zbn;rw[h];simp
theorem Pa (l:List Int)(hl:BC l):Lib.strCells (Zbn l)=bv l:=by
 have h:=KO l hl;unfold bv Lib.strCells
 conv=>rhs;rw[<-h]
 rw[List.map_map]
 rfl
theorem QK (w:World)(op:Int)(N:Nat)(data:List Int)(az:0<=op/\op<256)(U:N<18446744073709551616)(hd:BC data)(hl:data.length<=1000000) :
  Calls prog 151 #[.agg #[.int .i64 op,.int .u64 N,.string (Zbn data)]] w fun x w'=>∃g c,x=.returned (.slice (some ⟨g,0,none⟩) (AU op data N).length c)/\Al w.heap.size w' (.slice (some ⟨g,0,none⟩) (AU op data N).length c) (AU op data N)/\ZY w w':=by
 obtain⟨sd,u⟩:∃sd,sd=Zbn data:=⟨_,rfl⟩;obtain⟨n,hn⟩:∃n,n=data.length:=⟨_,rfl⟩;have K:sd.size=n:=by rw[u,Zeb,hn]
 obtain⟨i5,hi,M,O,Q⟩:=QJk LK;have A:=Zz (Zq hi (Zq M (Zq O Q)));obtain⟨y,z⟩:∃y,y=w.alloc (.cells #[.int .i64 op,.int .u64 N,.string sd] 29):=⟨_,rfl⟩;obtain⟨G,E⟩:∃G,G=w.heap.size:=⟨_,rfl⟩;have C:ZY w y:=by rw[z];exact ZV.alloc ZU _
 have b:y.heap[G]? =some (.cells #[.int .i64 op,.int .u64 N,.string sd] 29 (0,0)):=by rw[z,E];exact QFm w _
 have u0:=Zad b 0;have u1:=Zad b 1;have u2:=Zad b 2;have aj:=Zaa b;have au:=QFa ((Zk y.heap.size y).alloc ZU (.cells #[.int .u8 op] 5)) u2;have I:=QJo (e:=5) (base:=w.heap.size) (size:=1) y #[.int .u8 op] 1 C.size (by unfold maxLen;omega) rfl;have J:Lib.strCells sd=bv data:=by rw[u];exact Pa data hd
 have ae:=Zz I;have B:=Zz (Zq E (Zq z (Zq C (Zq b (Zq u (Zq hn (Zq K J)))))));have ax:IntKind.u8.wrap op=op:=by rw[IntKind.wrap_u8];omega
 rw[<-u];rw[<-hn] at hl;clear u z E C b hn K I hi M O Q hd J
 go_enter func151,ntmps151
 go_upto_region 1 with fail
 rw[<-B.o.1,<-B.o.2.1]
 go_upto_region 2 with (at_builtin;refine Lib.wpList_append_own_string _ rfl (.tmp 8) (.tmp 10) 112 9 rfl w.heap.size 5 i5 underlying112 underlying9 A.o.1 A.o.2.1 A.o.2.2.1 A.o.2.2.2 (.slice (some ⟨y.heap.size,0,none⟩) 1 1) 1 [.int .u8 op] rfl ae.o sd rfl (by have:=B.o.2.2.2.2.2.2.1;unfold maxLen;omega) (by have:=B.o.2.2.2.2.2.2.1;omega) (by have:=B.o.2.2.1.size;simp;omega) ?_;intro v2 w2 s j r;clear r;have X:=Zz (Zq s j);clear s j)
 have W:=Zz (show Al w.heap.size w2 v2 (op::data)/\ZY w w2/\w2.cell? ⟨G,1,none⟩=some (.int .u64 N) by
  obtain⟨H,T⟩:=X.o;obtain⟨q1,q2,q3,q4,q5,q6,q7,q8⟩:=B.o;have ag:ZY y (y.alloc (.cells #[.int .u8 op] 5)):=ZV.alloc ZU _;refine⟨?_,?_,?_⟩
  .unfold Al
   rw[q8,q7,q6] at H;have:(op::data).length=1+data.length:=by rw[QAs];omega
   rw[this];exact H
  .have L:=q3.size
   refine (q3.trans (ag.mono L)).grown T (by simp;omega) (fun k hk=> ?_);simp only[QCi,QCf] at hk;omega
  .refine (QEc (a:=⟨G,1,none⟩) ((T.block G (by simp;omega) (fun e=> ?_)).trans (Zam _ _ _ aj))).trans u1
   simp only[QCi,QCf] at e;omega)
 have u1:=W.o.2.2;clear u0 u2 au;go_wp2_with fail
 go_loopw [3,4] (fun xv nv wr=>∃(k:Nat) (l:List Int) (S:Value),S=xv/\nv=.int .u64 k/\k<18446744073709551616/\l++Ct k=AU op data N/\Al w.heap.size wr S l/\ZY w wr/\1<=l.length/\l.length+(Ct k).length<=1000009) (fun _ nv _=>(intOf nv).toNat)
 case atStart =>
  have:=Zd9 8 N U;exact⟨N,op::data,v2,rfl,rfl,U,rfl,W.o.1,W.o.2.1,by rw[QAs];omega,by rw[QAs,<-B.o.2.2.2.2.2.1];omega⟩
 case round =>
  obtain⟨k,l,S,rfl,rfl,hk,hrec,f,q,al,ar⟩:=hrel;by_cases h0:k=0
  .subst h0
   have Z:=Zz (Zq hrec (Zq f q));clear hrec f q;go_wp2_with fail
   go_ret
   obtain⟨r1,r2,V⟩:=Z.o;rw[Zd3,List.append_nil] at r1;obtain⟨a,c,e⟩:=Zaz r2;obtain⟨g,cap,e2,_⟩:=World.ownsRow.form r2 (by omega);rw[e] at e2;simp only[QGx] at e2;obtain⟨rfl,_,rfl⟩:=e2;rw[<-r1];refine⟨g,c,?_,?_,V⟩
   .exact congrArg Ending.returned e
   .rw[<-e];exact r2
  .obtain⟨m,hm⟩:∃m,m=l.length:=⟨_,rfl⟩
   have F:=Fo h0;have Z:=Zz (Zq hrec (Zq f (Zq q (Zq F hm))));have HV:=Zz (show wr.ownsRow w.heap.size 5 1 S m (bv l) by rw[hm];exact f);have bf:=q.size;have ay:(0:Int)<(k:Int):=by omega
   rw[F,QAs,<-hm] at ar;rw[<-hm] at al;have HK:=Zz hk;have aw:=Zz U;clear hrec f q F hm hk U;go_wp2_with (at_builtin;refine QFb _ rfl (.tmp 18) (.tmp 21) 112 rfl w.heap.size 5 i5 (.int .u8 0) 1 1 underlying112 A.o.1 A.o.2.1 A.o.2.2.1 A.o.2.2.2 rfl (by decide) S m (bv l) rfl (HV.o.alloc _) ⟨wr.heap.size,0,none⟩ 1 1 [.int .u8 ((k:Int) % 256)] rfl rfl (Ki _ _ _ _ rfl) (EZ _) (by unfold maxLen;omega) (by omega) (by simp;omega) ?_;intro v3 w3 t p r;clear r;have Y:=Zz (Zq t p);clear t p)
   go_roundw
   case rel =>
    obtain⟨r1,r2,V,r4,r5⟩:=Z.o;obtain⟨H,T⟩:=Y.o;rw[r5] at H;have h3:=Dv r2 V.size H T;refine⟨k / 256,l++[(k:Int) % 256],_,rfl,by go_num,by have:=HK.o;omega,?_,h3.1,V.trans (h3.2.bl),by rw[ZX];simp,by rw[ZX,List.length_singleton,<-r5];omega⟩;rw[QHz,QJq,<-r1,r4];have:((k % 256:Nat):Int)=(k:Int) % 256:=by omega
    rw[this]
   case measure=>simp[intOf];omega
structure AQ where
 at_:Nat
 short:Nat
 err:Int
def By (D:Nat):Value:=.iface 88 (.pointer (some ⟨D,0,none⟩))
structure Bs (w:World)(P D:Nat)(g:AQ):Prop where
 c0:w.cell? ⟨P,0,none⟩=some (By D)
 c1:w.cell? ⟨P,1,none⟩=some (.int .i64 g.at_)
 c2:w.cell? ⟨P,2,none⟩=some (.int .i64 g.short)
 c3:w.cell? ⟨P,3,none⟩=some (AK g.err)
 fz:∀o,w.frozen? ⟨P,o,none⟩=false
def Za4 (w:World):Prop:=∀i,i<3->w.cell? ⟨1,i,none⟩=some (.string (CX i))
theorem VG (v:Value)(w:World):(QDn 596 88 v "Append").run prog w=.ok (316,v) w:=by kernel_rfl
theorem Qr (v:Value)(w:World):(QDn 596 88 v "Sync").run prog w=.ok (320,v) w:=by kernel_rfl
theorem VH (v:Value)(w:World):(QDn 596 88 v "Read").run prog w=.ok (318,v) w:=by kernel_rfl
theorem make8 (w:World)(n:Nat)(hn:n<=100000):(Instr.makeSlice 112 (.int .i64 (n:Int)) (.int .i64 (n:Int))).run prog w=.ok (.slice (some ⟨w.heap.size,0,none⟩) n n) (w.alloc (.cells (QGu (.int .u8 0:Value).cells (n * 1)) 5)):=by
 obtain⟨i,hi,b,a,hb⟩:=QJk LK;have:=run_makeSlice (P:=prog) w 112 5 i _ underlying112 hi b .i64 .i64 n n (by omega) (by omega) (by rw[a];simp;omega) (by rw[hb];omega) (by omega);rw[a] at this;simpa using this
theorem made8 (n:Nat):(QGu (.int .u8 0:Value).cells (n * 1)).toList=bv (QAw n 0):=by
 have h:(QGu (.int .u8 0:Value).cells (n * 1)).toList=(QAw n (.int .u8 0:Value).cells.toList).flatten:=by rw[<-Zb5];rfl
 rw[h];unfold bv;rw[List.map_replicate]
 induction n with
 | zero=>rfl
 | succ n a=>rw[QDf,List.flatten_cons,QDf,a (by rw[<-Zb5];rfl)];rfl
theorem VB (w:World)(P D:Nat)(g:AQ)(h:Bs w P D g) :
  Calls prog 222 #[.pointer (some ⟨P,0,none⟩)] w fun x w'=>x=.returned (AK g.err)/\w'=w:=by
 have c0:=h.c0;have c3:=h.c3;unfold By at c0;obtain⟨v,a⟩:∃v,v=AK g.err:=⟨_,rfl⟩;rw[<-a] at c3 ⊢;clear h a
 go_enter func222,ntmps222
 go_wp2_with fail
 go_ret
 exact⟨rfl,rfl⟩
theorem Kb (w:World)(P eb lb:Nat)(v:Value)(f:w.cell? ⟨lb,0,none⟩=some (.pointer (some ⟨P,0,none⟩)))(g:w.cell? ⟨eb,0,none⟩=some v)(b:v=.nilIface\/∃t x,v=.iface t x)(a:∃x,w.cell? ⟨P,3,none⟩=some x)(j:w.frozen? ⟨P,3,none⟩=false) :
  CallsD prog 223 #[.pointer (some ⟨eb,0,none⟩),.pointer (some ⟨lb,0,none⟩)] .returning w fun e c w'=>c=.returning/\(e=.returned (.tuple #[])/\w'=w.setCell ⟨P,3,none⟩ v):=by
 obtain⟨x,a⟩:=a;rcases b with rfl | ⟨t,y,rfl⟩
 all_goals
  go_enter_d func223,ntmps223
  go_wp2_with fail
  go_end0
  exact⟨rfl,rfl⟩
def AQ.op (g:AQ)(l:List Int):Jr:=⟨2,g.at_,Zcx g.short l⟩
def Ec (g:AQ)(d:Ax)(l:List Int):Int:=if g.err≠0 then g.err else if d.BU (g.op l)≠0 then d.BU (g.op l) else (d.told (g.op l)).Bz
def FD (g:AQ)(d:Ax)(l:List Int):AQ:=if g.err≠0 then g else if d.BU (g.op l)≠0 then { g with err:=d.BU (g.op l) } else { g with short:=0,err:=(d.told (g.op l)).Bz }
def CN (g:AQ)(d:Ax)(l:List Int):Ax:=if g.err≠0 then d else if d.BU (g.op l)≠0 then d.told (g.op l) else (d.told (g.op l)).synced
structure LF (w w':World)(P R D bd bn:Nat):Prop where
 os:w'.os=w.os
 tape:w'.tape=w.tape
 output:w'.output=w.output
 size:w.heap.size<=w'.heap.size
 block:∀k,k<w.heap.size->k≠P->k≠D->k≠bd->k≠bn->(k<R\/∀cs fr,w.heap[k]? ≠some (.cells cs 210 fr))->w'.heap[k]? =w.heap[k]?
 off:∀o,4<=o->w'.cell? ⟨P,o,none⟩=w.cell? ⟨P,o,none⟩
 AD:∀o,w'.frozen? ⟨P,o,none⟩=w.frozen? ⟨P,o,none⟩
theorem LF.trans {x y z:World}(h:LF x y P R D bd bn)(g:LF y z P R D bd bn):LF x z P R D bd bn :=
 ⟨g.os.trans h.os,g.tape.trans h.tape,g.output.trans h.output,Zv h.size g.size,fun k hk b c f j a=>by
  have e:=h.block k hk b c f j a;exact (g.block k (Zy hk h.size) b c f j (a.imp id (fun a cs fr=>by rw[e];exact a cs fr))).trans e,fun o l=>(g.off o l).trans (h.off o l),fun o=>(g.AD o).trans (h.AD o)⟩
structure LNe (P R D bd bn:Nat):Prop where
 d:P≠D
 md:P≠bd
 mn:P≠bn
 r:P<R
 gl:4<P/\4<D/\4<bd/\4<bn
theorem LF.Ae (R D bd bn:Nat)(h:ZY w w')(b:P<w.heap.size):LF w w' P R D bd bn:=⟨h.os,h.tape,h.output,h.size,fun k hk _ _ _ _ _=>h.block k hk,fun o _=>QEc (a:=⟨P,o,none⟩) (h.block P b),fun o=>QDx (a:=⟨P,o,none⟩) (h.block P b)⟩
theorem LF.Bv (w:World)(P R D bd bn o:Nat)(v:Value)(b:o<4):LF w (w.setCell ⟨P,o,none⟩ v) P R D bd bn :=
 have g:=GF.set w P o v
 ⟨rfl,rfl,rfl,g.size,fun k hk a _ _ _ _=>g.block k hk a (fun x=>x),fun x c=>g.off x (by omega),g.AD⟩
theorem LF.of_df (h:DF w w' R D bd bn)(j:P<w.heap.size)(hn:LNe P R D bd bn):LF w w' P R D bd bn:=by
 have e:=h.block P j hn.d hn.md hn.mn (Zu hn.r);exact⟨h.os,h.tape,h.output,h.size,fun k hk _ b c f g=>h.block k hk b c f g,fun o _=>QEc (a:=⟨P,o,none⟩) e,fun o=>QDx (a:=⟨P,o,none⟩) e⟩
theorem Bs.at_ {g:AQ}(h:Bs w P D g)(e:w'.heap[P]? =w.heap[P]?):Bs w' P D g :=
 ⟨(QEc (a:=⟨P,0,none⟩) e).trans h.c0,(QEc (a:=⟨P,1,none⟩) e).trans h.c1,(QEc (a:=⟨P,2,none⟩) e).trans h.c2,(QEc (a:=⟨P,3,none⟩) e).trans h.c3,fun o=>(QDx (a:=⟨P,o,none⟩) e).trans (h.fz o)⟩
theorem Bs.setS {g:AQ}(h:Bs w P D g)(n:Nat):Bs (w.setCell ⟨P,2,none⟩ (.int .i64 n)) P D { g with short:=n } :=
 have f:=GF.set w P 2 (.int .i64 n)
 ⟨(f.off 0 (by omega)).trans h.c0,(f.off 1 (by omega)).trans h.c1,QDz _ _ _ h.c2,(f.off 3 (by omega)).trans h.c3,fun o=>(f.AD o).trans (h.fz o)⟩
theorem Bs.Iv {g:AQ}(h:Bs w P D g)(v:Int):Bs (w.setCell ⟨P,3,none⟩ (AK v)) P D { g with err:=v } :=
 have f:=GF.set w P 3 (AK v)
 ⟨(f.off 0 (by omega)).trans h.c0,(f.off 1 (by omega)).trans h.c1,(f.off 2 (by omega)).trans h.c2,QDz _ _ _ h.c3,fun o=>(f.AD o).trans (h.fz o)⟩
theorem Av.Bv (h:Av w R D bd bn d)(hn:LNe P R D bd bn)(o:Nat)(v:Value)(b:w.cell? ⟨P,1,none⟩=some x):Av (w.setCell ⟨P,o,none⟩ v) R D bd bn d:=by
 obtain⟨pa,n,q1,j⟩:=h.c;have a:∀k,k≠P->(w.setCell ⟨P,o,none⟩ v).heap[k]? =w.heap[k]? :=fun k hk=>Zl w ⟨P,o,none⟩ v k hk;obtain⟨l,p⟩:=h.fd;obtain⟨m,q⟩:=h.fn
 have f:∀k s,Zdg w k s->(w.setCell ⟨P,o,none⟩ v).heap[k]? =w.heap[k]? :=fun k s e=>a k (fun y=>by
  subst y;unfold World.cell? at b;unfold Zdg at e;rw[e] at b;simp at b)
 refine⟨by simpa[QDw] using h.rs,⟨pa,n,q1.at_ (a D (QJr hn.d)),j.1,?_⟩,⟨l,p.Eu (a bd (QJr hn.md)) f⟩,⟨m,q.Eu (a bn (QJr hn.mn)) f⟩,h.ne,h.Br,h.ops⟩;rcases j.2 with x | ⟨g,cap,cur,x,hg,hh,r⟩
 .exact Zu x
 .exact Zj ⟨g,cap,cur,x,hg,(a g (by have:=hn.r;omega)).trans hh,r⟩
theorem Fl (v:Int):AK v=.nilIface\/∃t x,AK v=.iface t x:=by
 by_cases h:v=0
 .subst h;exact Zu Zaw
 .exact Zj ⟨_,_,Zan h⟩
structure Dp (w:World)(lb eb P:Nat)(v:Value):Prop where
 l:w.heap[lb]? =some (.cells #[.pointer (some ⟨P,0,none⟩)] 372 (0,0))
 e:w.heap[eb]? =some (.cells #[v] 98 (0,0))
theorem Dp.cells (h:Dp w lb eb P v):w.cell? ⟨lb,0,none⟩=some (.pointer (some ⟨P,0,none⟩))/\w.cell? ⟨eb,0,none⟩=some v/\w.frozen? ⟨eb,0,none⟩=false:=⟨Zad h.l 0,Zad h.e 0,by simp[World.frozen?,h.e]⟩
theorem Dp.at_ (h:Dp w lb eb P v)(a:w'.heap[lb]? =w.heap[lb]?)(b:w'.heap[eb]? =w.heap[eb]?):Dp w' lb eb P v:=⟨a.trans h.l,b.trans h.e⟩
theorem Dp.set (h:Dp w lb eb P v)(x:Value):Dp (w.setCell ⟨eb,0,none⟩ x) lb eb P x:=⟨(Zl w ⟨eb,0,none⟩ x lb (Zah h.l h.e (by decide))).trans h.l,by rw[Zab h.e];rfl⟩
theorem Av.Iv (h:Av w R D bd bn d)(g:Dp w lb eb P v)(x:Value):Av (w.setCell ⟨eb,0,none⟩ x) R D bd bn d:=by
 obtain⟨pa,s,q1,u⟩:=h.c;obtain⟨q,o⟩:=h.fd;obtain⟨r,p⟩:=h.fn;have a:∀k,k≠eb->(w.setCell ⟨eb,0,none⟩ x).heap[k]? =w.heap[k]? :=fun k hk=>Zl w ⟨eb,0,none⟩ x k hk
 have hm:∀b f j,AE w b f j->b≠eb:=fun b f j n e=>by
  obtain⟨es,c,l,_⟩:=n.own;rw[e,g.e] at l;cases l
 exact h.Ak (by simp[QDw]) (a D (Zah q1.Au g.e (by decide))) (a bd (hm _ _ _ o)) (a bn (hm _ _ _ p)) (fun k cs t fr e m=>a k (Zah e g.e (by rcases m with rfl | rfl<;>decide)))
theorem LF.WJ {x:World}(h:LF w x P R D bd bn)(eb:Nat)(v:Value)(m:w.heap.size<=eb)(c:eb≠P):LF w (x.setCell ⟨eb,0,none⟩ v) P R D bd bn:=by
 have b:∀k,k≠eb->(x.setCell ⟨eb,0,none⟩ v).heap[k]? =x.heap[k]? :=fun k hk=>Zl x ⟨eb,0,none⟩ _ k hk;exact⟨h.os,h.tape,h.output,by simpa[QDw] using h.size,fun k hk e f g j l=>(b k (by omega)).trans (h.block k hk e f g j l),fun o n=>(QEc (a:=⟨P,o,none⟩) (b P (QJr c))).trans (h.off o n),fun o=>(QDx (a:=⟨P,o,none⟩) (b P (QJr c))).trans (h.AD o)⟩
theorem Vs {w7:World}{g:AQ}{v:Int}(m:Av w7 R D bd bn d)(n:Bs w7 P D g)(k:Dp w7 lb eb P x)(o:LF w w7 P R D bd bn)(hn:LNe P R D bd bn)(j:lb≠P)(c:eb≠P)(h:w.heap.size<=eb) :
  CallsD prog 223 #[.pointer (some ⟨eb,0,none⟩),.pointer (some ⟨lb,0,none⟩)] .returning (w7.setCell ⟨eb,0,none⟩ (AK v)) fun e l w'=>l=.returning/\(e=.returned (.tuple #[])/\w'.cell? ⟨eb,0,none⟩=some (AK v)/\Bs w' P D { g with err:=v }/\Av w' R D bd bn d/\LF w w' P R D bd bn):=by
 have b:=k.set (AK v);have a:=n.at_ (Zl w7 ⟨eb,0,none⟩ (AK v) P (QJr c));refine (Kb _ P eb lb (AK v) b.cells.1 b.cells.2.1 (Fl v) ⟨_,a.c3⟩ (a.fz 3)).mono ?_;rintro e l p ⟨rfl,rfl,rfl⟩;have f:=b.at_ (Zl (w7.setCell ⟨eb,0,none⟩ (AK v)) ⟨P,3,none⟩ (AK v) lb j) (Zl (w7.setCell ⟨eb,0,none⟩ (AK v)) ⟨P,3,none⟩ (AK v) eb c);exact⟨rfl,rfl,f.cells.2.1,a.Iv v,(m.Iv k _).Bv hn 3 _ a.c1,(LF.WJ o eb _ h c).trans (LF.Bv _ P R D bd bn 3 _ (by omega))⟩
theorem ZD {o:Jr}(h:d.BU o=0):(d.told o).CH=d.CH/\(d.told o).Ap=d.Ap++[o]:=by
 have hw:d.Bz=0:=by
  by_cases c:d.Bz=0
  .exact c
  .unfold Ax.BU at h;rw[if_pos c] at h;exact absurd h c
 unfold Ax.told;rw[if_neg (by rw[hw];decide),if_neg (by rw[h];decide)];exact⟨(Zay d).1,rfl⟩
theorem Vr (w:World)(P R D bd bn B0 rg rc M:Nat)(g:AQ)(d:Ax)(l:List Int)(hL:Bs w P D g)(hD:Av w R D bd bn d)(hn:LNe P R D bd bn)(hP:P<w.heap.size)(fq:d.Ap.length<8)(bw:g.at_<3)(dh:g.short<=100000)(J:Za4 w)(hr:Al B0 w (.slice (some ⟨rg,0,none⟩) l.length rc) l)(hl:BC l)(dd:1<=l.length)(hlen:l.length<=1000000)
  (ae:Hs d.CH M) (ag:Hs d.now M) (aj:∀o∈d.Ap,o.data.length<=M) (hM:M<=1000000000000) (hM2:2000000<=M) :
  Calls prog 150 #[.pointer (some ⟨P,0,none⟩),.slice (some ⟨rg,0,none⟩) l.length rc] w fun x w'=>x=.returned (AK (Ec g d l))/\Bs w' P D (FD g d l)/\Av w' R D bd bn (CN g d l)/\LF w w' P R D bd bn:=by
 have iz:∀(fn:Fn) (first cap:Array Value) (w:World),(Instr.makeFunc fn first cap).run prog w=.ok (.func fn first cap) w:=fun _ _ _ _=>rfl;obtain⟨n,F⟩:∃n,n=l.length:=⟨_,rfl⟩;obtain⟨w0,al⟩:∃w0,w0=(w.alloc (.cells #[.pointer (some ⟨P,0,none⟩)] 372)).alloc (.cells #[.nilIface] 98):=⟨_,rfl⟩;obtain⟨lb,Z⟩:∃lb,lb=w.heap.size:=⟨_,rfl⟩;obtain⟨eb,cm⟩:∃eb,eb=lb+1:=⟨_,rfl⟩;have aw:ZY w w0:=by rw[al];exact (ZV.alloc ZU _).alloc (by simp) _
 have au:Dp w0 lb eb P .nilIface:=⟨by rw[al,Zam _ _ _ (by rw[Z];simp),Z];exact QFm w _,by rw[al,cm,Z];exact Zbm _ _ _ _ (by simp)⟩;have U:=hL.at_ (aw.block P hP);have bo:=hD.below aw;have de:lb≠P:=by omega
 have q:eb≠P:=by omega
 have X:=Zz (VB w0 P D g U);have z:=Zz (Zq Z (Zq cm (Zq al aw)));obtain⟨y0,y1,y2⟩:=au.cells;have fh:=U.c3;have fj:=U.fz 3;by_cases hE:g.err=0
 .have HR:=Zz (Zq U (Zq bo au))
  have u:=Zz (Zq hn (Zq hr (Zq hl (Zq ae (Zq ag (Zq aj (Zq J (Zq F (Zq hL (Zq hD hE))))))))));rw[hE] at X;rw[<-F] at dd hlen ⊢;have dw:Hid (Calls prog 222 #[.pointer (some ⟨P,0,none⟩)] w0 fun x w'=>x=.returned .nilIface/\w'=w0):=Zz (by have:=X.o;rw[Zaw] at this;exact this);clear hL hD U bo au hn hr ae ag aj al Z cm aw J hE X fh fj F hl
  go_enter_defers func150,ntmps150
  go_upto_region 1 with fail
  rw[<-z.o.2.2.1,<-z.o.1,<-z.o.2.1]
  go_upto_region 5 with (go_at_call 222;refine dw.o.mono ?_;rintro _ w1 ⟨rfl,dp⟩;rw[dp])
  obtain⟨V,cq⟩:∃V,V=w0.setCell ⟨eb,0,none⟩ .nilIface:=⟨_,rfl⟩;rw[<-cq]
  have H2:=Zz (show Bs V P D g/\Av V R D bd bn d/\Dp V lb eb P .nilIface/\ZY w V/\Za4 V by
   rw[cq];have ax:ZY w (w0.setCell ⟨eb,0,none⟩ .nilIface):=z.o.2.2.2.setCell (p:=⟨eb,0,none⟩) (by show w.heap.size<=eb;have:=z.o.1;have:=z.o.2.1;omega) _;refine⟨u.o.2.2.2.2.2.2.2.2.1.at_ (ax.block P hP),HR.o.2.1.Iv HR.o.2.2 _,HR.o.2.2.set _,ax,fun i hi=> ?_⟩;have:=u.o.2.2.2.2.2.2.1 i hi;exact QFa ax this)
  obtain⟨y0,y1,y2⟩:=H2.o.2.2.1.cells;have p2:=H2.o.1.c2;obtain⟨B,S⟩:∃B,B=V.heap.size:=⟨_,rfl⟩;have fm:=make8 V g.short dh;obtain⟨mk,I⟩:∃mk,mk=V.alloc (.cells (QGu (.int .u8 0:Value).cells (g.short * 1)) 5):=⟨_,rfl⟩;rw[<-I,<-S] at fm
  have fs:=Zz (show Calls prog 224 #[.slice (some ⟨B,0,none⟩) g.short g.short,.slice (some ⟨rg,0,none⟩) n rc] mk fun x w'=>∃v',x=.returned v'/\Al B w' v' (Zcx g.short l)/\Below B V w' by
   obtain⟨hn,hr,hl,_,_,_,_,F,_⟩:=u.o;have da:ZY V mk:=by rw[I];exact ZV.alloc ZU _
   have gi:=(hr.below H2.o.2.2.2.1).below da
   have gm:rg<B:=by
    rcases (hr.below H2.o.2.2.2.1).2 with⟨x,_⟩ | ⟨g',cap,cur,x,_,hh,_⟩
    .simp at x
    .obtain rfl:rg=g':=by simp only[QGx,QCf,QJl] at x;exact x.1.1
     rw[S];exact Zaa hh
   have hv:Al B mk (.slice (some ⟨B,0,none⟩) g.short g.short) (QAw g.short 0):=by
    unfold Al;rw[QHp,<-made8]
    have:=QJo (e:=5) (base:=V.heap.size) (size:=1) V (QGu (.int .u8 0:Value).cells (g.short * 1)) g.short ZU (by unfold maxLen;omega) (by
     have:=congrArg List.length (made8 g.short);rw[Array.length_toList,Fj,QHp] at this;omega)
    rw[I,S];exact this
   have:=SJ mk B B0 (.slice (some ⟨B,0,none⟩) g.short g.short) (QAw g.short 0) rg rc l hv (by rw[S];exact da.size) gi gm hl (by rw[<-F];exact hlen) (by rw[<-F];exact dd) (by rw[QHp];omega);rw[<-F] at this;refine this.mono ?_;rintro x w' ⟨v',rfl,h1,h2⟩;refine⟨v',rfl,h1,?_⟩;rw[S] at h2 ⊢;exact da.trans h2.bl)
  have HB:=Zz (Zq S I);have gw:=Zz cq;clear S I cq
  go_upto_region 6 with (go_at_call 224;refine fs.o.mono ?_;rintro _ w3 ⟨vb,rfl,K,ey⟩;have cu:=Zz (Zq K ey);clear K ey)
  obtain⟨N,hN⟩:∃N,N=(Zcx g.short l).length:=⟨_,rfl⟩;have ei:N=g.short+n+6:=by rw[hN,QX,u.o.2.2.2.2.2.2.2.1]
  obtain⟨bg,bc,gp,ez⟩:∃bg bc,vb=.slice (some ⟨bg,0,none⟩) N bc/\B<=bg:=by
   rw[hN];have hr:=cu.o.1;obtain⟨a,c,e⟩:=Zaz hr;rcases hr.2 with⟨x,y⟩ | ⟨g',cap,cur,x,hg,hh,_⟩
   .omega
   .exact⟨g',cap,x,hg⟩
  subst gp
  have H3:=Zz (show Bs w3 P D g/\Av w3 R D bd bn d/\Dp w3 lb eb P .nilIface/\ZY w w3/\Za4 w3 by
   obtain⟨h1,h2,Y,Q,h5⟩:=H2.o;have hb:=cu.o.2;rw[HB.o.1] at hb;have fw:P<V.heap.size:=Zy hP Q.size;exact⟨h1.at_ (hb.block P fw),h2.below hb,Y.at_ (hb.block lb (Zaa Y.l)) (hb.block eb (Zaa Y.e)),Q.trans (hb.mono Q.size),fun i hi=>QFa hb (h5 i hi)⟩)
  obtain⟨nm,J⟩:∃nm,nm=CX g.at_:=⟨_,rfl⟩;have z0:=H3.o.2.2.1.cells.1;have z1:=H3.o.1.c0;unfold By at z1;have z2:=H3.o.1.c1;have z3:=H3.o.2.2.2.2 g.at_ bw;rw[<-J] at z3;have z4:=H3.o.2.2.1.cells.2.1;have z5:=H3.o.2.2.1.cells.2.2;have ia:(g.at_:Int)<3:=by omega
  have iw:=VG;obtain⟨A,db⟩:∃A,A=d.BU (g.op l):=⟨_,rfl⟩;have G:=Zz (Zq J (Zq db (Zq hN ei)))
  have eg:∀wx,ZY w3 wx->Calls prog 316 #[.pointer (some ⟨D,0,none⟩),.string nm,.slice (some ⟨bg,0,none⟩) N bc] wx fun x w'=>x=.returned (AK A)/\Av w' R D bd bn (d.told (g.op l))/\Bs w' P D g/\Dp w' lb eb P .nilIface/\LF w w' P R D bd bn/\w'.cell? ⟨1,g.at_,none⟩=some (.string nm):=fun wx hb=>by
   obtain⟨hn,hr,hl,ae,ag,aj,gv,F,_⟩:=u.o;obtain⟨h1,h2,Y,Q,h5⟩:=H3.o;have bj:=h2.below hb;have K:Al B wx (.slice (some ⟨bg,0,none⟩) (Zcx g.short l).length bc) (Zcx g.short l):=by rw[<-hN];exact cu.o.1.below hb
   have:=NQ wx R D bd bn B bg bc d g.at_ (Zcx g.short l) bj fq bw (fun s hs=>by have:=ag _ _ hs;omega) K (by omega);rw[<-hN,<-J] at this;refine this.mono ?_;rintro x w' ⟨rfl,q1,j⟩;have E:ZY w wx:=Q.trans (hb.mono Q.size);have gu:w.heap.size<=bg:=by have:=H2.o.2.2.2.1.size;have:=HB.o.1;omega
   have fy:P<wx.heap.size:=Zy hP E.size;have ar:=j.block P fy hn.d hn.md hn.mn (by omega) (Zu hn.r);obtain⟨pa,pc,dk,_⟩:=bj.c;obtain⟨Dd,C⟩:=bj.fd;obtain⟨Dn,b⟩:=bj.fn;have cy:Dp wx lb eb P .nilIface:=Y.at_ (hb.block lb (Zaa Y.l)) (hb.block eb (Zaa Y.e))
   have stay:∀(k:Nat) (cs:Array Value) (t:TypeId) (fr:Nat×Nat),wx.heap[k]? =some (Obj.cells cs t fr)->t≠92->t≠5->t≠210->w'.heap[k]? =wx.heap[k]? :=fun k cs t fr e t1 t2 t3=>by
    have hm:∀bm f Dx,AE wx bm f Dx->k≠bm:=fun bm f Dx hx O=>by
     obtain⟨es,c,L,_⟩:=hx.own;rw[<-O,e] at L;cases L
    have fg:∃cs fr,wx.heap[bg]? =some (.cells cs 5 fr):=by
     rcases K.2 with⟨x,_⟩ | ⟨g',cap,cur,x,_,hh,_⟩
     .simp at x
     .obtain rfl:bg=g':=by simp only[QGx,QCf,QJl] at x;exact x.1.1
      exact⟨_,_,hh⟩
    obtain⟨gx,gy,fe⟩:=fg;exact j.block k (Zaa e) (Zah e dk.Au t1) (hm _ _ _ C) (hm _ _ _ b) (Zah e fe t2) (Zj (fun ft fv L=>by rw[e] at L;simp only[QCf,Obj.cells.injEq] at L;exact t3 L.2.1))
   refine⟨by rw[db];rfl,q1,(h1.at_ (hb.block P (Zy hP Q.size))).at_ ar,cy.at_ (stay lb _ _ _ cy.l (by decide) (by decide) (by decide)) (stay eb _ _ _ cy.e (by decide) (by decide) (by decide)),?_,?_⟩
   .exact⟨j.os.trans E.os,j.tape.trans E.tape,j.output.trans E.output,Zv E.size j.size,fun k hk h0 h1 h2 Y Q=>(j.block k (Zy hk E.size) h1 h2 Y (by omega) (Q.imp id (fun Q cs fr=>by rw[E.block k hk];exact Q cs fr))).trans (E.block k hk),fun o _=>(QEc (a:=⟨P,o,none⟩) ar).trans (QEc (a:=⟨P,o,none⟩) (E.block P hP)),fun o=>(QDx (a:=⟨P,o,none⟩) ar).trans (QDx (a:=⟨P,o,none⟩) (E.block P hP))⟩
   .obtain⟨g1,g2,g3,g4⟩:=hn.gl
    have hr:=hn.r;have e:=j.block 1 (by omega) (by omega) (by omega) (by omega) (by omega) (Zu (by omega));exact (QEc (a:=⟨1,g.at_,none⟩) e).trans (QFa hb z3)
  have bf:=Zz eg;have ck:A=0\/A≠0:=by omega
  have dr:=Zz (Zq bw (Zq ez hP));have HM:=Zz (Zq hM (Zq hM2 (Zq dh hlen)));clear eg hN ei J db y0 y1 y2 p2 fm ez bw dh fq hM hM2 dd hlen;have hle:eb≠lb:=by have:=z.o.2.1;omega
  have iu:eb≠1:=by have:=z.o.1;have:=z.o.2.1;have:=u.o.1.gl;have:=dr.o.2.2;omega
  rcases ck with m | m
  .rw[m,Zaw] at bf
   have bh:=Zz m;clear m
   go_region_held3 (fun w'=>((w'.cell? ⟨lb,0,none⟩=some (.pointer (some ⟨P,0,none⟩))/\w'.cell? ⟨P,0,none⟩=some (.iface 88 (.pointer (some ⟨D,0,none⟩))))/\w'.cell? ⟨P,1,none⟩=some (.int .i64 g.at_))/\w'.cell? ⟨1,g.at_,none⟩=some (.string nm)) (go_keep) ((go_at_call 316;refine (bf.o w3.drew (ZV.drew)).mono ?_;rintro _ w4 ⟨rfl,q1,j,C,b,q5⟩;have H4:=Zz (Zq q1 (Zq j (Zq C b)));have x0:=C.cells.1;have x1:w4.cell? ⟨P,0,none⟩=some (.iface 88 (.pointer (some ⟨D,0,none⟩))):=j.c0;have x2:=j.c1;have x3:=C.cells.2.1;have x4:=C.cells.2.2;clear q1 j C b))
   clear x0 x1 x2 x3 x4 q5 z0 z1 z2 z3 z4 z5
   have W:=Zz (show Bs (w4.setCell ⟨eb,0,none⟩ (QJn)) P D g/\Av (w4.setCell ⟨eb,0,none⟩ (QJn)) R D bd bn (d.told (g.op l))/\Dp (w4.setCell ⟨eb,0,none⟩ (QJn)) lb eb P (QJn)/\LF w (w4.setCell ⟨eb,0,none⟩ (QJn)) P R D bd bn by
    obtain⟨q1,j,C,b⟩:=H4.o;have H:∀k,k≠eb->(w4.setCell ⟨eb,0,none⟩ (QJn)).heap[k]? =w4.heap[k]? :=fun k hk=>Zl w4 ⟨eb,0,none⟩ _ k hk;have ay:w.heap.size<=eb:=by have:=z.o.1;have:=z.o.2.1;omega
    refine⟨j.at_ (H P (QJr q)),q1.Iv C _,C.set _,⟨b.os,b.tape,b.output,by simpa[QDw] using b.size,fun k hk h0 h1 h2 Y Q=>(H k (by omega)).trans (b.block k hk h0 h1 h2 Y Q),fun o ho=>(QEc (a:=⟨P,o,none⟩) (H P (QJr q))).trans (b.off o ho),fun o=>(QDx (a:=⟨P,o,none⟩) (H P (QJr q))).trans (b.AD o)⟩⟩)
   generalize w4.setCell ⟨eb,0,none⟩ (QJn)=w5 at *
   have v0:=W.o.2.2.1.cells.2.1;have v1:=W.o.2.2.1.cells.2.2;have v2:=W.o.2.2.1.cells.1;have v3:w5.cell? ⟨P,2,none⟩=some (.int .i64 g.short):=W.o.1.c2;have v4:=W.o.1.fz 2
   go_upto_region 10 with fail
   have H6:=Zz (show Bs (w5.setCell ⟨P,2,none⟩ (.int .i64 0)) P D { g with short:=0 }/\Av (w5.setCell ⟨P,2,none⟩ (.int .i64 0)) R D bd bn (d.told (g.op l))/\Dp (w5.setCell ⟨P,2,none⟩ (.int .i64 0)) lb eb P .nilIface/\LF w (w5.setCell ⟨P,2,none⟩ (.int .i64 0)) P R D bd bn by
    obtain⟨q1,j,C,b⟩:=W.o;exact⟨q1.setS 0,j.Bv u.o.1 2 _ q1.c1,C.at_ (Zl w5 ⟨P,2,none⟩ _ lb de) (Zl w5 ⟨P,2,none⟩ _ eb q),b.trans (LF.Bv w5 P R D bd bn 2 _ (by omega))⟩)
   clear v0 v1 v2 v3 v4
   generalize w5.setCell ⟨P,2,none⟩ (.int .i64 0)=w6 at *
   obtain⟨O,dc⟩:∃O,O=(d.told (g.op l)).Bz:=⟨_,rfl⟩
   have ep:Calls prog 320 #[.pointer (some ⟨D,0,none⟩)] w6 fun x w'=>x=.returned (AK O)/\Av w' R D bd bn (d.told (g.op l)).synced/\Bs w' P D { g with short:=0 }/\Dp w' lb eb P .nilIface/\LF w w' P R D bd bn:=by
    obtain⟨hn,_,_,ae,ag,aj,_,F,_,_,hE⟩:=u.o;obtain⟨q1,j,C,b⟩:=H6.o;obtain⟨gz,ie,im,iq⟩:=HM.o;obtain⟨t1,t2⟩:=ZD (d:=d) (o:=g.op l) (by rw[<-G.o.2.1];exact bh.o);have br:P<w6.heap.size:=Zy dr.o.2.2 b.size;refine (Sq w6 R D bd bn M (d.told (g.op l)) j (by rw[t1];exact ae) (fun o ho=> ?_) (by omega)).mono ?_
    .rw[t2] at ho
     rcases List.mem_append.1 ho with ho | ho
     .exact aj o ho
     .rw[List.mem_singleton.1 ho]
      show (Zcx g.short l).length<=M;have:=G.o.2.2.1;have:=G.o.2.2.2;omega
    .rintro x w' ⟨rfl,r1,r2⟩
     have ar:=r2.block P br hn.d hn.md hn.mn (Zu hn.r);obtain⟨pa,pc,dk,_⟩:=j.c;obtain⟨Dd,f3⟩:=j.fd;obtain⟨Dn,f4⟩:=j.fn
     have stay:∀(k:Nat) (cs:Array Value) (t:TypeId) (fr:Nat×Nat),w6.heap[k]? =some (Obj.cells cs t fr)->t≠92->t≠210->w'.heap[k]? =w6.heap[k]? :=fun k cs t fr e t1 t3=>by
      have hm:∀bm f Dx,AE w6 bm f Dx->k≠bm:=fun bm f Dx hx O=>by
       obtain⟨es,c,L,_⟩:=hx.own;rw[<-O,e] at L;cases L
      exact r2.block k (Zaa e) (Zah e dk.Au t1) (hm _ _ _ f3) (hm _ _ _ f4) (Zj (fun ft fv L=>by rw[e] at L;simp only[QCf,Obj.cells.injEq] at L;exact t3 L.2.1))
     exact⟨by rw[dc],r1,q1.at_ ar,C.at_ (stay lb _ _ _ C.l (by decide) (by decide)) (stay eb _ _ _ C.e (by decide) (by decide)),b.trans (LF.of_df r2 br hn)⟩
   have dy:=Zz ep;have du:=Zz dc;have iy:=Qr;have z0:=H6.o.2.2.1.cells.1;have z1:w6.cell? ⟨P,0,none⟩=some (.iface 88 (.pointer (some ⟨D,0,none⟩))):=H6.o.1.c0;have az:=Fl O;obtain⟨ve,dj⟩:∃ve,ve=AK O:=⟨_,rfl⟩;rw[<-dj] at dy az;have ee:=Zz dj;clear ep dc dj;rcases az with rfl | ⟨ty,xv,rfl⟩
   all_goals
    go_wp2_with (go_at_call 320;refine dy.o.mono ?_;rintro _ w7 ⟨rfl,r1,r2,r3,r4⟩;have H7:=Zz (Zq r1 (Zq r2 (Zq r3 r4)));have x1:=r3.cells.2.1;have x2:=r3.cells.2.2;clear r1 r2 r3 r4)
    have T:=u.o.2.2.2.2.2.2.2.2.2.2;have a0:¬d.BU (g.op l)≠0:=by rw[<-G.o.2.1];simpa using bh.o
    have a1:Ec g d l=O:=by unfold Ec;rw[if_neg (by rw[T];decide),if_neg a0];exact du.o.symm
    have a2:FD g d l={ g with short:=0,err:=O }:=by unfold FD;rw[if_neg (by rw[T];decide),if_neg a0,du.o]
    have a3:CN g d l=(d.told (g.op l)).synced:=by unfold CN;rw[if_neg (by rw[T];decide),if_neg a0]
    have ay:w.heap.size<=eb:=by have:=z.o.1;have:=z.o.2.1;omega
    have gh:=u.o.1;refine leaves_cons (f:=223) (args:=#[.pointer (some ⟨eb,0,none⟩),.pointer (some ⟨lb,0,none⟩)]) (by simp) (by simp[go_sem]) ?_;have cr:=Vs (v:=O) H7.o.1 H7.o.2.1 H7.o.2.2.1 H7.o.2.2.2 gh de q ay;rw[<-ee.o] at cr;refine cr.mono ?_;rintro e u' gq ⟨rfl,rfl,hz,hq⟩;exact⟨_,by simp[results,Tryz.results150,go_sem,hz];rfl,by rw[a1,<-ee.o],by rw[a2];exact hq.1,by rw[a3];exact hq.2.1,hq.2.2⟩
  .rw[Zan m] at bf
   have bh:=Zz m;clear m
   go_region_held3 (fun w'=>((w'.cell? ⟨lb,0,none⟩=some (.pointer (some ⟨P,0,none⟩))/\w'.cell? ⟨P,0,none⟩=some (.iface 88 (.pointer (some ⟨D,0,none⟩))))/\w'.cell? ⟨P,1,none⟩=some (.int .i64 g.at_))/\w'.cell? ⟨1,g.at_,none⟩=some (.string nm)) (go_keep) ((go_at_call 316;refine (bf.o w3.drew (ZV.drew)).mono ?_;rintro _ w4 ⟨rfl,q1,j,C,b,q5⟩;have H4:=Zz (Zq q1 (Zq j (Zq C b)));have x0:=C.cells.1;have x1:w4.cell? ⟨P,0,none⟩=some (.iface 88 (.pointer (some ⟨D,0,none⟩))):=j.c0;have x2:=j.c1;have x3:=C.cells.2.1;have x4:=C.cells.2.2;clear q1 j C b))
   clear x0 x1 x2 x3 x4 q5 z0 z1 z2 z3 z4 z5
   have W:=Zz (show Bs (w4.setCell ⟨eb,0,none⟩ (QJm 32 (.int .i64 A))) P D g/\Av (w4.setCell ⟨eb,0,none⟩ (QJm 32 (.int .i64 A))) R D bd bn (d.told (g.op l))/\Dp (w4.setCell ⟨eb,0,none⟩ (QJm 32 (.int .i64 A))) lb eb P (QJm 32 (.int .i64 A))/\LF w (w4.setCell ⟨eb,0,none⟩ (QJm 32 (.int .i64 A))) P R D bd bn by
    obtain⟨q1,j,C,b⟩:=H4.o;have H:∀k,k≠eb->(w4.setCell ⟨eb,0,none⟩ (QJm 32 (.int .i64 A))).heap[k]? =w4.heap[k]? :=fun k hk=>Zl w4 ⟨eb,0,none⟩ _ k hk;have ay:w.heap.size<=eb:=by have:=z.o.1;have:=z.o.2.1;omega
    refine⟨j.at_ (H P (QJr q)),q1.Iv C _,C.set _,⟨b.os,b.tape,b.output,by simpa[QDw] using b.size,fun k hk h0 h1 h2 Y Q=>(H k (by omega)).trans (b.block k hk h0 h1 h2 Y Q),fun o ho=>(QEc (a:=⟨P,o,none⟩) (H P (QJr q))).trans (b.off o ho),fun o=>(QDx (a:=⟨P,o,none⟩) (H P (QJr q))).trans (b.AD o)⟩⟩)
   generalize w4.setCell ⟨eb,0,none⟩ (QJm 32 (.int .i64 A))=w5 at *
   have v0:=W.o.2.2.1.cells.2.1;have v1:=W.o.2.2.1.cells.2.2;go_wp2_with fail
   refine leaves_cons (f:=223) (args:=#[.pointer (some ⟨eb,0,none⟩),.pointer (some ⟨lb,0,none⟩)]) (by simp) (by simp[go_sem]) ?_;have cz:=W.o.2.2.1.set (.iface 32 (.int .i64 A));have br:∀v,((w5.setCell ⟨eb,0,none⟩ v).heap[P]? =w5.heap[P]?):=fun v=>Zl w5 ⟨eb,0,none⟩ v P (QJr q);have bp:=W.o.1.at_ (br (.iface 32 (.int .i64 A)));refine (Kb _ P eb lb (.iface 32 (.int .i64 A)) cz.cells.1 cz.cells.2.1 (Zj ⟨_,_,rfl⟩) ⟨_,bp.c3⟩ (bp.fz 3)).mono ?_;rintro e u' gq ⟨rfl,rfl,rfl⟩;have T:=u.o.2.2.2.2.2.2.2.2.2.2;have m:=bh.o;have a1:Ec g d l=A:=by unfold Ec;rw[if_neg (by rw[T];decide),if_pos (by rw[<-G.o.2.1];exact m)];exact G.o.2.1.symm
   have a2:FD g d l={ g with err:=A }:=by unfold FD;rw[if_neg (by rw[T];decide),if_pos (by rw[<-G.o.2.1];exact m),G.o.2.1]
   have a3:CN g d l=d.told (g.op l):=by unfold CN;rw[if_neg (by rw[T];decide),if_pos (by rw[<-G.o.2.1];exact m)]
   have gd:Dp ((w5.setCell ⟨eb,0,none⟩ (.iface 32 (.int .i64 A))).setCell ⟨P,3,none⟩ (.iface 32 (.int .i64 A))) lb eb P (.iface 32 (.int .i64 A)):=cz.at_ (Zl _ ⟨P,3,none⟩ _ lb de) (Zl _ ⟨P,3,none⟩ _ eb q);have hz:=gd.cells.2.1;refine⟨.iface 32 (.int .i64 A),by simp[results,Tryz.results150,go_sem,hz],by rw[a1,Zan m],?_,?_,?_⟩
   .have:=bp.Iv A
    rw[Zan m] at this;rw[a2];exact this
   .rw[a3]
    exact (W.o.2.1.Iv W.o.2.2.1 _).Bv u.o.1 3 _ bp.c1
   .have b:=W.o.2.2.2
    have ay:w.heap.size<=eb:=by have:=z.o.1;have:=z.o.2.1;omega
    exact (LF.WJ b eb _ ay q).trans (LF.Bv _ P R D bd bn 3 _ (by omega))
 .have A:Ec g d l=g.err:=if_pos hE
  have O:FD g d l=g:=if_pos hE;have L:CN g d l=d:=if_pos hE;rw[A,O,L,<-F];rw[Zan hE] at X ⊢;have HR:=Zz (Zq U (Zq bo au));obtain⟨er,fi⟩:∃er,er=g.err:=⟨_,rfl⟩;rw[<-fi] at X ⊢;clear hL hD U bo au hn hr ae ag aj al Z cm aw J hE A O L fh fj fi
  go_enter_defers func150,ntmps150
  go_upto_region 1 with fail
  rw[<-z.o.2.2.1,<-z.o.1,<-z.o.2.1];go_wp2_with (go_at_call 222;refine X.o.mono ?_;rintro _ w1 ⟨rfl,dp⟩;rw[dp])
  have gb:=(HR.o.2.2.set (.iface 32 (.int .i64 er))).set (.iface 32 (.int .i64 er));have hz:=gb.cells.2.1;refine⟨.iface 32 (.int .i64 er),by simp[results,Tryz.results150,go_sem,hz],rfl,?_,?_,?_⟩
  .refine HR.o.1.at_ ((Zl _ ⟨eb,0,none⟩ _ P (QJr q)).trans (Zl _ ⟨eb,0,none⟩ _ P (QJr q)))
  .exact (HR.o.2.1.Iv HR.o.2.2 _).Iv (HR.o.2.2.set _) _
  .have hq:=z.o.2.2.2
   have ax:ZY w ((w0.setCell ⟨eb,0,none⟩ (.iface 32 (.int .i64 er))).setCell ⟨eb,0,none⟩ (.iface 32 (.int .i64 er))):=(hq.setCell (p:=⟨eb,0,none⟩) (by show w.heap.size<=eb;have:=z.o.1;have:=z.o.2.1;omega) _).setCell (p:=⟨eb,0,none⟩) (by show w.heap.size<=eb;have:=z.o.1;have:=z.o.2.1;omega) _;exact LF.Ae R D bd bn ax hP
