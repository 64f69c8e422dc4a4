import Derived.Test.YtgdcjccbdmcebaaGreatDoorM20
set_option linter.all false
set_option maxHeartbeats 8000000
set_option maxRecDepth 100000
open Go.Proofs.Tryz
open Go renaming Lib.run_eql_iface_int->QJf,step_append_lies->QJg,heap_alloc_new->QFm,cell_later->QFa
open Go.Value renaming oneCell'->QFu,slice->QFv,ownBlock->QCi
open Go.World renaming setCell->QDw,news_of_block->QJh,cell?->QEk
open List renaming length_singleton->QGq
open Option renaming some.inj->QJi,isSome_none->QJj,some.injEq->QCf
namespace Go.Proofs.YtgdcjccbdmcebaaGreatDoor
open Go.RowKit
attribute [local go_sem ↓] Go.wp_at_zero Go.wp_at_succ
variable {w w':World}{pa:Option Addr}{D:DataW Unit}{d:Ax}{bd bn:Nat}{cs:Array Value}
theorem Zad {k:Nat}{t:TypeId}{fr:Nat×Nat}(h:w.heap[k]? =some (.cells cs t fr))(j:Nat):w.cell? ⟨k,j,none⟩=cs[j]? :=by unfold QEk;rw[h];rfl
theorem Zay (d:Ax):d.wrote.CH=d.CH/\d.wrote.now=d.now/\d.wrote.Ap=d.Ap:=by
 unfold Ax.wrote
 split
 .exact⟨rfl,rfl,rfl⟩
 .split<;>exact⟨rfl,rfl,rfl⟩
theorem QT (d:Ax):d.Bz=0\/d.Bz=10\/d.Bz=11:=by
 unfold Ax.Bz
 split
 .exact Zj (Zj rfl)
 .split
  .exact Zj (Zu rfl)
  .exact Zu rfl
theorem Av.did {R D:Nat}{o:Jr}(h:Av w R D bd bn d)(hf:∃i,AE w' bn (EB d.now o) i)(a:AA w w' bn):Av w' R D bd bn { d with now:=EB d.now o }/\∀(k:Nat) (ob:Obj),w.heap[k]? =some ob->(∀es c,ob≠Obj.map es c)->w'.heap[k]? =w.heap[k]? :=by
 obtain⟨pa,l,q1,b⟩:=h.c;obtain⟨j,f⟩:=h.fd;obtain⟨n,m⟩:=h.fn;obtain⟨es,cl,hm,_⟩:=m.own
 have stay:∀(k:Nat) (ob:Obj),w.heap[k]? =some ob->(∀es c,ob≠Obj.map es c)->w'.heap[k]? =w.heap[k]? :=fun k ob e hn=>a.block k (Zaa e) (fun x=>by
  subst x;rw[hm] at e;exact hn es cl (QJi e).symm)
 refine⟨⟨Zv h.rs a.size,⟨pa,l,q1.at_ (stay D _ q1.Au (fun _ _ x=>by cases x)),b.1,?_⟩,⟨j,f.Ak (a.block bd f.lt h.ne) (fun k cs fr e=>stay k _ e (fun _ _ x=>by cases x))⟩,hf,h.ne,h.Br,h.ops⟩,stay⟩;rcases b.2 with x | ⟨g,cap,cur,x,hg,hh,r⟩
 .exact Zu x
 .exact Zj ⟨g,cap,cur,x,hg,(stay g _ hh (fun _ _ x=>by cases x)).trans hh,r⟩
theorem WS {v v':Value}{x:DataW Unit}{p c:List MemPlace}(h:Er v=some (x,p))(a:Er v'=some (x,c)):v=v':=by
 unfold Er at h a
 split at h<;>split at a<;>simp_all
 .have b:=h.1.trans a.1.symm
  simp at b ⊢;omega
 .have b:=h.1.trans a.1.symm
  cases b
 .have b:=h.1.trans a.1.symm
  cases b
theorem AE.GW {b:Nat}{f:BI}(h:AE w b f D){i:Nat}(hi:i<3):∃v,∀m,(Instr.lookup 89 (.map (some b)) (.string (CX i)) true).run prog (w.drewN m)=.ok (.tuple #[v,.bool (f i).isSome]) (w.drewN m):=by
 have one:∀m,∃v ps,(Instr.lookup 89 (.map (some b)) (.string (CX i)) true).run prog (w.drewN m)=.ok (.tuple #[v,.bool (f i).isSome]) (w.drewN m)/\Er v=some (D.atKey (.string (Nz i)) .nil,ps):=fun m=>by
  obtain⟨v,ps,a,g⟩:=World.ownsMap.look_ok (w:=w.drewN m) h.own CI underlying89 (Xp _) (zd:=.nil) (zp:=[]) rfl (GR i);rw[h.Yp hi] at a;exact⟨v,ps,a,g⟩
 obtain⟨v0,j,_,e0⟩:=one 0;refine⟨v0,fun m=> ?_⟩;obtain⟨v,p,c,e⟩:=one m;rw[c,WS e e0]
theorem Av.look {R D:Nat}(h:Av w R D bd bn d){i:Nat}(hi:i<3):∃v,∀m,(Instr.lookup 89 (.map (some bn)) (.string (CX i)) true).run prog (w.drewN m)=.ok (.tuple #[v,.bool (d.now i).isSome]) (w.drewN m):=by
 obtain⟨b,a⟩:=h.fn;exact a.GW hi
theorem AE.one {a k:Nat}{f:BI}(h:AE w a f D)(b:AA w w' k)(hb:a≠k)(c:∀cs fr,w.heap[k]? ≠some (.cells cs 9 fr)):AE w' a f D :=
 h.Ak (b.block _ h.lt hb) (fun j cs fr e=>b.block j (Zaa e) (fun x=>c cs fr (by rw[<-x];exact e)))
theorem Av.wrote {R D b:Nat}(h:Av w R D bd bn d)(q1:CF w D bd bn (.slice pa d.Ap.length b) d.left d.full d.down)(o:w.ownsRow R 210 3 (.slice pa d.Ap.length b) d.Ap.length (d.Ap.flatMap IW))(v:CF w' D bd bn (.slice pa d.Ap.length b) d.wrote.left d.wrote.full d.wrote.down)(l:AA w w' D):Av w' R D bd bn d.wrote/\w'.ownsRow R 210 3 (.slice pa d.Ap.length b) d.Ap.length (d.Ap.flatMap IW):=by
 obtain⟨s,p⟩:=h.fd;obtain⟨t,q⟩:=h.fn;obtain⟨u,j,k⟩:=Zay d
 have i:∀m f n,AE w m f n->m≠D:=fun m f n hf e=>by
  obtain⟨es,c,j,_⟩:=hf.own;rw[e,q1.Au] at j
  cases j
 have a:w'.ownsRow R 210 3 (.slice pa d.Ap.length b) d.Ap.length (d.Ap.flatMap IW):=by
  refine⟨o.1,?_⟩;rcases o.2 with x | ⟨g,cap,cur,x,hg,hh,r⟩
  .exact Zu x
  .exact Zj ⟨g,cap,cur,x,hg,(l.block g (Zaa hh) (Zah hh q1.Au (by decide))).trans hh,r⟩
 refine⟨⟨Zv h.rs l.size,⟨pa,b,by rw[k];exact v,by rw[k];exact a⟩,⟨s,by rw[u];exact p.one l (i _ _ _ p) (fun cs fr e=>by rw[q1.Au] at e;cases e)⟩,⟨t,by rw[j];exact q.one l (i _ _ _ q) (fun cs fr e=>by rw[q1.Au] at e;cases e)⟩,h.ne,by rw[k];exact h.Br,by rw[k];exact h.ops⟩,a⟩
theorem Av.CU {w7:World}{R D gg a r:Nat}{o:Jr}(h:Av w R D bd bn d)(q1:CF w D bd bn (.slice pa d.Ap.length r) d.left d.full d.down)(z:w.ownsRow R 210 3 (.slice pa d.Ap.length r) d.Ap.length (d.Ap.flatMap IW))(hf:d.Ap.length<8)(E:o.at_<3/\(o.kind=1\/o.kind=2\/o.kind=3))
  (hown:w7.ownsRow R 210 3 (.slice (some ⟨gg,0,none⟩) (d.Ap.length+1) a) (d.Ap.length+1) (d.Ap.flatMap IW++IW o)) {b:Obj} (hg:(w.alloc b).drew.grownBy w7 (QFv pa d.Ap.length r).ownBlock) :
  Av (w7.setCell ⟨D,2,none⟩ (.slice (some ⟨gg,0,none⟩) (d.Ap.length+1) a)) R D bd bn { d with Ap:=d.Ap++[o] }/\DF w (w7.setCell ⟨D,2,none⟩ (.slice (some ⟨gg,0,none⟩) (d.Ap.length+1) a)) R D bd bn:=by
 obtain⟨A,G⟩:=h.fd;obtain⟨B,H⟩:=h.fn;have i:ZY w (w.alloc b).drew:=(ZV.alloc ZU _).drew
 have q:∀k,some k=(QFv pa d.Ap.length r).ownBlock->∃cs fr,w.heap[k]? =some (.cells cs 210 fr):=fun k hk=>by
  rcases z.2 with⟨u,_⟩ | ⟨g,cap,cur,u,_,hh,_⟩
  .rw[u] at hk;simp[QCi] at hk
  .rw[u] at hk
   simp only[QCi,QCf] at hk;subst hk;exact⟨_,_,hh⟩
 have stay:∀(k:Nat) (ob:Obj),w.heap[k]? =some ob->(∀cs fr,ob≠Obj.cells cs 210 fr)->w7.heap[k]? =w.heap[k]? :=fun k ob e hn=>by
  have hk:=Zaa e;refine (hg.block k (Zy hk i.size) (fun x=> ?_)).trans (i.block k hk);obtain⟨cs,fr,j⟩:=q k x;rw[e] at j;exact hn cs fr (QJi j)
 have p:CF w7 D bd bn (.slice pa d.Ap.length r) d.left d.full d.down:=q1.at_ (stay D _ q1.Au (fun cs fr x=>by simp at x))
 have l:∀n f t,AE w n f t->AE (w7.setCell ⟨D,2,none⟩ (.slice (some ⟨gg,0,none⟩) (d.Ap.length+1) a)) n f t:=fun n f t m=>by
  obtain⟨es,c,j,_⟩:=m.own;have y:n≠D:=fun e=>by rw[e,q1.Au] at j;cases j
  refine m.Ak ((Zl w7 ⟨D,2,none⟩ _ n y).trans (stay n _ j (fun cs fr x=>by cases x))) (fun k cs fr e=> ?_);have v:k≠D:=Zah e q1.Au (by decide);exact (Zl w7 ⟨D,2,none⟩ _ k v).trans (stay k _ e (fun cs fr x=>by simp at x))
 refine⟨⟨?_,⟨some ⟨gg,0,none⟩,a,?_,?_⟩,⟨A,l _ _ _ G⟩,⟨B,l _ _ _ H⟩,h.ne,?_,fun x m=> ?_⟩,⟨?_,?_,?_,?_,fun k hk C _ _ s=> ?_⟩⟩
 .have:=hg.size
  have F:=h.rs;simp only[QDw,Array.size_modify];exact Zv F (Zv i.size this)
 .simp only[ZX,QGq]
  exact p.Bv _
 .simp only[ZX,QGq,List.flatMap_append,List.flatMap_singleton]
  exact Zaf hown p.Au (by decide) _
 .simp only[ZX,QGq];omega
 .rcases List.mem_append.1 m with m | m
  .exact h.ops x m
  .rw[List.mem_singleton.1 m];exact E
 .exact hg.os
 .exact hg.tape
 .exact hg.output
 .show w.heap.size<=(w7.setCell _ _).heap.size
  have:=hg.size;simp only[QDw,Array.size_modify];exact Zv i.size this
 .refine (Zl w7 ⟨D,2,none⟩ _ k C).trans ((hg.block k (Zy hk i.size) (fun x=> ?_)).trans (i.block k hk))
  obtain⟨cs,fr,j⟩:=q k x;rcases s with s | s
  .have:=z.lt k x.symm
   omega
  .exact s cs fr j
theorem WX (w:World)(R D bd bn:Nat)(d:Ax)(o:Jr)(h:Av w R D bd bn d)(hf:d.Ap.length<8)(ha:o.at_<3/\(o.kind=1\/o.kind=2\/o.kind=3))(hs:∀s,d.now o.at_=some s->s.length+o.data.length<=9223372036854775807) :
  Calls prog 324 #[.pointer (some ⟨D,0,none⟩),opV o] w fun x w'=>x=.returned (AK (d.BU o))/\Av w' R D bd bn (d.told o)/\DF w w' R D bd bn:=by
 obtain⟨nm,cq⟩:∃nm,nm=CX o.at_:=⟨_,rfl⟩;obtain⟨sd,cr⟩:∃sd,sd=Zbn o.data:=⟨_,rfl⟩;obtain⟨kd,cm⟩:∃kd,kd=o.kind:=⟨_,rfl⟩;obtain⟨n,hn⟩:∃n,n=d.Ap.length:=⟨_,rfl⟩;obtain⟨w0,az⟩:∃w0,w0=w.alloc (.cells #[.int .i64 kd,.string nm,.string sd] 210):=⟨_,rfl⟩;obtain⟨ob,V⟩:∃ob,ob=w.heap.size:=⟨_,rfl⟩;have br:ZY w w0:=by rw[az];exact ZV.alloc ZU _
 have W:w0.heap[ob]? =some (.cells #[.int .i64 kd,.string nm,.string sd] 210 (0,0)):=by rw[az,V];exact QFm w _
 have h0:=h.below br;obtain⟨pa,K,q1,q2⟩:=h0.c;have M:=Zz (KV w0 D bd bn (.slice pa d.Ap.length K) d q1);rw[<-hn] at M;have ay:D≠ob:=Zah q1.Au W (by decide);have q:=Zz (Zq h0 (Zq q1 (Zq q2 (Zq W (Zq br (Zq az (Zq V hn)))))));have B:=Zz (Zq cq (Zq cr (Zq cm (Zq ha hs))));have bw:n<8:=by rw[hn];exact hf
 obtain⟨io,hi,cy,cz,da⟩:=info_parts infoOp;have HI:=Zz (Zq hi (Zq cy (Zq cz da)));unfold opV;rw[<-cq,<-cr,<-cm];clear h az V br W h0 q1 q2 cq cr cm hn ha hs hf hi cy cz da;rcases QT d with hE | hE | hE
 .have hw:=hE
  rw[hE] at M;clear hE
  cases G:d.now o.at_ with
  | none =>
   by_cases ar:kd=3
   .have N:d.BU o=9:=by unfold Ax.BU;rw[if_neg (by rw[hw];decide),if_pos ⟨G,by rw[<-B.o.2.2.1];exact ar⟩]
    have X:d.told o=d.wrote:=by unfold Ax.told;rw[if_neg (by rw[hw];decide),if_pos (by rw[N];decide)]
    rw[N,X];have ae:=Zz G;clear N X hw G;subst ar
    go_enter func324,ntmps324
    go_upto_region 1 with fail
    rw[<-q.o.2.2.2.2.2.1,<-q.o.2.2.2.2.2.2.1]
    go_upto_region 6 with (go_at_call 325;refine M.o.mono ?_;rintro _ i ⟨rfl,f,F⟩;have l:=Zz (Zq f F);clear f F;rw[Zaw])
    obtain⟨u,C⟩:∃u,u=d.wrote:=⟨_,rfl⟩
    have a:=Zz (show CF i D bd bn (.slice pa n K) u.left u.full u.down/\Av i R D bd bn u/\i.ownsRow R 210 3 (.slice pa n K) n (d.Ap.flatMap IW)/\i.heap[ob]? =some (.cells #[.int .i64 3,.string nm,.string sd] 210 (0,0))/\u.Ap=d.Ap by
     have f:=l.o.1;have hn:=q.o.2.2.2.2.2.2.2;rw[C];rw[hn] at f ⊢;have hw:=q.o.1.wrote q.o.2.1 q.o.2.2.1 f l.o.2;exact⟨f,hw.1,hw.2,(l.o.2.block ob (Zaa q.o.2.2.2.1) (Ne.symm ay)).trans q.o.2.2.2.1,(Zay d).2.2⟩)
    have H:=Zz C;clear C;obtain⟨v,y⟩:=a.o.2.1.look B.o.2.2.2.1.1;rw[H.o,(Zay d).2.1,ae.o,<-B.o.1] at y;have m0:=a.o.1.cells.1.1.1.1.2;have u0:i.cell? ⟨ob,0,none⟩=some (.int .i64 3):=by unfold QEk;rw[a.o.2.2.2.1];rfl
    have Z:i.cell? ⟨ob,1,none⟩=some (.string nm):=by unfold QEk;rw[a.o.2.2.2.1];rfl
    simp only[QJj] at y
    go_quiet (fail)
    go_wp2_with fail
    go_ret
    refine⟨by rw[Zan (by decide)];rfl,?_,((DF.Ae R D bd bn q.o.2.2.2.2.1).trans (DF.CK l.o.2 (Zu rfl))).trans (DF.Ae R D bd bn (below_drewN i _))⟩;have:=a.o.2.1.below (below_drewN i nq);rw[H.o] at this;exact this
   .have N:d.BU o=0:=by unfold Ax.BU;rw[if_neg (by rw[hw];decide),if_neg (by rintro⟨_,x⟩;exact ar (B.o.2.2.1.trans x))]
    have X:d.told o={ d.wrote with now:=EB d.now o,Ap:=d.Ap++[o] }:=by unfold Ax.told;rw[if_neg (by rw[hw];decide),if_neg (by rw[N];decide)]
    rw[N,X];have ae:=Zz G;have b3:(kd == 3)=false:=by simpa using ar
    have db:decide (kd=3)=false:=decide_eq_false ar;clear N X hw G
    go_enter func324,ntmps324
    go_upto_region 1 with fail
    rw[<-q.o.2.2.2.2.2.1,<-q.o.2.2.2.2.2.2.1]
    go_upto_region 6 with (go_at_call 325;refine M.o.mono ?_;rintro _ i ⟨rfl,f,F⟩;have l:=Zz (Zq f F);clear f F;rw[Zaw])
    obtain⟨u,C⟩:∃u,u=d.wrote:=⟨_,rfl⟩
    have a:=Zz (show CF i D bd bn (.slice pa n K) u.left u.full u.down/\Av i R D bd bn u/\i.ownsRow R 210 3 (.slice pa n K) n (d.Ap.flatMap IW)/\i.heap[ob]? =some (.cells #[.int .i64 kd,.string nm,.string sd] 210 (0,0))/\u.Ap=d.Ap by
     have f:=l.o.1;have hn:=q.o.2.2.2.2.2.2.2;rw[C];rw[hn] at f ⊢;have hw:=q.o.1.wrote q.o.2.1 q.o.2.2.1 f l.o.2;exact⟨f,hw.1,hw.2,(l.o.2.block ob (Zaa q.o.2.2.2.1) (Ne.symm ay)).trans q.o.2.2.2.1,(Zay d).2.2⟩)
    have H:=Zz C;clear C;obtain⟨v,y⟩:=a.o.2.1.look B.o.2.2.2.1.1;rw[H.o,(Zay d).2.1,ae.o,<-B.o.1] at y;have m0:=a.o.1.cells.1.1.1.1.2;have u0:i.cell? ⟨ob,0,none⟩=some (.int .i64 kd):=by unfold QEk;rw[a.o.2.2.2.1];rfl
    have Z:i.cell? ⟨ob,1,none⟩=some (.string nm):=by unfold QEk;rw[a.o.2.2.2.1];rfl
    have u2:i.cell? ⟨ob,2,none⟩=some (.string sd):=by unfold QEk;rw[a.o.2.2.2.1];rfl
    simp only[QJj] at y
    go_quiet (fail)
    go_upto_region 9 with fail
    have bf:=Zz (below_drewN i nq)
    have J:=Zz (show CF (i.drewN nq) D bd bn (.slice pa n K) u.left u.full u.down/\Av (i.drewN nq) R D bd bn u/\(i.drewN nq).ownsRow R 210 3 (.slice pa n K) n (d.Ap.flatMap IW)/\(i.drewN nq).heap[ob]? =some (.cells #[.int .i64 kd,.string nm,.string sd] 210 (0,0)) by
     obtain⟨L,I,T,h4,_⟩:=a.o;exact⟨⟨L.Au⟩,I.below (below_drewN i nq),Zak T (below_drewN i nq),h4⟩)
    clear u0 Z u2 m0 y
    generalize i.drewN nq=w2 at *
    have m0:=J.o.1.cells.1.1.1.1.2;have u0:w2.cell? ⟨ob,0,none⟩=some (.int .i64 kd):=by unfold QEk;rw[J.o.2.2.2];rfl
    have Z:w2.cell? ⟨ob,1,none⟩=some (.string nm):=by unfold QEk;rw[J.o.2.2.2];rfl
    have u2:w2.cell? ⟨ob,2,none⟩=some (.string sd):=by unfold QEk;rw[J.o.2.2.2];rfl
    obtain⟨Q,U⟩:∃Q,Q={ u with now:=EB u.now o }:=⟨_,rfl⟩
    have bh:=Zz (show ∀wx,ZY w2 wx->Calls prog 106 #[.map (some bn),.agg #[.int .i64 kd,.string nm,.string sd]] wx fun x w'=>x=.returned (.tuple #[])/\CF w' D bd bn (.slice pa n K) Q.left Q.full Q.down/\Av w' R D bd bn Q/\w'.ownsRow R 210 3 (.slice pa n K) n (d.Ap.flatMap IW)/\w'.heap[ob]? =some (.cells #[.int .i64 kd,.string nm,.string sd] 210 (0,0))/\Q.Ap=d.Ap/\DF w2 w' R D bd bn from fun wx hb=>by
     obtain⟨L,I,T,h4⟩:=J.o;have I:=I.below hb;obtain⟨Dn,ck⟩:=I.fn;have hd:=PB wx bn u.now Dn o ck B.o.2.2.2.1.1 B.o.2.2.2.1.2 (by rw[H.o,(Zay d).2.1];exact B.o.2.2.2.2);unfold opV at hd;rw[<-B.o.1,<-B.o.2.1,<-B.o.2.2.1] at hd;refine hd.mono ?_;rintro x w' ⟨rfl,hf,ho⟩;have E:=I.did hf ho;rw[U];have aj:=hb.block D (Zaa L.Au);have bp:=E.2 D _ (aj.trans L.Au) (fun _ _ x=>by cases x);have V:=E.2 ob _ ((hb.block ob (Zaa h4)).trans h4) (fun _ _ x=>by cases x);have ag:=Zak T hb;refine⟨rfl,L.at_ (bp.trans aj),E.1,⟨ag.1,?_⟩,V.trans ((hb.block ob (Zaa h4)).trans h4),a.o.2.2.2.2,(DF.Ae R D bd bn hb).trans (DF.CK ho (Zj (Zj rfl)))⟩;rcases ag.2 with x | ⟨g,cap,cur,x,hg,hh,r⟩
     .exact Zu x
     .exact Zj ⟨g,cap,cur,x,hg,(E.2 g _ hh (fun _ _ x=>by cases x)).trans hh,r⟩)
    have bj:=Zz U;clear U
    go_region_held3 (fun w'=>((w'.cell? ⟨D,1,none⟩=some (.map (some bn))/\w'.cell? ⟨ob,0,none⟩=some (.int .i64 kd))/\w'.cell? ⟨ob,1,none⟩=some (.string nm))/\w'.cell? ⟨ob,2,none⟩=some (.string sd)) (go_keep) ((go_at_call 106;refine (bh.o w2.drew (ZV.drew)).mono ?_;rintro _ z ⟨rfl,z1,z2,z3,z4,z5,z6⟩;have j:=Zz (Zq z1 (Zq z2 (Zq z3 (Zq z4 z5))));have bo:=Zz z6;have y0:=z1.cells.1.1.1.1.2;have y1:z.cell? ⟨ob,0,none⟩=some (.int .i64 kd):=Zad z4 0;have y2:z.cell? ⟨ob,1,none⟩=some (.string nm):=Zad z4 1;have y3:z.cell? ⟨ob,2,none⟩=some (.string sd):=Zad z4 2;clear z1 z2 z3 z4 z5 z6))
    clear u0 Z u2 m0 y0 y1 y2 y3
    go_upto_region 10 with fail
    have m1:=j.o.1.cells.1.1.1.2;have m2:=j.o.1.AD 2;have u0:z.cell? ⟨ob,0,none⟩=some (.int .i64 kd):=by unfold QEk;rw[j.o.2.2.2.1];rfl
    have Z:z.cell? ⟨ob,1,none⟩=some (.string nm):=by unfold QEk;rw[j.o.2.2.2.1];rfl
    have u2:z.cell? ⟨ob,2,none⟩=some (.string sd):=by unfold QEk;rw[j.o.2.2.2.1];rfl
    have cu:D<z.heap.size:=Zaa j.o.1.Au;have O:=Zz j.o.2.2.1
    have S:some D≠(QFv pa n K).ownBlock:=fun e=>by
     rcases O.o.2 with⟨I,_⟩ | ⟨g,cap,cur,I,_,hh,_⟩
     .rw[I] at e;simp[QCi] at e
     .rw[I] at e
      simp only[QCi,QCf] at e;subst e;exact Zah j.o.1.Au hh (by decide) rfl
    have aw:=QFa (((Zk z.heap.size z).alloc ZU (.cells #[.int .i64 kd,.string nm,.string sd] 210)).drew) m1;have ax:=QFa ((Zk z.heap.size z).alloc ZU (.cells #[.int .i64 kd,.string nm,.string sd] 210)) m1
    go_region_law ((refine QJg _ (by rfl) _ _ _ (by rfl) R 210 io _ 3 40 underlying90 HI.o.1 HI.o.2.1 HI.o.2.2.1 HI.o.2.2.2 rfl (by omega) (.slice pa n K) n (d.Ap.flatMap IW) (by rfl) ((O.o.alloc _).drew) ⟨z.heap.size,0,none⟩ 1 1 [.int .i64 kd,.string nm,.string sd] (by rfl) (by rfl) (QJh (cs:=#[.int .i64 kd,.string nm,.string sd]) (t:=210) (fr:=(0,0)) (QFm z _)) (by simp[QFu]) (by omega) (by unfold maxLen;omega) (by omega) (by have:=j.o.2.1.rs;simp;omega) (z.heap.size+1) (by simp) ?_;intro gg A w7 m b al au;have s1:=(b.cell_far ⟨D,2,none⟩ (by simp;omega) S).trans (QFa (((Zk z.heap.size z).alloc ZU _).drew) m1);have sz:=(b.frozen_far ⟨D,2,none⟩ (by simp;omega) S).trans (((((Zk z.heap.size z).alloc ZU (.cells #[.int .i64 kd,.string nm,.string sd] 210)).drew).frozen (p:=⟨D,2,none⟩) (by simp only[];omega)).trans m2)))
    all_goals
     have HP:=Zz (show Av (w7.setCell ⟨D,2,none⟩ (.slice (some ⟨gg,0,none⟩) (n+1) A)) R D bd bn { Q with Ap:=d.Ap++[o] }/\DF z (w7.setCell ⟨D,2,none⟩ (.slice (some ⟨gg,0,none⟩) (n+1) A)) R D bd bn by
      have Y:=j.o.2.2.2.2;have hn:=q.o.2.2.2.2.2.2.2;have L:=j.o.1;have T:=j.o.2.2.1;rw[hn,<-Y] at L T;rw[hn,<-Y] at b m;rw[hn,<-Y];refine j.o.2.1.CU L T (by rw[Y,<-hn];exact bw) B.o.2.2.2.1 ?_ b;unfold IW;rw[<-B.o.1,<-B.o.2.1,<-B.o.2.2.1];exact m)
     clear m b al au s1 sz m1 m2 aw ax u0 Z u2
     generalize w7.setCell ⟨D,2,none⟩ (.slice (some ⟨gg,0,none⟩) (n+1) A)=w8 at *
     go_wp2_with fail
     go_ret
     refine⟨by rw[Zaw];rfl,?_,((((DF.Ae R D bd bn q.o.2.2.2.2.1).trans (DF.CK l.o.2 (Zu rfl))).trans (DF.Ae R D bd bn bf.o)).trans bo.o).trans HP.o.2⟩;have:=HP.o.1;rw[bj.o,H.o,(Zay d).2.1] at this;exact this
  | some s =>
   have N:d.BU o=0:=by unfold Ax.BU;rw[if_neg (by rw[hw];decide),if_neg (by rintro⟨x,_⟩;rw[G] at x;cases x)]
   have X:d.told o={ d.wrote with now:=EB d.now o,Ap:=d.Ap++[o] }:=by unfold Ax.told;rw[if_neg (by rw[hw];decide),if_neg (by rw[N];decide)]
   rw[N,X];have ae:=Zz G;clear N X hw G
   go_enter func324,ntmps324
   go_upto_region 1 with fail
   rw[<-q.o.2.2.2.2.2.1,<-q.o.2.2.2.2.2.2.1]
   go_upto_region 6 with (go_at_call 325;refine M.o.mono ?_;rintro _ i ⟨rfl,f,F⟩;have l:=Zz (Zq f F);clear f F;rw[Zaw])
   obtain⟨u,C⟩:∃u,u=d.wrote:=⟨_,rfl⟩
   have a:=Zz (show CF i D bd bn (.slice pa n K) u.left u.full u.down/\Av i R D bd bn u/\i.ownsRow R 210 3 (.slice pa n K) n (d.Ap.flatMap IW)/\i.heap[ob]? =some (.cells #[.int .i64 kd,.string nm,.string sd] 210 (0,0))/\u.Ap=d.Ap by
    have f:=l.o.1;have hn:=q.o.2.2.2.2.2.2.2;rw[C];rw[hn] at f ⊢;have hw:=q.o.1.wrote q.o.2.1 q.o.2.2.1 f l.o.2;exact⟨f,hw.1,hw.2,(l.o.2.block ob (Zaa q.o.2.2.2.1) (Ne.symm ay)).trans q.o.2.2.2.1,(Zay d).2.2⟩)
   have H:=Zz C;clear C;obtain⟨v,y⟩:=a.o.2.1.look B.o.2.2.2.1.1;rw[H.o,(Zay d).2.1,ae.o,<-B.o.1] at y;have m0:=a.o.1.cells.1.1.1.1.2;have u0:i.cell? ⟨ob,0,none⟩=some (.int .i64 kd):=by unfold QEk;rw[a.o.2.2.2.1];rfl
   have Z:i.cell? ⟨ob,1,none⟩=some (.string nm):=by unfold QEk;rw[a.o.2.2.2.1];rfl
   have u2:i.cell? ⟨ob,2,none⟩=some (.string sd):=by unfold QEk;rw[a.o.2.2.2.1];rfl
   simp only[Option.isSome_some] at y
   go_quiet (fail)
   go_upto_region 9 with fail
   have bf:=Zz (below_drewN i nq)
   have J:=Zz (show CF (i.drewN nq) D bd bn (.slice pa n K) u.left u.full u.down/\Av (i.drewN nq) R D bd bn u/\(i.drewN nq).ownsRow R 210 3 (.slice pa n K) n (d.Ap.flatMap IW)/\(i.drewN nq).heap[ob]? =some (.cells #[.int .i64 kd,.string nm,.string sd] 210 (0,0)) by
    obtain⟨L,I,T,h4,_⟩:=a.o;exact⟨⟨L.Au⟩,I.below (below_drewN i nq),Zak T (below_drewN i nq),h4⟩)
   clear u0 Z u2 m0 y
   generalize i.drewN nq=w2 at *
   have m0:=J.o.1.cells.1.1.1.1.2;have u0:w2.cell? ⟨ob,0,none⟩=some (.int .i64 kd):=by unfold QEk;rw[J.o.2.2.2];rfl
   have Z:w2.cell? ⟨ob,1,none⟩=some (.string nm):=by unfold QEk;rw[J.o.2.2.2];rfl
   have u2:w2.cell? ⟨ob,2,none⟩=some (.string sd):=by unfold QEk;rw[J.o.2.2.2];rfl
   obtain⟨Q,U⟩:∃Q,Q={ u with now:=EB u.now o }:=⟨_,rfl⟩
   have bh:=Zz (show ∀wx,ZY w2 wx->Calls prog 106 #[.map (some bn),.agg #[.int .i64 kd,.string nm,.string sd]] wx fun x w'=>x=.returned (.tuple #[])/\CF w' D bd bn (.slice pa n K) Q.left Q.full Q.down/\Av w' R D bd bn Q/\w'.ownsRow R 210 3 (.slice pa n K) n (d.Ap.flatMap IW)/\w'.heap[ob]? =some (.cells #[.int .i64 kd,.string nm,.string sd] 210 (0,0))/\Q.Ap=d.Ap/\DF w2 w' R D bd bn from fun wx hb=>by
    obtain⟨L,I,T,h4⟩:=J.o;have I:=I.below hb;obtain⟨Dn,ck⟩:=I.fn;have hd:=PB wx bn u.now Dn o ck B.o.2.2.2.1.1 B.o.2.2.2.1.2 (by rw[H.o,(Zay d).2.1];exact B.o.2.2.2.2);unfold opV at hd;rw[<-B.o.1,<-B.o.2.1,<-B.o.2.2.1] at hd;refine hd.mono ?_;rintro x w' ⟨rfl,hf,ho⟩;have E:=I.did hf ho;rw[U];have aj:=hb.block D (Zaa L.Au);have bp:=E.2 D _ (aj.trans L.Au) (fun _ _ x=>by cases x);have V:=E.2 ob _ ((hb.block ob (Zaa h4)).trans h4) (fun _ _ x=>by cases x);have ag:=Zak T hb;refine⟨rfl,L.at_ (bp.trans aj),E.1,⟨ag.1,?_⟩,V.trans ((hb.block ob (Zaa h4)).trans h4),a.o.2.2.2.2,(DF.Ae R D bd bn hb).trans (DF.CK ho (Zj (Zj rfl)))⟩;rcases ag.2 with x | ⟨g,cap,cur,x,hg,hh,r⟩
    .exact Zu x
    .exact Zj ⟨g,cap,cur,x,hg,(E.2 g _ hh (fun _ _ x=>by cases x)).trans hh,r⟩)
   have bj:=Zz U;clear U
   go_region_held3 (fun w'=>((w'.cell? ⟨D,1,none⟩=some (.map (some bn))/\w'.cell? ⟨ob,0,none⟩=some (.int .i64 kd))/\w'.cell? ⟨ob,1,none⟩=some (.string nm))/\w'.cell? ⟨ob,2,none⟩=some (.string sd)) (go_keep) ((go_at_call 106;refine (bh.o w2.drew (ZV.drew)).mono ?_;rintro _ z ⟨rfl,z1,z2,z3,z4,z5,z6⟩;have j:=Zz (Zq z1 (Zq z2 (Zq z3 (Zq z4 z5))));have bo:=Zz z6;have y0:=z1.cells.1.1.1.1.2;have y1:z.cell? ⟨ob,0,none⟩=some (.int .i64 kd):=Zad z4 0;have y2:z.cell? ⟨ob,1,none⟩=some (.string nm):=Zad z4 1;have y3:z.cell? ⟨ob,2,none⟩=some (.string sd):=Zad z4 2;clear z1 z2 z3 z4 z5 z6))
   clear u0 Z u2 m0 y0 y1 y2 y3
   go_upto_region 10 with fail
   have m1:=j.o.1.cells.1.1.1.2;have m2:=j.o.1.AD 2;have u0:z.cell? ⟨ob,0,none⟩=some (.int .i64 kd):=by unfold QEk;rw[j.o.2.2.2.1];rfl
   have Z:z.cell? ⟨ob,1,none⟩=some (.string nm):=by unfold QEk;rw[j.o.2.2.2.1];rfl
   have u2:z.cell? ⟨ob,2,none⟩=some (.string sd):=by unfold QEk;rw[j.o.2.2.2.1];rfl
   have cu:D<z.heap.size:=Zaa j.o.1.Au;have O:=Zz j.o.2.2.1
   have S:some D≠(QFv pa n K).ownBlock:=fun e=>by
    rcases O.o.2 with⟨I,_⟩ | ⟨g,cap,cur,I,_,hh,_⟩
    .rw[I] at e;simp[QCi] at e
    .rw[I] at e
     simp only[QCi,QCf] at e;subst e;exact Zah j.o.1.Au hh (by decide) rfl
   have aw:=QFa (((Zk z.heap.size z).alloc ZU (.cells #[.int .i64 kd,.string nm,.string sd] 210)).drew) m1;have ax:=QFa ((Zk z.heap.size z).alloc ZU (.cells #[.int .i64 kd,.string nm,.string sd] 210)) m1
   go_region_law ((refine QJg _ (by rfl) _ _ _ (by rfl) R 210 io _ 3 40 underlying90 HI.o.1 HI.o.2.1 HI.o.2.2.1 HI.o.2.2.2 rfl (by omega) (.slice pa n K) n (d.Ap.flatMap IW) (by rfl) ((O.o.alloc _).drew) ⟨z.heap.size,0,none⟩ 1 1 [.int .i64 kd,.string nm,.string sd] (by rfl) (by rfl) (QJh (cs:=#[.int .i64 kd,.string nm,.string sd]) (t:=210) (fr:=(0,0)) (QFm z _)) (by simp[QFu]) (by omega) (by unfold maxLen;omega) (by omega) (by have:=j.o.2.1.rs;simp;omega) (z.heap.size+1) (by simp) ?_;intro gg A w7 m b al au;have s1:=(b.cell_far ⟨D,2,none⟩ (by simp;omega) S).trans (QFa (((Zk z.heap.size z).alloc ZU _).drew) m1);have sz:=(b.frozen_far ⟨D,2,none⟩ (by simp;omega) S).trans (((((Zk z.heap.size z).alloc ZU (.cells #[.int .i64 kd,.string nm,.string sd] 210)).drew).frozen (p:=⟨D,2,none⟩) (by simp only[];omega)).trans m2)))
   all_goals
    have HP:=Zz (show Av (w7.setCell ⟨D,2,none⟩ (.slice (some ⟨gg,0,none⟩) (n+1) A)) R D bd bn { Q with Ap:=d.Ap++[o] }/\DF z (w7.setCell ⟨D,2,none⟩ (.slice (some ⟨gg,0,none⟩) (n+1) A)) R D bd bn by
     have Y:=j.o.2.2.2.2;have hn:=q.o.2.2.2.2.2.2.2;have L:=j.o.1;have T:=j.o.2.2.1;rw[hn,<-Y] at L T;rw[hn,<-Y] at b m;rw[hn,<-Y];refine j.o.2.1.CU L T (by rw[Y,<-hn];exact bw) B.o.2.2.2.1 ?_ b;unfold IW;rw[<-B.o.1,<-B.o.2.1,<-B.o.2.2.1];exact m)
    clear m b al au s1 sz m1 m2 aw ax u0 Z u2
    generalize w7.setCell ⟨D,2,none⟩ (.slice (some ⟨gg,0,none⟩) (n+1) A)=w8 at *
    go_wp2_with fail
    go_ret
    refine⟨by rw[Zaw];rfl,?_,((((DF.Ae R D bd bn q.o.2.2.2.2.1).trans (DF.CK l.o.2 (Zu rfl))).trans (DF.Ae R D bd bn bf.o)).trans bo.o).trans HP.o.2⟩;have:=HP.o.1;rw[bj.o,H.o,(Zay d).2.1] at this;exact this
 .have N:d.BU o=10:=by unfold Ax.BU;rw[hE];rfl
  have X:d.told o=d.wrote:=by unfold Ax.told;rw[if_neg (by rw[hE];decide),if_pos (by rw[N];decide)]
  rw[hE] at M;rw[N,X];clear N X hE
  go_enter func324,ntmps324
  go_upto_region 1 with fail
  rw[<-q.o.2.2.2.2.2.1,<-q.o.2.2.2.2.2.2.1]
  go_upto_region 3 with (go_at_call 325;refine M.o.mono ?_;rintro _ i ⟨rfl,f,F⟩;have l:=Zz (Zq f F);clear f F;rw[Zan (by decide)])
  have heq:=QJf (P:=prog) i (k:=.i64) 10 11 underlying98 Nk underlying32;go_wp2_with fail
  go_ret
  have f:=l.o.1;rw[q.o.2.2.2.2.2.2.2] at f;exact⟨by rw[Zan (by decide)];rfl,(q.o.1.wrote q.o.2.1 q.o.2.2.1 f l.o.2).1,(DF.Ae R D bd bn q.o.2.2.2.2.1).trans (DF.CK l.o.2 (Zu rfl))⟩
 .have N:d.BU o=11:=by unfold Ax.BU;rw[hE];rfl
  have X:d.told o={ d.wrote with Ap:=d.Ap++[o] }:=by unfold Ax.told;rw[if_pos hE]
  rw[hE] at M;rw[N,X];clear N X hE
  go_enter func324,ntmps324
  go_upto_region 1 with fail
  rw[<-q.o.2.2.2.2.2.1,<-q.o.2.2.2.2.2.2.1]
  go_upto_region 3 with (go_at_call 325;refine M.o.mono ?_;rintro _ i ⟨rfl,f,F⟩;have l:=Zz (Zq f F);clear f F;rw[Zan (by decide)])
  have heq:=QJf (P:=prog) i (k:=.i64) 11 11 underlying98 Nk underlying32
  go_upto_region 4 with fail
  obtain⟨u,C⟩:∃u,u=d.wrote:=⟨_,rfl⟩
  have a:=Zz (show CF i D bd bn (.slice pa n K) u.left u.full u.down/\Av i R D bd bn u/\i.ownsRow R 210 3 (.slice pa n K) n (d.Ap.flatMap IW)/\i.heap[ob]? =some (.cells #[.int .i64 kd,.string nm,.string sd] 210 (0,0))/\u.Ap=d.Ap by
   have f:=l.o.1;have hn:=q.o.2.2.2.2.2.2.2;rw[C];rw[hn] at f ⊢;have hw:=q.o.1.wrote q.o.2.1 q.o.2.2.1 f l.o.2;exact⟨f,hw.1,hw.2,(l.o.2.block ob (Zaa q.o.2.2.2.1) (Ne.symm ay)).trans q.o.2.2.2.1,(Zay d).2.2⟩)
  have H:=Zz C;clear C;have m1:=a.o.1.cells.1.1.1.2;have m2:=a.o.1.AD 2;have u0:i.cell? ⟨ob,0,none⟩=some (.int .i64 kd):=by unfold QEk;rw[a.o.2.2.2.1];rfl
  have Z:i.cell? ⟨ob,1,none⟩=some (.string nm):=by unfold QEk;rw[a.o.2.2.2.1];rfl
  have u2:i.cell? ⟨ob,2,none⟩=some (.string sd):=by unfold QEk;rw[a.o.2.2.2.1];rfl
  have cu:D<i.heap.size:=Zaa a.o.1.Au;have O:=Zz a.o.2.2.1
  have S:some D≠(QFv pa n K).ownBlock:=fun e=>by
   rcases O.o.2 with⟨I,_⟩ | ⟨g,cap,cur,I,_,hh,_⟩
   .rw[I] at e;simp[QCi] at e
   .rw[I] at e
    simp only[QCi,QCf] at e;subst e;exact Zah a.o.1.Au hh (by decide) rfl
  have aw:=QFa (((Zk i.heap.size i).alloc ZU (.cells #[.int .i64 kd,.string nm,.string sd] 210)).drew) m1;have ax:=QFa ((Zk i.heap.size i).alloc ZU (.cells #[.int .i64 kd,.string nm,.string sd] 210)) m1
  go_region_law ((refine QJg _ (by rfl) _ _ _ (by rfl) R 210 io _ 3 40 underlying90 HI.o.1 HI.o.2.1 HI.o.2.2.1 HI.o.2.2.2 rfl (by omega) (.slice pa n K) n (d.Ap.flatMap IW) (by rfl) ((O.o.alloc _).drew) ⟨i.heap.size,0,none⟩ 1 1 [.int .i64 kd,.string nm,.string sd] (by rfl) (by rfl) (QJh (cs:=#[.int .i64 kd,.string nm,.string sd]) (t:=210) (fr:=(0,0)) (QFm i _)) (by simp[QFu]) (by omega) (by unfold maxLen;omega) (by omega) (by have:=a.o.2.1.rs;simp;omega) (i.heap.size+1) (by simp) ?_;intro gg A w7 m b al au;have s1:=(b.cell_far ⟨D,2,none⟩ (by simp;omega) S).trans (QFa (((Zk i.heap.size i).alloc ZU _).drew) m1);have sz:=(b.frozen_far ⟨D,2,none⟩ (by simp;omega) S).trans (((((Zk i.heap.size i).alloc ZU (.cells #[.int .i64 kd,.string nm,.string sd] 210)).drew).frozen (p:=⟨D,2,none⟩) (by simp only[];omega)).trans m2)))
  all_goals
   have HP:=Zz (show Av (w7.setCell ⟨D,2,none⟩ (.slice (some ⟨gg,0,none⟩) (n+1) A)) R D bd bn { u with Ap:=d.Ap++[o] }/\DF i (w7.setCell ⟨D,2,none⟩ (.slice (some ⟨gg,0,none⟩) (n+1) A)) R D bd bn by
    have Y:=a.o.2.2.2.2;have hn:=q.o.2.2.2.2.2.2.2;have L:=a.o.1;have T:=a.o.2.2.1;rw[hn,<-Y] at L T;rw[hn,<-Y] at b m;rw[hn,<-Y];refine a.o.2.1.CU L T (by rw[Y,<-hn];exact bw) B.o.2.2.2.1 ?_ b;unfold IW;rw[<-B.o.1,<-B.o.2.1,<-B.o.2.2.1];exact m)
   clear m b al au s1 sz m1 m2 aw ax u0 Z u2
   generalize w7.setCell ⟨D,2,none⟩ (.slice (some ⟨gg,0,none⟩) (n+1) A)=w8 at *
   go_wp2_with fail
   go_ret
   refine⟨by rw[Zan (by decide)];rfl,?_,((DF.Ae R D bd bn q.o.2.2.2.2.1).trans (DF.CK l.o.2 (Zu rfl))).trans HP.o.2⟩;have:=HP.o.1;rw[H.o] at this;exact this
