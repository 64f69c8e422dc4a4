import Derived.Test.YtgdcjccbdmcebaaGreatDoorM33
set_option linter.unusedSimpArgs false
set_option linter.unusedVariables false
set_option maxHeartbeats 8000000
set_option maxRecDepth 100000
open Go.Proofs.Tryz
namespace Go.Proofs.YtgdcjccbdmcebaaGreatDoor
open Go.RowKit
attribute [local go_sem ↓] Go.wp_at_zero Go.wp_at_succ
variable {w w':World}{pa:Option Addr}{D:DataW Unit}{d:Ay}{bd bn:Nat}{cs:Array Value}
theorem Zaj {k:Nat}{t:TypeId}{fr:Nat×Nat}(h:w.heap[k]? =some (.cells cs t fr))(j:Nat):w.cell? ⟨k,j,none⟩=cs[j]? :=by unfold World.cell?;rw[h];rfl
theorem Zay (d:Ay):d.wrote.CJ=d.CJ/\d.wrote.now=d.now/\d.wrote.Ap=d.Ap:=by
 unfold Ay.wrote
 split
 ·exact⟨rfl,rfl,rfl⟩
 ·split<;>exact⟨rfl,rfl,rfl⟩
theorem Rb (d:Ay):d.Bx=0\/d.Bx=10\/d.Bx=11:=by
 unfold Ay.Bx
 split
 ·exact Zj (Zj rfl)
 ·split
  ·exact Zj (Zu rfl)
  ·exact Zu rfl
theorem Av.did {R D:Nat}{o:Jp}(h:Av w R D bd bn d)(hf:∃i,AB w' bn (Ez d.now o) i)(a:Ax w w' bn):Av w' R D bd bn { d with now:=Ez d.now o }/\∀(k:Nat) (ob:Obj),w.heap[k]? =some ob->(∀es c,ob≠Obj.map es c)->w'.heap[k]? =w.heap[k]? :=by
 obtain⟨pa,l,q1,b⟩:=h.c;obtain⟨j,f⟩:=h.fd;obtain⟨n,m⟩:=h.fn;obtain⟨es,cl,hm,_⟩:=m.own
 have stay:∀(k:Nat) (ob:Obj),w.heap[k]? =some ob->(∀es c,ob≠Obj.map es c)->w'.heap[k]? =w.heap[k]? :=fun k ob e hn=>a.block k (Zaa e) (fun x=>by
  subst x;rw[hm] at e;exact hn es cl (Option.some.inj e).symm)
 refine⟨⟨Zv h.rs a.size,⟨pa,l,q1.at_ (stay D _ q1.Au (fun _ _ x=>by cases x)),b.1,?_⟩,⟨j,f.Aj (a.block bd f.lt h.ne) (fun k cs fr e=>stay k _ e (fun _ _ x=>by cases x))⟩,hf,h.ne,h.Bs,h.ops⟩,stay⟩;rcases b.2 with x | ⟨g,cap,cur,x,hg,hh,r⟩
 ·exact Zu x
 ·exact Zj ⟨g,cap,cur,x,hg,(stay g _ hh (fun _ _ x=>by cases x)).trans hh,r⟩
theorem Xc {v v':Value}{x:DataW Unit}{p c:List MemPlace}(h:Ep v=some (x,p))(a:Ep v'=some (x,c)):v=v':=by
 unfold Ep at h a
 split at h<;>split at a<;>simp_all
 ·have b:=h.1.trans a.1.symm
  simp at b ⊢;omega
 ·have b:=h.1.trans a.1.symm
  cases b
 ·have b:=h.1.trans a.1.symm
  cases b
theorem AB.GW {b:Nat}{f:BG}(h:AB w b f D){i:Nat}(hi:i<3):∃v,∀m,(Instr.lookup 89 (.map (some b)) (.string (Da i)) true).run prog (w.drewN m)= .ok (.tuple #[v, .bool (f i).isSome]) (w.drewN m):=by
 have one:∀m,∃v ps,(Instr.lookup 89 (.map (some b)) (.string (Da i)) true).run prog (w.drewN m)= .ok (.tuple #[v, .bool (f i).isSome]) (w.drewN m)/\Ep v=some (D.atKey (.string (ND i)) .nil,ps):=fun m=>by
  obtain⟨v,ps,a,g⟩:=World.ownsMap.look_ok (w:=w.drewN m) h.own CK underlying89 (XB _) (zd:= .nil) (zp:=[]) rfl (GQ i);rw[h.YC hi] at a;exact⟨v,ps,a,g⟩
 obtain⟨v0,j,_,e0⟩:=one 0;refine⟨v0,fun m=> ?_⟩;obtain⟨v,p,c,e⟩:=one m;rw[c,Xc e e0]
theorem Av.look {R D:Nat}(h:Av w R D bd bn d){i:Nat}(hi:i<3):∃v,∀m,(Instr.lookup 89 (.map (some bn)) (.string (Da i)) true).run prog (w.drewN m)= .ok (.tuple #[v, .bool (d.now i).isSome]) (w.drewN m):=by
 obtain⟨b,a⟩:=h.fn;exact a.GW hi
theorem AB.one {a k:Nat}{f:BG}(h:AB w a f D)(b:Ax w w' k)(c:a≠k)(g:∀cs fr,w.heap[k]? ≠some (.cells cs 9 fr)):AB w' a f D :=
 h.Aj (b.block _ h.lt c) (fun j cs fr e=>b.block j (Zaa e) (fun x=>g cs fr (by rw[<-x];exact e)))
theorem Av.wrote {R D b:Nat}(h:Av w R D bd bn d)(q1:CF w D bd bn (.slice pa d.Ap.length b) d.left d.full d.down)(o:w.ownsRow R 210 3 (.slice pa d.Ap.length b) d.Ap.length (d.Ap.flatMap IV))(v:CF w' D bd bn (.slice pa d.Ap.length b) d.wrote.left d.wrote.full d.wrote.down)(l:Ax w w' D):Av w' R D bd bn d.wrote/\w'.ownsRow R 210 3 (.slice pa d.Ap.length b) d.Ap.length (d.Ap.flatMap IV):=by
 obtain⟨s,p⟩:=h.fd;obtain⟨t,q⟩:=h.fn;obtain⟨u,j,k⟩:=Zay d
 have i:∀m f n,AB w m f n->m≠D:=fun m f n hf e=>by
  obtain⟨es,c,j,_⟩:=hf.own;rw[e,q1.Au] at j
  cases j
 have a:w'.ownsRow R 210 3 (.slice pa d.Ap.length b) d.Ap.length (d.Ap.flatMap IV):=by
  refine⟨o.1,?_⟩;rcases o.2 with x | ⟨g,cap,cur,x,hg,hh,r⟩
  ·exact Zu x
  ·exact Zj ⟨g,cap,cur,x,hg,(l.block g (Zaa hh) (Zai hh q1.Au (by decide))).trans hh,r⟩
 refine⟨⟨Zv h.rs l.size,⟨pa,b,by rw[k];exact v,by rw[k];exact a⟩,⟨s,by rw[u];exact p.one l (i _ _ _ p) (fun cs fr e=>by rw[q1.Au] at e;cases e)⟩,⟨t,by rw[j];exact q.one l (i _ _ _ q) (fun cs fr e=>by rw[q1.Au] at e;cases e)⟩,h.ne,by rw[k];exact h.Bs,by rw[k];exact h.ops⟩,a⟩
theorem Av.CX {w7:World}{R D gg a s:Nat}{o:Jp}(h:Av w R D bd bn d)(q1:CF w D bd bn (.slice pa d.Ap.length s) d.left d.full d.down)(A:w.ownsRow R 210 3 (.slice pa d.Ap.length s) d.Ap.length (d.Ap.flatMap IV))(hf:d.Ap.length<8)(F:o.at_<3/\(o.kind=1\/o.kind=2\/o.kind=3))
  (hown:w7.ownsRow R 210 3 (.slice (some ⟨gg,0,none⟩) (d.Ap.length+1) a) (d.Ap.length+1) (d.Ap.flatMap IV++IV o)) {b:Obj} (hg:(w.alloc b).drew.grownBy w7 (Value.slice pa d.Ap.length s).ownBlock) :
  Av (w7.setCell ⟨D,2,none⟩ (.slice (some ⟨gg,0,none⟩) (d.Ap.length+1) a)) R D bd bn { d with Ap:=d.Ap++[o] }/\DF w (w7.setCell ⟨D,2,none⟩ (.slice (some ⟨gg,0,none⟩) (d.Ap.length+1) a)) R D bd bn:=by
 obtain⟨B,H⟩:=h.fd;obtain⟨C,I⟩:=h.fn;have i:Below w.heap.size w (w.alloc b).drew:=((Zk _ _).alloc (Zx _) _).drew
 have r:∀k,some k=(Value.slice pa d.Ap.length s).ownBlock->∃cs fr,w.heap[k]? =some (.cells cs 210 fr):=fun k j=>by
  rcases A.2 with⟨v,_⟩ | ⟨g,cap,cur,v,_,hh,_⟩
  ·rw[v] at j;simp[Value.ownBlock] at j
  ·rw[v] at j
   simp only[Value.ownBlock,Option.some.injEq] at j;subst j;exact⟨_,_,hh⟩
 have stay:∀(k:Nat) (ob:Obj),w.heap[k]? =some ob->(∀cs fr,ob≠Obj.cells cs 210 fr)->w7.heap[k]? =w.heap[k]? :=fun k ob e hn=>by
  have j:=Zaa e;refine (hg.block k (Zy j i.size) (fun x=> ?_)).trans (i.block k j);obtain⟨cs,fr,l⟩:=r k x;rw[e] at l;exact hn cs fr (Option.some.inj l)
 have q:CF w7 D bd bn (.slice pa d.Ap.length s) d.left d.full d.down:=q1.at_ (stay D _ q1.Au (fun cs fr x=>by simp at x))
 have m:∀p f u,AB w p f u->AB (w7.setCell ⟨D,2,none⟩ (.slice (some ⟨gg,0,none⟩) (d.Ap.length+1) a)) p f u:=fun p f u n=>by
  obtain⟨es,c,l,_⟩:=n.own;have z:p≠D:=fun e=>by rw[e,q1.Au] at l;cases l
  refine n.Aj ((Zl w7 ⟨D,2,none⟩ _ p z).trans (stay p _ l (fun cs fr x=>by cases x))) (fun k cs fr e=> ?_);have y:k≠D:=Zai e q1.Au (by decide);exact (Zl w7 ⟨D,2,none⟩ _ k y).trans (stay k _ e (fun cs fr x=>by simp at x))
 refine⟨⟨?_,⟨some ⟨gg,0,none⟩,a,?_,?_⟩,⟨B,m _ _ _ H⟩,⟨C,m _ _ _ I⟩,h.ne,?_,fun x n=> ?_⟩,⟨?_,?_,?_,?_,fun k j E _ _ t=> ?_⟩⟩
 ·have:=hg.size
  have G:=h.rs;simp only[World.setCell,Array.size_modify];exact Zv G (Zv i.size this)
 ·simp only[ZX,List.length_singleton]
  exact q.Bt _
 ·simp only[ZX,List.length_singleton,List.flatMap_append,List.flatMap_singleton]
  exact Zae hown q.Au (by decide) _
 ·simp only[ZX,List.length_singleton];omega
 ·rcases List.mem_append.1 n with n | n
  ·exact h.ops x n
  ·rw[List.mem_singleton.1 n];exact F
 ·exact hg.os
 ·exact hg.tape
 ·exact hg.output
 ·show w.heap.size<=(w7.setCell _ _).heap.size
  have:=hg.size;simp only[World.setCell,Array.size_modify];exact Zv i.size this
 ·refine (Zl w7 ⟨D,2,none⟩ _ k E).trans ((hg.block k (Zy j i.size) (fun x=> ?_)).trans (i.block k j))
  obtain⟨cs,fr,l⟩:=r k x;rcases t with t | t
  ·have:=A.lt k x.symm
   omega
  ·exact t cs fr l
theorem Xh (w:World)(R D bd bn:Nat)(d:Ay)(o:Jp)(h:Av w R D bd bn d)(hf:d.Ap.length<8)(ha:o.at_<3/\(o.kind=1\/o.kind=2\/o.kind=3))(hs:∀s,d.now o.at_=some s->s.length+o.data.length<=9223372036854775807) :
  Calls prog 324 #[.pointer (some ⟨D,0,none⟩),opV o] w fun x w'=>x= .returned (AH (d.BW o))/\Av w' R D bd bn (d.told o)/\DF w w' R D bd bn:=by
 obtain⟨nm,ck⟩:∃nm,nm=Da o.at_:=⟨_,rfl⟩;obtain⟨sd,cm⟩:∃sd,sd=Zbm o.data:=⟨_,rfl⟩;obtain⟨z,bw⟩:∃z,z=o.kind:=⟨_,rfl⟩;obtain⟨n,hn⟩:∃n,n=d.Ap.length:=⟨_,rfl⟩;obtain⟨w0,ay⟩:∃w0,w0=w.alloc (.cells #[.int .i64 z, .string nm, .string sd] 210):=⟨_,rfl⟩;obtain⟨ob,W⟩:∃ob,ob=w.heap.size:=⟨_,rfl⟩;have bo:Below w.heap.size w w0:=by rw[ay];exact (Zk _ _).alloc (Zx _) _
 have X:w0.heap[ob]? =some (.cells #[.int .i64 z, .string nm, .string sd] 210 (0,0)):=by rw[ay,W];exact heap_alloc_new w _
 have h0:=h.below bo;obtain⟨pa,L,q1,q2⟩:=h0.c;have N:=Zz (KV w0 D bd bn (.slice pa d.Ap.length L) d q1);rw[<-hn] at N;have ax:D≠ob:=Zai q1.Au X (by decide);have q:=Zz (Zq h0 (Zq q1 (Zq q2 (Zq X (Zq bo (Zq ay (Zq W hn)))))));have C:=Zz (Zq ck (Zq cm (Zq bw (Zq ha hs))));have bp:n<8:=by rw[hn];exact hf
 obtain⟨io,hi,cr,ct,cu⟩:=info_parts infoOp;have HI:=Zz (Zq hi (Zq cr (Zq ct cu)));unfold opV;rw[<-ck,<-cm,<-bw];clear h ay W bo X h0 q1 q2 ck cm bw hn ha hs hf hi cr ct cu;rcases Rb d with hE | hE | hE
 ·have hw:=hE
  rw[hE] at N;clear hE
  cases H:d.now o.at_ with
  | none =>
   by_cases ar:z=3
   ·have O:d.BW o=9:=by unfold Ay.BW;rw[if_neg (by rw[hw];decide),if_pos ⟨H,by rw[<-C.o.2.2.1];exact ar⟩]
    have Y:d.told o=d.wrote:=by unfold Ay.told;rw[if_neg (by rw[hw];decide),if_pos (by rw[O];decide)]
    rw[O,Y];have ae:=Zz H;clear O Y hw H;subst ar
    go_enter func324,ntmps324
    go_upto_region 1 with fail
    rw[<-q.o.2.2.2.2.2.1,<-q.o.2.2.2.2.2.2.1]
    go_upto_region 6 with (go_at_call 325;refine N.o.mono ?_;rintro _ i ⟨rfl,f,G⟩;have l:=Zz (Zq f G);clear f G;rw[Zaw])
    obtain⟨u,E⟩:∃u,u=d.wrote:=⟨_,rfl⟩
    have a:=Zz (show CF i D bd bn (.slice pa n L) u.left u.full u.down/\Av i R D bd bn u/\i.ownsRow R 210 3 (.slice pa n L) n (d.Ap.flatMap IV)/\i.heap[ob]? =some (.cells #[.int .i64 3, .string nm, .string sd] 210 (0,0))/\u.Ap=d.Ap by
     have f:=l.o.1;have hn:=q.o.2.2.2.2.2.2.2;rw[E];rw[hn] at f ⊢;have hw:=q.o.1.wrote q.o.2.1 q.o.2.2.1 f l.o.2;exact⟨f,hw.1,hw.2,(l.o.2.block ob (Zaa q.o.2.2.2.1) (Ne.symm ax)).trans q.o.2.2.2.1,(Zay d).2.2⟩)
    have I:=Zz E;clear E;obtain⟨v,y⟩:=a.o.2.1.look C.o.2.2.2.1.1;rw[I.o,(Zay d).2.1,ae.o,<-C.o.1] at y;have m0:=a.o.1.cells.1.1.1.1.2;have u0:i.cell? ⟨ob,0,none⟩=some (.int .i64 3):=by unfold World.cell?;rw[a.o.2.2.2.1];rfl
    have u1:i.cell? ⟨ob,1,none⟩=some (.string nm):=by unfold World.cell?;rw[a.o.2.2.2.1];rfl
    simp only[Option.isSome_none] at y
    go_quiet (fail)
    go_wp2_with fail
    go_ret
    refine⟨by rw[Zan (by decide)];rfl,?_,((DF.Ae R D bd bn q.o.2.2.2.2.1).trans (DF.CM l.o.2 (Zu rfl))).trans (DF.Ae R D bd bn (below_drewN i _))⟩;have:=a.o.2.1.below (below_drewN i nq);rw[I.o] at this;exact this
   ·have O:d.BW o=0:=by unfold Ay.BW;rw[if_neg (by rw[hw];decide),if_neg (by rintro⟨_,x⟩;exact ar (C.o.2.2.1.trans x))]
    have Y:d.told o={ d.wrote with now:=Ez d.now o,Ap:=d.Ap++[o] }:=by unfold Ay.told;rw[if_neg (by rw[hw];decide),if_neg (by rw[O];decide)]
    rw[O,Y];have ae:=Zz H;have b3:(z == 3)=false:=by simpa using ar
    have cy:decide (z=3)=false:=decide_eq_false ar;clear O Y hw H
    go_enter func324,ntmps324
    go_upto_region 1 with fail
    rw[<-q.o.2.2.2.2.2.1,<-q.o.2.2.2.2.2.2.1]
    go_upto_region 6 with (go_at_call 325;refine N.o.mono ?_;rintro _ i ⟨rfl,f,G⟩;have l:=Zz (Zq f G);clear f G;rw[Zaw])
    obtain⟨u,E⟩:∃u,u=d.wrote:=⟨_,rfl⟩
    have a:=Zz (show CF i D bd bn (.slice pa n L) u.left u.full u.down/\Av i R D bd bn u/\i.ownsRow R 210 3 (.slice pa n L) n (d.Ap.flatMap IV)/\i.heap[ob]? =some (.cells #[.int .i64 z, .string nm, .string sd] 210 (0,0))/\u.Ap=d.Ap by
     have f:=l.o.1;have hn:=q.o.2.2.2.2.2.2.2;rw[E];rw[hn] at f ⊢;have hw:=q.o.1.wrote q.o.2.1 q.o.2.2.1 f l.o.2;exact⟨f,hw.1,hw.2,(l.o.2.block ob (Zaa q.o.2.2.2.1) (Ne.symm ax)).trans q.o.2.2.2.1,(Zay d).2.2⟩)
    have I:=Zz E;clear E;obtain⟨v,y⟩:=a.o.2.1.look C.o.2.2.2.1.1;rw[I.o,(Zay d).2.1,ae.o,<-C.o.1] at y;have m0:=a.o.1.cells.1.1.1.1.2;have u0:i.cell? ⟨ob,0,none⟩=some (.int .i64 z):=by unfold World.cell?;rw[a.o.2.2.2.1];rfl
    have u1:i.cell? ⟨ob,1,none⟩=some (.string nm):=by unfold World.cell?;rw[a.o.2.2.2.1];rfl
    have u2:i.cell? ⟨ob,2,none⟩=some (.string sd):=by unfold World.cell?;rw[a.o.2.2.2.1];rfl
    simp only[Option.isSome_none] at y
    go_quiet (fail)
    go_upto_region 9 with fail
    have az:=Zz (below_drewN i nq)
    have K:=Zz (show CF (i.drewN nq) D bd bn (.slice pa n L) u.left u.full u.down/\Av (i.drewN nq) R D bd bn u/\(i.drewN nq).ownsRow R 210 3 (.slice pa n L) n (d.Ap.flatMap IV)/\(i.drewN nq).heap[ob]? =some (.cells #[.int .i64 z, .string nm, .string sd] 210 (0,0)) by
     obtain⟨M,J,U,h4,_⟩:=a.o;exact⟨⟨M.Au⟩,J.below (below_drewN i nq),Zam U (below_drewN i nq),h4⟩)
    clear u0 u1 u2 m0 y
    generalize i.drewN nq=w2 at *
    have m0:=K.o.1.cells.1.1.1.1.2;have u0:w2.cell? ⟨ob,0,none⟩=some (.int .i64 z):=by unfold World.cell?;rw[K.o.2.2.2];rfl
    have u1:w2.cell? ⟨ob,1,none⟩=some (.string nm):=by unfold World.cell?;rw[K.o.2.2.2];rfl
    have u2:w2.cell? ⟨ob,2,none⟩=some (.string sd):=by unfold World.cell?;rw[K.o.2.2.2];rfl
    obtain⟨S,V⟩:∃S,S={ u with now:=Ez u.now o }:=⟨_,rfl⟩
    have b9:=Zz (show ∀wx,Below w2.heap.size w2 wx->Calls prog 106 #[.map (some bn), .agg #[.int .i64 z, .string nm, .string sd]] wx fun x w'=>x= .returned (.tuple #[])/\CF w' D bd bn (.slice pa n L) S.left S.full S.down/\Av w' R D bd bn S/\w'.ownsRow R 210 3 (.slice pa n L) n (d.Ap.flatMap IV)/\w'.heap[ob]? =some (.cells #[.int .i64 z, .string nm, .string sd] 210 (0,0))/\S.Ap=d.Ap/\DF w2 w' R D bd bn from fun wx hb=>by
     obtain⟨M,J,U,h4⟩:=K.o;have J:=J.below hb;obtain⟨Dn,br⟩:=J.fn;have hd:=PL wx bn u.now Dn o br C.o.2.2.2.1.1 C.o.2.2.2.1.2 (by rw[I.o,(Zay d).2.1];exact C.o.2.2.2.2);unfold opV at hd;rw[<-C.o.1,<-C.o.2.1,<-C.o.2.2.1] at hd;refine hd.mono ?_;rintro x w' ⟨rfl,hf,ho⟩;have F:=J.did hf ho;rw[V];have aj:=hb.block D (Zaa M.Au);have bj:=F.2 D _ (aj.trans M.Au) (fun _ _ x=>by cases x);have W:=F.2 ob _ ((hb.block ob (Zaa h4)).trans h4) (fun _ _ x=>by cases x);have ag:=Zam U hb;refine⟨rfl,M.at_ (bj.trans aj),F.1,⟨ag.1,?_⟩,W.trans ((hb.block ob (Zaa h4)).trans h4),a.o.2.2.2.2,(DF.Ae R D bd bn hb).trans (DF.CM ho (Zj (Zj rfl)))⟩;rcases ag.2 with x | ⟨g,cap,cur,x,hg,hh,r⟩
     ·exact Zu x
     ·exact Zj ⟨g,cap,cur,x,hg,(F.2 g _ hh (fun _ _ x=>by cases x)).trans hh,r⟩)
    have bf:=Zz V;clear V
    go_region_held3 (fun w'=>((w'.cell? ⟨D,1,none⟩=some (.map (some bn))/\w'.cell? ⟨ob,0,none⟩=some (.int .i64 z))/\w'.cell? ⟨ob,1,none⟩=some (.string nm))/\w'.cell? ⟨ob,2,none⟩=some (.string sd)) (go_keep) ((go_at_call 106;refine (b9.o w2.drew ((Zk _ _).drew)).mono ?_;rintro _ A ⟨rfl,z1,z2,z3,z4,z5,z6⟩;have j:=Zz (Zq z1 (Zq z2 (Zq z3 (Zq z4 z5))));have bh:=Zz z6;have y0:=z1.cells.1.1.1.1.2;have y1:A.cell? ⟨ob,0,none⟩=some (.int .i64 z):=Zaj z4 0;have y2:A.cell? ⟨ob,1,none⟩=some (.string nm):=Zaj z4 1;have y3:A.cell? ⟨ob,2,none⟩=some (.string sd):=Zaj z4 2;clear z1 z2 z3 z4 z5 z6))
    clear u0 u1 u2 m0 y0 y1 y2 y3
    go_upto_region 10 with fail
    have m1:=j.o.1.cells.1.1.1.2;have m2:=j.o.1.AE 2;have u0:A.cell? ⟨ob,0,none⟩=some (.int .i64 z):=by unfold World.cell?;rw[j.o.2.2.2.1];rfl
    have u1:A.cell? ⟨ob,1,none⟩=some (.string nm):=by unfold World.cell?;rw[j.o.2.2.2.1];rfl
    have u2:A.cell? ⟨ob,2,none⟩=some (.string sd):=by unfold World.cell?;rw[j.o.2.2.2.1];rfl
    have cq:D<A.heap.size:=Zaa j.o.1.Au;have Q:=Zz j.o.2.2.1
    have T:some D≠(Value.slice pa n L).ownBlock:=fun e=>by
     rcases Q.o.2 with⟨J,_⟩ | ⟨g,cap,cur,J,_,hh,_⟩
     ·rw[J] at e;simp[Value.ownBlock] at e
     ·rw[J] at e
      simp only[Value.ownBlock,Option.some.injEq] at e;subst e;exact Zai j.o.1.Au hh (by decide) rfl
    have av:=cell_later (((Zk A.heap.size A).alloc (Zx _) (.cells #[.int .i64 z, .string nm, .string sd] 210)).drew) m1;have aw:=cell_later ((Zk A.heap.size A).alloc (Zx _) (.cells #[.int .i64 z, .string nm, .string sd] 210)) m1
    go_region_law ((refine step_append_lies _ (by rfl) _ _ _ (by rfl) R 210 io _ 3 40 underlying90 HI.o.1 HI.o.2.1 HI.o.2.2.1 HI.o.2.2.2 rfl (by omega) (.slice pa n L) n (d.Ap.flatMap IV) (by rfl) ((Q.o.alloc _).drew) ⟨A.heap.size,0,none⟩ 1 1 [.int .i64 z, .string nm, .string sd] (by rfl) (by rfl) (World.news_of_block (cs:=#[.int .i64 z, .string nm, .string sd]) (t:=210) (fr:=(0,0)) (heap_alloc_new A _)) (by simp[Value.oneCell']) (by omega) (by unfold maxLen;omega) (by omega) (by have:=j.o.2.1.rs;simp;omega) (A.heap.size+1) (by simp) ?_;intro gg B w7 m b al au;have s1:=(b.cell_far ⟨D,2,none⟩ (by simp;omega) T).trans (cell_later (((Zk A.heap.size A).alloc (Zx _) _).drew) m1);have sz:=(b.frozen_far ⟨D,2,none⟩ (by simp;omega) T).trans (((((Zk A.heap.size A).alloc (Zx _) (.cells #[.int .i64 z, .string nm, .string sd] 210)).drew).frozen (p:=⟨D,2,none⟩) (by simp only[];omega)).trans m2)))
    all_goals
     have HP:=Zz (show Av (w7.setCell ⟨D,2,none⟩ (.slice (some ⟨gg,0,none⟩) (n+1) B)) R D bd bn { S with Ap:=d.Ap++[o] }/\DF A (w7.setCell ⟨D,2,none⟩ (.slice (some ⟨gg,0,none⟩) (n+1) B)) R D bd bn by
      have Z:=j.o.2.2.2.2;have hn:=q.o.2.2.2.2.2.2.2;have M:=j.o.1;have U:=j.o.2.2.1;rw[hn,<-Z] at M U;rw[hn,<-Z] at b m;rw[hn,<-Z];refine j.o.2.1.CX M U (by rw[Z,<-hn];exact bp) C.o.2.2.2.1 ?_ b;unfold IV;rw[<-C.o.1,<-C.o.2.1,<-C.o.2.2.1];exact m)
     clear m b al au s1 sz m1 m2 av aw u0 u1 u2
     generalize w7.setCell ⟨D,2,none⟩ (.slice (some ⟨gg,0,none⟩) (n+1) B)=w8 at *
     go_wp2_with fail
     go_ret
     refine⟨by rw[Zaw];rfl,?_,((((DF.Ae R D bd bn q.o.2.2.2.2.1).trans (DF.CM l.o.2 (Zu rfl))).trans (DF.Ae R D bd bn az.o)).trans bh.o).trans HP.o.2⟩;have:=HP.o.1;rw[bf.o,I.o,(Zay d).2.1] at this;exact this
  | some s =>
   have O:d.BW o=0:=by unfold Ay.BW;rw[if_neg (by rw[hw];decide),if_neg (by rintro⟨x,_⟩;rw[H] at x;cases x)]
   have Y:d.told o={ d.wrote with now:=Ez d.now o,Ap:=d.Ap++[o] }:=by unfold Ay.told;rw[if_neg (by rw[hw];decide),if_neg (by rw[O];decide)]
   rw[O,Y];have ae:=Zz H;clear O Y hw H
   go_enter func324,ntmps324
   go_upto_region 1 with fail
   rw[<-q.o.2.2.2.2.2.1,<-q.o.2.2.2.2.2.2.1]
   go_upto_region 6 with (go_at_call 325;refine N.o.mono ?_;rintro _ i ⟨rfl,f,G⟩;have l:=Zz (Zq f G);clear f G;rw[Zaw])
   obtain⟨u,E⟩:∃u,u=d.wrote:=⟨_,rfl⟩
   have a:=Zz (show CF i D bd bn (.slice pa n L) u.left u.full u.down/\Av i R D bd bn u/\i.ownsRow R 210 3 (.slice pa n L) n (d.Ap.flatMap IV)/\i.heap[ob]? =some (.cells #[.int .i64 z, .string nm, .string sd] 210 (0,0))/\u.Ap=d.Ap by
    have f:=l.o.1;have hn:=q.o.2.2.2.2.2.2.2;rw[E];rw[hn] at f ⊢;have hw:=q.o.1.wrote q.o.2.1 q.o.2.2.1 f l.o.2;exact⟨f,hw.1,hw.2,(l.o.2.block ob (Zaa q.o.2.2.2.1) (Ne.symm ax)).trans q.o.2.2.2.1,(Zay d).2.2⟩)
   have I:=Zz E;clear E;obtain⟨v,y⟩:=a.o.2.1.look C.o.2.2.2.1.1;rw[I.o,(Zay d).2.1,ae.o,<-C.o.1] at y;have m0:=a.o.1.cells.1.1.1.1.2;have u0:i.cell? ⟨ob,0,none⟩=some (.int .i64 z):=by unfold World.cell?;rw[a.o.2.2.2.1];rfl
   have u1:i.cell? ⟨ob,1,none⟩=some (.string nm):=by unfold World.cell?;rw[a.o.2.2.2.1];rfl
   have u2:i.cell? ⟨ob,2,none⟩=some (.string sd):=by unfold World.cell?;rw[a.o.2.2.2.1];rfl
   simp only[Option.isSome_some] at y
   go_quiet (fail)
   go_upto_region 9 with fail
   have az:=Zz (below_drewN i nq)
   have K:=Zz (show CF (i.drewN nq) D bd bn (.slice pa n L) u.left u.full u.down/\Av (i.drewN nq) R D bd bn u/\(i.drewN nq).ownsRow R 210 3 (.slice pa n L) n (d.Ap.flatMap IV)/\(i.drewN nq).heap[ob]? =some (.cells #[.int .i64 z, .string nm, .string sd] 210 (0,0)) by
    obtain⟨M,J,U,h4,_⟩:=a.o;exact⟨⟨M.Au⟩,J.below (below_drewN i nq),Zam U (below_drewN i nq),h4⟩)
   clear u0 u1 u2 m0 y
   generalize i.drewN nq=w2 at *
   have m0:=K.o.1.cells.1.1.1.1.2;have u0:w2.cell? ⟨ob,0,none⟩=some (.int .i64 z):=by unfold World.cell?;rw[K.o.2.2.2];rfl
   have u1:w2.cell? ⟨ob,1,none⟩=some (.string nm):=by unfold World.cell?;rw[K.o.2.2.2];rfl
   have u2:w2.cell? ⟨ob,2,none⟩=some (.string sd):=by unfold World.cell?;rw[K.o.2.2.2];rfl
   obtain⟨S,V⟩:∃S,S={ u with now:=Ez u.now o }:=⟨_,rfl⟩
   have b9:=Zz (show ∀wx,Below w2.heap.size w2 wx->Calls prog 106 #[.map (some bn), .agg #[.int .i64 z, .string nm, .string sd]] wx fun x w'=>x= .returned (.tuple #[])/\CF w' D bd bn (.slice pa n L) S.left S.full S.down/\Av w' R D bd bn S/\w'.ownsRow R 210 3 (.slice pa n L) n (d.Ap.flatMap IV)/\w'.heap[ob]? =some (.cells #[.int .i64 z, .string nm, .string sd] 210 (0,0))/\S.Ap=d.Ap/\DF w2 w' R D bd bn from fun wx hb=>by
    obtain⟨M,J,U,h4⟩:=K.o;have J:=J.below hb;obtain⟨Dn,br⟩:=J.fn;have hd:=PL wx bn u.now Dn o br C.o.2.2.2.1.1 C.o.2.2.2.1.2 (by rw[I.o,(Zay d).2.1];exact C.o.2.2.2.2);unfold opV at hd;rw[<-C.o.1,<-C.o.2.1,<-C.o.2.2.1] at hd;refine hd.mono ?_;rintro x w' ⟨rfl,hf,ho⟩;have F:=J.did hf ho;rw[V];have aj:=hb.block D (Zaa M.Au);have bj:=F.2 D _ (aj.trans M.Au) (fun _ _ x=>by cases x);have W:=F.2 ob _ ((hb.block ob (Zaa h4)).trans h4) (fun _ _ x=>by cases x);have ag:=Zam U hb;refine⟨rfl,M.at_ (bj.trans aj),F.1,⟨ag.1,?_⟩,W.trans ((hb.block ob (Zaa h4)).trans h4),a.o.2.2.2.2,(DF.Ae R D bd bn hb).trans (DF.CM ho (Zj (Zj rfl)))⟩;rcases ag.2 with x | ⟨g,cap,cur,x,hg,hh,r⟩
    ·exact Zu x
    ·exact Zj ⟨g,cap,cur,x,hg,(F.2 g _ hh (fun _ _ x=>by cases x)).trans hh,r⟩)
   have bf:=Zz V;clear V
   go_region_held3 (fun w'=>((w'.cell? ⟨D,1,none⟩=some (.map (some bn))/\w'.cell? ⟨ob,0,none⟩=some (.int .i64 z))/\w'.cell? ⟨ob,1,none⟩=some (.string nm))/\w'.cell? ⟨ob,2,none⟩=some (.string sd)) (go_keep) ((go_at_call 106;refine (b9.o w2.drew ((Zk _ _).drew)).mono ?_;rintro _ A ⟨rfl,z1,z2,z3,z4,z5,z6⟩;have j:=Zz (Zq z1 (Zq z2 (Zq z3 (Zq z4 z5))));have bh:=Zz z6;have y0:=z1.cells.1.1.1.1.2;have y1:A.cell? ⟨ob,0,none⟩=some (.int .i64 z):=Zaj z4 0;have y2:A.cell? ⟨ob,1,none⟩=some (.string nm):=Zaj z4 1;have y3:A.cell? ⟨ob,2,none⟩=some (.string sd):=Zaj z4 2;clear z1 z2 z3 z4 z5 z6))
   clear u0 u1 u2 m0 y0 y1 y2 y3
   go_upto_region 10 with fail
   have m1:=j.o.1.cells.1.1.1.2;have m2:=j.o.1.AE 2;have u0:A.cell? ⟨ob,0,none⟩=some (.int .i64 z):=by unfold World.cell?;rw[j.o.2.2.2.1];rfl
   have u1:A.cell? ⟨ob,1,none⟩=some (.string nm):=by unfold World.cell?;rw[j.o.2.2.2.1];rfl
   have u2:A.cell? ⟨ob,2,none⟩=some (.string sd):=by unfold World.cell?;rw[j.o.2.2.2.1];rfl
   have cq:D<A.heap.size:=Zaa j.o.1.Au;have Q:=Zz j.o.2.2.1
   have T:some D≠(Value.slice pa n L).ownBlock:=fun e=>by
    rcases Q.o.2 with⟨J,_⟩ | ⟨g,cap,cur,J,_,hh,_⟩
    ·rw[J] at e;simp[Value.ownBlock] at e
    ·rw[J] at e
     simp only[Value.ownBlock,Option.some.injEq] at e;subst e;exact Zai j.o.1.Au hh (by decide) rfl
   have av:=cell_later (((Zk A.heap.size A).alloc (Zx _) (.cells #[.int .i64 z, .string nm, .string sd] 210)).drew) m1;have aw:=cell_later ((Zk A.heap.size A).alloc (Zx _) (.cells #[.int .i64 z, .string nm, .string sd] 210)) m1
   go_region_law ((refine step_append_lies _ (by rfl) _ _ _ (by rfl) R 210 io _ 3 40 underlying90 HI.o.1 HI.o.2.1 HI.o.2.2.1 HI.o.2.2.2 rfl (by omega) (.slice pa n L) n (d.Ap.flatMap IV) (by rfl) ((Q.o.alloc _).drew) ⟨A.heap.size,0,none⟩ 1 1 [.int .i64 z, .string nm, .string sd] (by rfl) (by rfl) (World.news_of_block (cs:=#[.int .i64 z, .string nm, .string sd]) (t:=210) (fr:=(0,0)) (heap_alloc_new A _)) (by simp[Value.oneCell']) (by omega) (by unfold maxLen;omega) (by omega) (by have:=j.o.2.1.rs;simp;omega) (A.heap.size+1) (by simp) ?_;intro gg B w7 m b al au;have s1:=(b.cell_far ⟨D,2,none⟩ (by simp;omega) T).trans (cell_later (((Zk A.heap.size A).alloc (Zx _) _).drew) m1);have sz:=(b.frozen_far ⟨D,2,none⟩ (by simp;omega) T).trans (((((Zk A.heap.size A).alloc (Zx _) (.cells #[.int .i64 z, .string nm, .string sd] 210)).drew).frozen (p:=⟨D,2,none⟩) (by simp only[];omega)).trans m2)))
   all_goals
    have HP:=Zz (show Av (w7.setCell ⟨D,2,none⟩ (.slice (some ⟨gg,0,none⟩) (n+1) B)) R D bd bn { S with Ap:=d.Ap++[o] }/\DF A (w7.setCell ⟨D,2,none⟩ (.slice (some ⟨gg,0,none⟩) (n+1) B)) R D bd bn by
     have Z:=j.o.2.2.2.2;have hn:=q.o.2.2.2.2.2.2.2;have M:=j.o.1;have U:=j.o.2.2.1;rw[hn,<-Z] at M U;rw[hn,<-Z] at b m;rw[hn,<-Z];refine j.o.2.1.CX M U (by rw[Z,<-hn];exact bp) C.o.2.2.2.1 ?_ b;unfold IV;rw[<-C.o.1,<-C.o.2.1,<-C.o.2.2.1];exact m)
    clear m b al au s1 sz m1 m2 av aw u0 u1 u2
    generalize w7.setCell ⟨D,2,none⟩ (.slice (some ⟨gg,0,none⟩) (n+1) B)=w8 at *
    go_wp2_with fail
    go_ret
    refine⟨by rw[Zaw];rfl,?_,((((DF.Ae R D bd bn q.o.2.2.2.2.1).trans (DF.CM l.o.2 (Zu rfl))).trans (DF.Ae R D bd bn az.o)).trans bh.o).trans HP.o.2⟩;have:=HP.o.1;rw[bf.o,I.o,(Zay d).2.1] at this;exact this
 ·have O:d.BW o=10:=by unfold Ay.BW;rw[hE];rfl
  have Y:d.told o=d.wrote:=by unfold Ay.told;rw[if_neg (by rw[hE];decide),if_pos (by rw[O];decide)]
  rw[hE] at N;rw[O,Y];clear O Y hE
  go_enter func324,ntmps324
  go_upto_region 1 with fail
  rw[<-q.o.2.2.2.2.2.1,<-q.o.2.2.2.2.2.2.1]
  go_upto_region 3 with (go_at_call 325;refine N.o.mono ?_;rintro _ i ⟨rfl,f,G⟩;have l:=Zz (Zq f G);clear f G;rw[Zan (by decide)])
  have heq:=Go.Lib.run_eql_iface_int (P:=prog) i (k:= .i64) 10 11 underlying98 Nl underlying32;go_wp2_with fail
  go_ret
  have f:=l.o.1;rw[q.o.2.2.2.2.2.2.2] at f;exact⟨by rw[Zan (by decide)];rfl,(q.o.1.wrote q.o.2.1 q.o.2.2.1 f l.o.2).1,(DF.Ae R D bd bn q.o.2.2.2.2.1).trans (DF.CM l.o.2 (Zu rfl))⟩
 ·have O:d.BW o=11:=by unfold Ay.BW;rw[hE];rfl
  have Y:d.told o={ d.wrote with Ap:=d.Ap++[o] }:=by unfold Ay.told;rw[if_pos hE]
  rw[hE] at N;rw[O,Y];clear O Y hE
  go_enter func324,ntmps324
  go_upto_region 1 with fail
  rw[<-q.o.2.2.2.2.2.1,<-q.o.2.2.2.2.2.2.1]
  go_upto_region 3 with (go_at_call 325;refine N.o.mono ?_;rintro _ i ⟨rfl,f,G⟩;have l:=Zz (Zq f G);clear f G;rw[Zan (by decide)])
  have heq:=Go.Lib.run_eql_iface_int (P:=prog) i (k:= .i64) 11 11 underlying98 Nl underlying32
  go_upto_region 4 with fail
  obtain⟨u,E⟩:∃u,u=d.wrote:=⟨_,rfl⟩
  have a:=Zz (show CF i D bd bn (.slice pa n L) u.left u.full u.down/\Av i R D bd bn u/\i.ownsRow R 210 3 (.slice pa n L) n (d.Ap.flatMap IV)/\i.heap[ob]? =some (.cells #[.int .i64 z, .string nm, .string sd] 210 (0,0))/\u.Ap=d.Ap by
   have f:=l.o.1;have hn:=q.o.2.2.2.2.2.2.2;rw[E];rw[hn] at f ⊢;have hw:=q.o.1.wrote q.o.2.1 q.o.2.2.1 f l.o.2;exact⟨f,hw.1,hw.2,(l.o.2.block ob (Zaa q.o.2.2.2.1) (Ne.symm ax)).trans q.o.2.2.2.1,(Zay d).2.2⟩)
  have I:=Zz E;clear E;have m1:=a.o.1.cells.1.1.1.2;have m2:=a.o.1.AE 2;have u0:i.cell? ⟨ob,0,none⟩=some (.int .i64 z):=by unfold World.cell?;rw[a.o.2.2.2.1];rfl
  have u1:i.cell? ⟨ob,1,none⟩=some (.string nm):=by unfold World.cell?;rw[a.o.2.2.2.1];rfl
  have u2:i.cell? ⟨ob,2,none⟩=some (.string sd):=by unfold World.cell?;rw[a.o.2.2.2.1];rfl
  have cq:D<i.heap.size:=Zaa a.o.1.Au;have Q:=Zz a.o.2.2.1
  have T:some D≠(Value.slice pa n L).ownBlock:=fun e=>by
   rcases Q.o.2 with⟨J,_⟩ | ⟨g,cap,cur,J,_,hh,_⟩
   ·rw[J] at e;simp[Value.ownBlock] at e
   ·rw[J] at e
    simp only[Value.ownBlock,Option.some.injEq] at e;subst e;exact Zai a.o.1.Au hh (by decide) rfl
  have av:=cell_later (((Zk i.heap.size i).alloc (Zx _) (.cells #[.int .i64 z, .string nm, .string sd] 210)).drew) m1;have aw:=cell_later ((Zk i.heap.size i).alloc (Zx _) (.cells #[.int .i64 z, .string nm, .string sd] 210)) m1
  go_region_law ((refine step_append_lies _ (by rfl) _ _ _ (by rfl) R 210 io _ 3 40 underlying90 HI.o.1 HI.o.2.1 HI.o.2.2.1 HI.o.2.2.2 rfl (by omega) (.slice pa n L) n (d.Ap.flatMap IV) (by rfl) ((Q.o.alloc _).drew) ⟨i.heap.size,0,none⟩ 1 1 [.int .i64 z, .string nm, .string sd] (by rfl) (by rfl) (World.news_of_block (cs:=#[.int .i64 z, .string nm, .string sd]) (t:=210) (fr:=(0,0)) (heap_alloc_new i _)) (by simp[Value.oneCell']) (by omega) (by unfold maxLen;omega) (by omega) (by have:=a.o.2.1.rs;simp;omega) (i.heap.size+1) (by simp) ?_;intro gg B w7 m b al au;have s1:=(b.cell_far ⟨D,2,none⟩ (by simp;omega) T).trans (cell_later (((Zk i.heap.size i).alloc (Zx _) _).drew) m1);have sz:=(b.frozen_far ⟨D,2,none⟩ (by simp;omega) T).trans (((((Zk i.heap.size i).alloc (Zx _) (.cells #[.int .i64 z, .string nm, .string sd] 210)).drew).frozen (p:=⟨D,2,none⟩) (by simp only[];omega)).trans m2)))
  all_goals
   have HP:=Zz (show Av (w7.setCell ⟨D,2,none⟩ (.slice (some ⟨gg,0,none⟩) (n+1) B)) R D bd bn { u with Ap:=d.Ap++[o] }/\DF i (w7.setCell ⟨D,2,none⟩ (.slice (some ⟨gg,0,none⟩) (n+1) B)) R D bd bn by
    have Z:=a.o.2.2.2.2;have hn:=q.o.2.2.2.2.2.2.2;have M:=a.o.1;have U:=a.o.2.2.1;rw[hn,<-Z] at M U;rw[hn,<-Z] at b m;rw[hn,<-Z];refine a.o.2.1.CX M U (by rw[Z,<-hn];exact bp) C.o.2.2.2.1 ?_ b;unfold IV;rw[<-C.o.1,<-C.o.2.1,<-C.o.2.2.1];exact m)
   clear m b al au s1 sz m1 m2 av aw u0 u1 u2
   generalize w7.setCell ⟨D,2,none⟩ (.slice (some ⟨gg,0,none⟩) (n+1) B)=w8 at *
   go_wp2_with fail
   go_ret
   refine⟨by rw[Zan (by decide)];rfl,?_,((DF.Ae R D bd bn q.o.2.2.2.2.1).trans (DF.CM l.o.2 (Zu rfl))).trans HP.o.2⟩;have:=HP.o.1;rw[I.o] at this;exact this
end Go.Proofs.YtgdcjccbdmcebaaGreatDoor
