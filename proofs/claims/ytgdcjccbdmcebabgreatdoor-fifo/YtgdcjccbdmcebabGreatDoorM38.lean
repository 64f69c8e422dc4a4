import Derived.Test.YtgdcjccbdmcebabGreatDoorM37
set_option linter.unusedSimpArgs false
set_option linter.unusedVariables false
namespace Go.Proofs.YtgdcjccbdmcebabGreatDoor
open Go.RowKit
set_option maxRecDepth 100000
attribute [local go_sem ↓] Go.wp_at_zero Go.wp_at_succ
variable {Kp:Int->World->Prop}
theorem Zbg {fn:Func}{p u v:Tmp}{ty:TypeId}(h:fn.results=#[.cell p ty, .tmp u, .tmp v])(tmps:Array Value)(P:Program)(w:World) :
  (results fn tmps).run P w =
   ((asAddr (tmps.getD p undef)).run P w).andThen fun a w₁=>((loadVar ty a).run P w₁).andThen fun x w₂=> .ok (.tuple #[x,tmps.getD u undef,tmps.getD v undef]) w₂:=by
 simp only [results,h]
 simp [Sem.run_bind,Result.andThen]
structure OneF (w w':World)(rb:Nat):Prop where
 os:w'.os=w.os
 tape:w'.tape=w.tape
 output:w'.output=w.output
 size:w.heap.size<=w'.heap.size
 block:∀k,k<w.heap.size->k≠rb->w'.heap[k]? =w.heap[k]?
theorem OneF.gf {w w':World}{rb P:Nat}(h:OneF w w' rb)(hP:P<w.heap.size)(hr:P≠rb):GF w w' P (fun _=>False) (fun k=>k=rb) :=
 ⟨h.size,fun k hk _ hS=>h.block k hk hS,fun o _=>World.cell?_of_block (a:=⟨P,o,none⟩) (h.block P hP hr),fun o=>World.frozen?_of_block (a:=⟨P,o,none⟩) (h.block P hP hr)⟩
theorem KpX.one {w w':World}{P B:Nat}{ob:Option Nat}{e:EngD}{rs:List RnM}{l:List Tm}{rb:Nat}(h:KpX w P B ob e rs l)(ho:OneF w w' rb)(hP:P≠rb)(hr:∃cs fr,w.heap[rb]? =some (.cells cs 43 fr)):KpX w' P B ob e rs l:=by
 obtain⟨el,now,hM,h2,h3⟩:=h.ex
 have g:=ho.gf hM.pl hP
 obtain⟨cs0,fr0,hrb⟩:=hr
 have no:∀{k:Nat} {cs:Array Value} {t:TypeId} {fr:Nat×Nat},w.heap[k]? =some (.cells cs t fr)->t≠43->¬k=rb:=fun e ht hk=>Zak e hrb ht hk
 obtain⟨ka,kc,h1⟩:=hM.kn
 obtain⟨a,n,c,f,ys,h4,h4b⟩:=hM.en
 obtain⟨a',n',c',f',ys',h5⟩:=hM.qu
 refine⟨⟨el,now,⟨⟨ka,kc,h1.gf g (fun h=>h) (fun k cs t fr _ e ht=>no e (by rcases ht with rfl | rfl | rfl | rfl<;>decide))⟩,⟨a,n,c,f,ys,h4.gf g (fun o _ _ h=>h) (fun k cs t fr _ e ht _=>no e (by subst ht;decide)),h4b⟩,⟨a',n',c',f',ys',h5.gf g (fun o _ _ h=>h) (fun k cs t fr _ e ht=>no e (by subst ht;decide))⟩,hM.wh.gf g (fun o _ _ h=>h) (fun k cs t fr _ e ht=>no e (by subst ht;decide)) (fun k es c _ e hk=>by subst hk;rw [hrb] at e;cases e),(g.off 728 (fun h=>h)).trans hM.lr,(g.off 729 (fun h=>h)).trans hM.lt,(g.off 730 (fun h=>h)).trans hM.sd,fun o=>(g.froz o).trans (hM.fz o)⟩,h2,h3⟩,h.len,h.runs⟩
structure TkC (w:World)(rb:Nat)(a b c d:Int):Prop where
 blk:w.heap[rb]? =some (.cells #[.int .u64 a, .int .i64 b, .int .i64 c, .int .u64 d] 43 (0,0))
theorem TkC.cells {w:World}{rb:Nat}{a b c d:Int}(h:TkC w rb a b c d):((w.cell? ⟨rb,0,none⟩=some (.int .u64 a)/\w.cell? ⟨rb,1,none⟩=some (.int .i64 b))/\w.cell? ⟨rb,2,none⟩=some (.int .i64 c))/\w.cell? ⟨rb,3,none⟩=some (.int .u64 d):=by
 unfold World.cell?;rw [h.blk];exact⟨⟨⟨rfl,rfl⟩,rfl⟩,rfl⟩
theorem TkC.froz {w:World}{rb:Nat}{a b c d:Int}(h:TkC w rb a b c d):((w.frozen? ⟨rb,0,none⟩=false/\w.frozen? ⟨rb,1,none⟩=false)/\w.frozen? ⟨rb,2,none⟩=false)/\w.frozen? ⟨rb,3,none⟩=false:=by
 unfold World.frozen?;rw [h.blk];exact⟨⟨⟨rfl,rfl⟩,rfl⟩,rfl⟩
theorem TkC.set {w:World}{rb:Nat}{a b c d:Int}(h:TkC w rb a b c d)(x y z t:Int):TkC ((((w.setCell ⟨rb,0,none⟩ (.int .u64 x)).setCell ⟨rb,1,none⟩ (.int .i64 y)).setCell ⟨rb,2,none⟩ (.int .i64 z)).setCell ⟨rb,3,none⟩ (.int .u64 t)) rb x y z t:=by
 have e1:=Zac (o:=0) h.blk (.int .u64 x)
 have e2:=Zac (o:=1) e1 (.int .i64 y)
 have e3:=Zac (o:=2) e2 (.int .i64 z)
 have e4:=Zac (o:=3) e3 (.int .u64 t)
 exact⟨e4⟩
theorem TkC.at_ {w w':World}{rb:Nat}{a b c d:Int}(h:TkC w rb a b c d)(e:w'.heap[rb]? =w.heap[rb]?):TkC w' rb a b c d:=⟨e.trans h.blk⟩
theorem OneF.set4 (w:World)(rb:Nat)(x y z t:Value):OneF w ((((w.setCell ⟨rb,0,none⟩ x).setCell ⟨rb,1,none⟩ y).setCell ⟨rb,2,none⟩ z).setCell ⟨rb,3,none⟩ t) rb :=
 ⟨rfl,rfl,rfl,by simp [World.setCell],fun k _ hk=>(Below.heap_setCell _ ⟨rb,3,none⟩ _ k hk).trans ((Below.heap_setCell _ ⟨rb,2,none⟩ _ k hk).trans ((Below.heap_setCell _ ⟨rb,1,none⟩ _ k hk).trans (Below.heap_setCell _ ⟨rb,0,none⟩ _ k hk)))⟩
theorem OneF.below {w w0 w':World}{rb:Nat}(h:OneF w0 w' rb)(hb:Below w.heap.size w w0)(hr:w.heap.size<=rb):Below w.heap.size w w':=⟨h.os.trans hb.os,h.tape.trans hb.tape,h.output.trans hb.output,Nat.le_trans hb.size h.size,fun k hk=>(h.block k (Nat.lt_of_lt_of_le hk hb.size) (by omega)).trans (hb.block k hk)⟩
theorem task_res {w:World}{rb:Nat}{a b c d:Int}(h:TkC w rb a b c d):(loadVar 43 ⟨rb,0,none⟩).run Tryz.prog w= .ok (.agg #[.int .u64 a, .int .i64 b, .int .i64 c, .int .u64 d]) w:=by
 obtain⟨⟨⟨h0,h1⟩,h2⟩,h3⟩:=h.cells
 go_simp
theorem OneF.drew {w w':World}{rb:Nat}(h:OneF w w' rb):OneF w w'.drew rb:=⟨h.os,h.tape,h.output,h.size,h.block⟩
theorem modify_two {α:Type}(l:List α)(i:Nat)(f g:α->α):(l.modify i f).modify i g=l.modify i (fun x=>g (f x)):=by
 apply List.ext_getElem?
 intro j
 rw [List.getElem?_modify,List.getElem?_modify,List.getElem?_modify]
 cases l[j]? with
 | none=>rfl
 | some r =>
  show some _=some _
  congr 1
  by_cases c:i=j
  ·subst c;simp
  ·simp [c]
theorem onStep_onStep (e:EngD)(i k:Nat)(f g:StD->StD):((e.onStep i k f).onStep i k g).runs=(e.onStep i k (fun s=>g (f s))).runs:=by
 show (e.runs.modify i _).modify i _=e.runs.modify i _
 rw [modify_two]
 congr 1
 funext r
 unfold RunD.onStep
 simp only [RunD.mk.injEq,true_and,and_true]
 exact modify_two _ _ _ _
def taskV (r:Int)(k:Nat)(t tk:Int):Value:= .agg #[.int .u64 r, .int .i64 k, .int .i64 t, .int .u64 tk]
def taskZ:Value:= .agg #[.int .u64 0, .int .i64 0, .int .i64 0, .int .u64 0]
def pollV (p:PlD)(t tk v:Int):Value:=if v=0 then .tuple #[taskV p.run p.node t tk, .bool true, .nilIface] else .tuple #[taskZ, .bool false,errV v]
set_option maxHeartbeats 16000000 in
theorem kpoll_any (w:World)(P B:Nat)(ob:Option Nat)(e:EngD)(fn:Nat)(cs:Array Value)(h:KpAt w P B ob e)(wk:EngWk e)(hk:KeepC w P B fn cs Kp)(hlr:e.lastRun<18446744073709551616)(hlt:e.lastTok<18446744073709551615) :
  Calls Tryz.prog 56 #[.pointer (some ⟨P,4,none⟩), .func (.func fn) #[] cs] w fun x w'=>(e.poll=none/\x= .returned (.tuple #[taskZ, .bool false, .nilIface])/\Below w.heap.size w w')\/∃p t tk e2 v w2 rb,e.poll=some (p,t,tk,e2)/\x= .returned (pollV p t tk v)/\KOut P B ob Kp e e2 v w2/\OneF w2 w' rb/\w.heap.size<=rb/\(∃cs fr,w2.heap[rb]? =some (.cells cs 43 fr)):=by
 obtain⟨rs,l,hx,ht⟩:=h
 obtain⟨el,now,hM,htm,hel⟩:=hx.ex
 obtain⟨qa,qn,qc,qf,qys,hq⟩:=hM.qu
 have hpl:=hM.pl
 obtain⟨w0,hw0⟩:∃w0,w0=w.alloc (.cells #[.int .u64 0, .int .i64 0, .int .i64 0, .int .u64 0] 43):=⟨_,rfl⟩
 obtain⟨rb,hrb⟩:∃rb,rb=w.heap.size:=⟨_,rfl⟩
 have hB0:Below w.heap.size w w0:=by rw [hw0];exact (Below.refl _ _).alloc (Nat.le_refl _) _
 have hblk:w0.heap[rb]? =some (.cells #[.int .u64 0, .int .i64 0, .int .i64 0, .int .u64 0] 43 (0,0)):=by rw [hw0,hrb];exact heap_alloc_new w _
 have hq0:=hq.below hB0
 have c2:=hq0.c2
 have HE:=Hid.mk (emptyTR_any w0 P e.queue.length c2)
 cases hqe:e.queue with
 | nil =>
  rw [hqe] at HE
  have HE':Hid (Calls Tryz.prog 95 #[.pointer (some ⟨P,8,none⟩)] w0 fun e w'=>e= .returned (.bool true)/\w'=w0):=HE
  have hn:=poll_empty hqe
  have HR:=Hid.mk (And.intro hB0 hn)
  have HW0:=Hid.mk (And.intro hrb hw0)
  have HTK:=Hid.mk (TkC.mk hblk)
  obtain⟨⟨⟨f0,f1⟩,f2⟩,f3⟩:=HTK.out.froz
  obtain⟨⟨⟨z0,z1⟩,z2⟩,z3⟩:=HTK.out.cells
  clear hx ht hM htm hel hq hq0 c2 hqe hk hB0 hn hrb hw0 hblk
  go_enter Tryz.func56,Tryz.ntmps56
  go_upto_region 1 with fail
  rw [<-HW0.out.1,<-HW0.out.2]
  go_wp2_with (go_at_call 95;refine HE'.out.mono ?_;rintro _ w1 ⟨rfl,hw1⟩;rw [hw1])
  (try simp only [Exit.inBlock,Exit.then])
  have hres:=task_res (HTK.out.set 0 0 0 0)
  refine bodyPost_ret (v:= .tuple #[taskZ, .bool false, .nilIface]) (by rw [Zbg rfl];simp [Result.andThen,asAddr,hres,taskZ]) rfl ?_
  exact Or.inl ⟨HR.out.2,rfl,(OneF.set4 w0 rb _ _ _ _).below HR.out.1 (Nat.le_of_eq HW0.out.1.symm)⟩
 | cons p q =>
  rw [hqe] at HE
  have HE':Hid (Calls Tryz.prog 95 #[.pointer (some ⟨P,8,none⟩)] w0 fun e w'=>e= .returned (.bool false)/\w'=w0):=HE
  obtain⟨i,hi,hkl,hrun,hst,hfi,hpoll⟩:=poll_head wk hqe
  have HP:=Hid.mk (And.intro hi (And.intro hkl (And.intro hrun (And.intro hst (And.intro hfi (And.intro hpoll hqe))))))
  have HX:=Hid.mk (And.intro hx ht)
  have HR:=Hid.mk hB0
  have HW0:=Hid.mk (And.intro hrb hw0)
  have HTK:=Hid.mk (TkC.mk hblk)
  have HK:=Hid.mk (hk.2 w0 hB0)
  have hcf:=hk.1 w0
  have HPL:=Hid.mk hM.pb
  have hpq:=c2
  rw [hqe] at c2
  clear hx ht hM htm hel hq hq0 hqe hk hB0 hrb hw0 hblk hi hkl hrun hst hfi hpoll hpl hpq
  go_enter Tryz.func56,Tryz.ntmps56
  go_upto_region 1 with fail
  rw [<-HW0.out.1,<-HW0.out.2]
  go_upto_region 4 with (first
   | (go_at_call 95;refine HE'.out.mono ?_;rintro _ w1 ⟨rfl,hw1⟩;rw [hw1])
   | (refine HK.out.mono ?_;rintro _ w1 ⟨v,rfl,hn,hkp⟩;have HN:=Hid.mk (And.intro hn hkp);clear hn hkp))
  have HTK1:=Hid.mk (HTK.out.at_ (HN.out.1.block rb _ _ _ (by have:=HPL.out;have:=HW0.out.1;omega) HTK.out.blk (by unfold KTy;simp)))
  have hX1:=(HX.out.1.below HR.out).side HN.out.1
  by_cases hv:v=0
  ·subst hv
   rw [Zay]
   obtain⟨el,now,hM,htm,hel⟩:=hX1.ex
   obtain⟨qa1,qn1,qc1,qf1,qys1,hq1⟩:=hM.qu
   rw [HP.out.2.2.2.2.2.2] at hq1
   have HPOP:=Hid.mk (popTR_any w1 P B qn1 qc1 qf1 qa1 qys1 q p hq1)
   have HM1:=Hid.mk (And.intro hM (And.intro htm (And.intro hel hq1)))
   have HX1:=Hid.mk hX1
   clear hM htm hel hq1 hX1 hcf c2
   go_upto_region 7 with (go_at_call 96;refine HPOP.out.mono ?_;rintro _ w2 ⟨rfl,hp⟩;have HQ2:=Hid.mk hp;clear hp)
   obtain⟨w3,hw3⟩:∃w3,w3=w2.alloc (.cells #[.int .u64 p.run, .int .i64 p.node] 180):=⟨_,rfl⟩
   obtain⟨sb,hsb⟩:∃sb,sb=w2.heap.size:=⟨_,rfl⟩
   rw [<-hw3,<-hsb]
   have hB3:Below w2.heap.size w2 w3:=by rw [hw3];exact (Below.refl _ _).alloc (Nat.le_refl _) _
   have hs3:SpotAt w3 sb p.run p.node:=by rw [hw3,hsb];exact heap_alloc_new w2 _
   have H3:=Hid.mk (show KpX w3 P B ob { e with queue:=q } rs l/\KF w1 w3 P B ob/\SpotAt w3 sb p.run p.node/\TkC w3 rb 0 0 0 0/\rb<sb by
    obtain⟨m1,m2,m3,m4⟩:=HM1.out
    obtain⟨f',ys',k1,k2⟩:=HQ2.out
    have hkf:=KF.of_rfq m4 k2 ob
    have hrl:=Zaa HTK1.out.blk
    refine⟨⟨⟨el,now,(m1.queue (by rw [HP.out.2.2.2.2.2.2];exact m4) k2 ⟨_,_,_,_,_,k1⟩).below hB3,m2,m3.same rfl (fun _ _=>⟨rfl,rfl⟩)⟩,HX1.out.len,HX1.out.runs⟩,hkf.trans (KF.of_below P B ob hB3) (ObTo.refl _ _),hs3,?_,by have:=hkf.size;omega⟩
    have e1:w2.heap[rb]? =w1.heap[rb]? :=hkf.block rb hrl (by have:=HPL.out;have:=HW0.out.1;omega) (Or.inr ⟨_,_,_,HTK1.out.blk,by decide,by decide,by decide,by decide,by decide,fun x=>absurd x (by decide)⟩)
    exact HTK1.out.at_ ((hB3.block rb (by have:=hkf.size;omega)).trans e1))
   have HSB:=Hid.mk hsb
   clear hw3 hB3 hs3 hsb
   obtain⟨b,hb⟩:∃b,b=(rnAt rs i).b:=⟨_,rfl⟩
   obtain⟨ng,hng⟩:∃ng,ng=(rnAt rs i).ng:=⟨_,rfl⟩
   obtain⟨n,hn⟩:∃n,n=(rnAt rs i).ns.length:=⟨_,rfl⟩
   obtain⟨r,hr⟩:∃r,r=rnAt rs i:=⟨_,rfl⟩
   have hKN:RnAt w3 B r/\RnIs r (e.at_ i)/\(∀m,Calls Tryz.prog 94 #[.pointer (some ⟨P,4,none⟩), .int .u64 p.run] (w3.drewN m) fun x w'=>x= .returned (.pointer (some ⟨b,0,none⟩))/\∃q,w'=(w3.drewN m).drewN q):=by
    obtain⟨el',now',hM',_,_⟩:=H3.out.1.ex
    obtain⟨ka,kc,hkn⟩:=hM'.kn
    have hil:i<rs.length:=by rw [HX1.out.len];exact HP.out.1
    refine⟨by rw [hr];exact hkn.runs i hil,by rw [hr];exact HX1.out.runs i HP.out.1,fun m=> ?_⟩
    have:=find_any (w3.drewN m) P B kc ka rs p.run (hkn.below (below_drewN w3 m))
    rw [findR_is HX1.out.len HX1.out.runs,HP.out.2.2.2.2.1] at this
    refine this.mono ?_
    rintro x w' ⟨rfl,rfl⟩
    exact⟨by rw [hb];rfl,0,rfl⟩
   obtain⟨hRn,hRI,hFI⟩:=hKN
   have HFI:=Hid.mk hFI
   obtain⟨⟨t0,_,t2⟩,_⟩:=hRn.topC
   obtain⟨_,_,hnc,_,hgB,_⟩:=hRn.rowBlk
   have h12:=hRn.few
   have hkr:p.node<r.ns.length:=by rw [hRI.len];exact HP.out.2.1
   have hnn:n=r.ns.length:=by rw [hn,hr]
   rw [<-hr] at hb hng
   rw [<-hb,<-hng,<-hnn] at t2
   rw [<-hnn] at hnc h12 hkr
   have hkn':(p.node:Int)<(n:Int):=by omega
   obtain⟨v0,v1⟩:=H3.out.2.2.1.cells
   have HRN:=Hid.mk (And.intro hRn (And.intro hRI (And.intro hb (And.intro hng (And.intro hnn (And.intro hr hgB))))))
   generalize r.nc=nc at *
   clear hRn hRI hFI hb hng hn hnn hr hgB t0
   go_quiet ((go_at_call 94;refine Calls.quiet_of (HFI.out _)))
   go_upto_region 8 with fail
   have hB4:Below w3.heap.size w3 (w3.drewN nq):=below_drewN w3 nq
   have H4:=Hid.mk (And.intro (H3.out.1.below hB4) (And.intro (HRN.out.1.below hB4) (And.intro hB4 (show SpotAt (w3.drewN nq) sb p.run p.node/\TkC (w3.drewN nq) rb 0 0 0 0 from⟨H3.out.2.2.1,⟨H3.out.2.2.2.1.blk⟩⟩))))
   clear hB4 t2 v0 v1
   generalize w3.drewN nq=w4 at *
   obtain⟨d0,dz⟩:w4.cell? ⟨P,729,none⟩=some (.int .u64 e.lastTok)/\w4.frozen? ⟨P,729,none⟩=false:=by
    obtain⟨_,_,hM,_,_⟩:=H4.out.1.ex
    exact⟨hM.lt,hM.fz 729⟩
   have ew:IntKind.u64.wrap (e.lastTok+1)=e.lastTok+1:=by have:=wk.lt0;rw [IntKind.wrap_u64];omega
   go_upto_region 9 with fail
   obtain⟨tk,htk⟩:∃tk,tk=e.lastTok+1:=⟨_,rfl⟩
   rw [<-htk]
   obtain⟨w5,hw5⟩:∃w5,w5=w4.setCell ⟨P,729,none⟩ (.int .u64 tk):=⟨_,rfl⟩
   rw [<-hw5]
   have H5:=Hid.mk (show KpX w5 P B ob { e with queue:=q,lastTok:=tk } rs l/\RnAt w5 B r/\KF w1 w5 P B ob/\SpotAt w5 sb p.run p.node/\TkC w5 rb 0 0 0 0 by
    obtain⟨x1,x2,x3,x4,x5⟩:=H4.out
    obtain⟨el',now',hM',m2,m3⟩:=x1.ex
    have hb:∀k,k≠P->w5.heap[k]? =w4.heap[k]? :=fun k hk=>by rw [hw5];exact Below.heap_setCell w4 ⟨P,729,none⟩ _ k hk
    have hPB:=HPL.out
    have hsz:P<w1.heap.size:=by have:=HX1.out.ex;obtain⟨_,_,hM,_⟩:=this;exact hM.pl
    have hM5:=hM'.num 729 tk e.lastRun tk e.seed (Or.inr (Or.inl ⟨rfl,rfl,rfl,rfl⟩))
    rw [<-hw5] at hM5
    refine⟨⟨⟨el',now',hM5,m2,m3.same rfl (fun _ _=>⟨rfl,rfl⟩)⟩,x1.len,x1.runs⟩,?_,?_,(hb sb (by have:=H3.out.2.2.2.2;have:=HW0.out.1;omega)).trans x4,x5.at_ (hb rb (by have:=HW0.out.1;omega))⟩
    ·obtain⟨ka,kc,hkn⟩:=hM5.kn
     have:=hkn.runs i (by rw [HX1.out.len];exact HP.out.1)
     rw [<-HRN.out.2.2.2.2.2.1] at this
     exact this
    ·have:=KF.setP w4 P B 729 ob (.int .u64 tk) (by omega)
     rw [<-hw5] at this
     exact (H3.out.2.1.trans (KF.of_below P B ob x3) (ObTo.refl _ _)).trans this (ObTo.refl _ _))
   have HTKN:=Hid.mk htk
   clear d0 dz ew hw5 htk
   obtain⟨tr,htr⟩:∃tr,tr=((e.at_ i).at_ p.node).tries:=⟨_,rfl⟩
   have hnd:((r.at_ p.node).tries=tr/\(r.at_ p.node).cl=(e.at_ i).fl.cl p.node/\(r.at_ p.node).be=(e.at_ i).fl.be p.node)/\OkNode (e.at_ i).fl p.node/\(0<=tr/\tr<=5)/\(e.at_ i).st=1:=by
    have h1:=wk.runs_of HP.out.1 HP.out.2.1 (by rw [HP.out.2.2.2.1];omega)
    have hrun:=wk.runs i HP.out.1
    have hok:=hrun.fl.node p.node (by rw [<-hrun.len];exact HP.out.2.1)
    have q1:=HRN.out.2.1.live h1 p.node HP.out.2.1
    have q2:=HRN.out.2.1.nd p.node HP.out.2.1
    have hst:=hrun.steps p.node HP.out.2.1
    have:=hst.tr0
    have:=hst.trB
    have:=hok.bu2
    exact⟨⟨by rw [htr];exact q2.2,q1.cl,q1.be⟩,hok,by omega,h1⟩
   have HND:=Hid.mk hnd
   have HTR:=Hid.mk htr
   obtain⟨y0,y1,y2,y3,y4,y5,y6,y7,y8,y9⟩:=(show NdC w5 ng (p.node * 10) (r.at_ p.node) by
    have:=H5.out.2.1.nd (k:=p.node) (by rw [<-HRN.out.2.2.2.2.1];exact hkr)
    rw [<-HRN.out.2.2.2.1] at this
    exact this)
   rw [HND.out.1.1] at y8
   rw [HND.out.1.2.1] at y1
   rw [HND.out.1.2.2] at y2
   have hfz:∀j,w5.frozen? ⟨ng,j,none⟩=false:=fun j=>by rw [HRN.out.2.2.2.1];exact H5.out.2.1.froz j
   have g7:=hfz (p.node * 10+7)
   have g8:=hfz (p.node * 10+8)
   have g9:=hfz (p.node * 10+9)
   obtain⟨cl,hcl⟩:∃cl,cl=(e.at_ i).fl.cl p.node:=⟨_,rfl⟩
   obtain⟨be,hbe⟩:∃be,be=(e.at_ i).fl.be p.node:=⟨_,rfl⟩
   rw [<-hcl] at y1
   rw [<-hbe] at y2
   have HCB:=Hid.mk (And.intro hcl hbe)
   have ew:wrap64 (tr+1)=tr+1:=by have:=hnd.2.2.1;unfold wrap64;omega
   have d5:w5.cell? ⟨P,729,none⟩=some (.int .u64 tk):=by
    obtain⟨_,_,hM,_,_⟩:=H5.out.1.ex
    exact hM.lt
   have hPg:¬P=ng:=by have:=HPL.out;have:=HRN.out.2.2.2.2.2.2;have:=HRN.out.2.2.2.1;omega
   have hgP:¬ng=P:=fun x=>hPg x.symm
   clear hfz hnd htr hcl hbe y0 y3 y4 y5 y6
   go_upto_region 12 with fail
   obtain⟨w6,hw6⟩:∃w6,w6=((w5.setCell ⟨ng,p.node * 10+7,none⟩ (.int .i64 3)).setCell ⟨ng,p.node * 10+8,none⟩ (.int .i64 (tr+1))).setCell ⟨ng,p.node * 10+9,none⟩ (.int .u64 tk):=⟨_,rfl⟩
   rw [<-hw6]
   obtain⟨r',hr'⟩:∃r',r'=r.onNd p.node (fun n=>{ n with st:=3,tries:=tr+1,tok:=tk }):=⟨_,rfl⟩
   obtain⟨ec,hec⟩:∃ec,ec=({ e with queue:=q,lastTok:=tk }:EngD).onStep i p.node (fun s=>{ s with st:=3,tries:=tr+1,tok:=tk }):=⟨_,rfl⟩
   have H6:=Hid.mk (show KpX w6 P B ob ec (rs.set i r') l/\RnAt w6 B r'/\KF w1 w6 P B ob/\SpotAt w6 sb p.run p.node/\TkC w6 rb 0 0 0 0 by
    obtain⟨x1,x2,x3,x4,x5⟩:=H5.out
    have hk0:p.node<r.ns.length:=by rw [<-HRN.out.2.2.2.2.1];exact hkr
    have s1:=x2.setNd (k:=p.node) (j:=7) (f:=fun n=>{ n with st:=3 }) (v:= .int .i64 3) hk0 (by omega) rfl ⟨rfl,rfl,rfl⟩
    have s2:=s1.setNd (k:=p.node) (j:=8) (f:=fun n=>{ n with tries:=tr+1 }) (v:= .int .i64 (tr+1)) (by rw [RnM.onNd_len];exact hk0) (by omega) rfl ⟨rfl,rfl,rfl⟩
    have s3:=s2.setNd (k:=p.node) (j:=9) (f:=fun n=>{ n with tok:=tk }) (v:= .int .u64 tk) (by rw [RnM.onNd_len,RnM.onNd_len];exact hk0) (by omega) rfl ⟨rfl,rfl,rfl⟩
    have hf:=((RnF.setG w5 r.b r.ng (p.node * 10+7) (.int .i64 3)).trans (RnF.setG _ r.b r.ng (p.node * 10+8) (.int .i64 (tr+1)))).trans (RnF.setG _ r.b r.ng (p.node * 10+9) (.int .u64 tk))
    have e3:r'=((r.onNd p.node (fun n=>{ n with st:=3 })).onNd p.node (fun n=>{ n with tries:=tr+1 })).onNd p.node (fun n=>{ n with tok:=tk }):=by rw [hr',RnM.onNd_onNd,RnM.onNd_onNd]
    have s3:RnAt (((w5.setCell ⟨r.ng,p.node * 10+7,none⟩ (.int .i64 3)).setCell ⟨r.ng,p.node * 10+8,none⟩ (.int .i64 (tr+1))).setCell ⟨r.ng,p.node * 10+9,none⟩ (.int .u64 tk)) B r':=by rw [e3];exact s3
    rw [<-HRN.out.2.2.2.1,<-hw6] at hf s3
    have hX:=x1.onNd (e':=ec) (i:=i) (k:=p.node) (f:=fun n=>{ n with st:=3,tries:=tr+1,tok:=tk }) (g:=fun s=>{ s with st:=3,tries:=tr+1,tok:=tk }) HP.out.1 HND.out.2.2.2 HP.out.2.1 rfl rfl (by
     have:=HRN.out.2.1.live HND.out.2.2.2 p.node HP.out.2.1
     rw [HRN.out.2.2.2.2.2.1] at this
     exact⟨rfl,this.bu,this.cl,this.be,this.ba,this.ca,this.ji,this.af⟩) (by rw [<-HRN.out.2.2.2.2.2.1,<-hr'];exact s3) (by rw [<-HRN.out.2.2.2.2.2.1,<-HRN.out.2.2.2.1];exact hf) (by rw [hec]) (by rw [hec];rfl) (by rw [hec];rfl) (by rw [hec];rfl) (by rw [hec];rfl) (by rw [hec];rfl)
    rw [<-HRN.out.2.2.2.2.2.1,<-hr'] at hX
    obtain⟨cg,hgh,_⟩:=x2.rowBlk
    refine⟨hX.1,s3,x3.trans hX.2.2 (ObTo.refl _ _),(hf.block sb (Zaa x4) (Zak x4 x2.top (by decide)) (by rw [HRN.out.2.2.2.1];exact Zak x4 hgh (by decide))).trans x4,x5.at_ (hf.block rb (Zaa x5.blk) (Zak x5.blk x2.top (by decide)) (by rw [HRN.out.2.2.2.1];exact Zak x5.blk hgh (by decide)))⟩)
   have HRN':=Hid.mk (show r'.ng=ng/\r'.b=b/\p.node<r'.ns.length/\r'.at_ p.node={ r.at_ p.node with st:=3,tries:=tr+1,tok:=tk } by
    have hk0:p.node<r.ns.length:=by rw [<-HRN.out.2.2.2.2.1];exact hkr
    rw [hr']
    refine⟨HRN.out.2.2.2.1.symm,HRN.out.2.2.1.symm,by rw [RnM.onNd_len];exact hk0,?_⟩
    rw [RnM.onNd_at _ _ _ _ hk0,if_pos rfl])
   have hfar:∀wx w',Below w6.heap.size w6 wx->PF wx w' P B noK->(((((w'.cell? ⟨sb,0,none⟩=some (.int .u64 p.run)/\w'.cell? ⟨sb,1,none⟩=some (.int .i64 p.node))/\w'.cell? ⟨ng,p.node * 10+1,none⟩=some (.int .i64 cl))/\w'.cell? ⟨ng,p.node * 10+2,none⟩=some (.int .i64 be))/\w'.cell? ⟨ng,p.node * 10+8,none⟩=some (.int .i64 (tr+1)))/\w'.cell? ⟨ng,p.node * 10+9,none⟩=some (.int .u64 tk))/\SpotAt w' sb p.run p.node/\TkC w' rb 0 0 0 0:=fun wx w' hb hf=>by
    obtain⟨x1,x2,x3,x4,x5⟩:=H6.out
    obtain⟨cg,hgh,_,_,hgB,_⟩:=x2.rowBlk
    obtain⟨n1,n2,n3,n4⟩:=HRN'.out
    have hnd:=x2.nd n3
    rw [n4] at hnd
    rw [n1] at hgh hnd hgB
    have stay:∀k cs t fr,w6.heap[k]? =some (.cells cs t fr)->t≠183->k≠P->w'.heap[k]? =w6.heap[k]? :=fun k cs t fr e ht hk=>by
     have e1:=hb.block k (Zaa e)
     exact (hf.other (e1.trans e) ht hk).trans e1
    have hPB:=HPL.out
    have h1:=stay sb _ _ _ x4 (by decide) (by have:=H3.out.2.2.2.2;have:=HW0.out.1;omega)
    have h2:=stay ng _ _ _ hgh (by decide) (by omega)
    have h3:=stay rb _ _ _ x5.blk (by decide) (by have:=HW0.out.1;omega)
    have hs:SpotAt w' sb p.run p.node:=h1.trans x4
    have hc:=hs.cells
    refine⟨⟨⟨⟨⟨hc,?_⟩,?_⟩,?_⟩,?_⟩,hs,x5.at_ h3⟩
    ·rw [HCB.out.1,<-HND.out.1.2.1];exact (World.cell?_of_block (a:=⟨ng,p.node * 10+1,none⟩) h2).trans hnd.c1
    ·rw [HCB.out.2,<-HND.out.1.2.2];exact (World.cell?_of_block (a:=⟨ng,p.node * 10+2,none⟩) h2).trans hnd.c2
    ·exact (World.cell?_of_block (a:=⟨ng,p.node * 10+8,none⟩) h2).trans hnd.c8
    ·exact (World.cell?_of_block (a:=⟨ng,p.node * 10+9,none⟩) h2).trans hnd.c9
   have HFAR:=Hid.mk hfar
   have hSet:∀wx,Below w6.heap.size w6 wx->Calls Tryz.prog 87 #[.pointer (some ⟨P,4,none⟩), .agg #[.int .u64 p.run, .int .i64 p.node, .int .i64 1], .int .i64 cl] wx fun x w'=>x= .returned (.tuple #[])/\∃y l1,CanIs l (keyI p.run p.node 1) y l1/\WhAt w' P B noK now (l1++[⟨keyI p.run p.node 1,Za0 now (now+cl),e.timers+1⟩])/\PF wx w' P B noK:=fun wx hb=>by
    obtain⟨x1,_⟩:=H6.out
    obtain⟨el',now',hM,m2,_⟩:=x1.ex
    have hnow:now'=now:=by
     have e1:ec.time=e.time:=by rw [hec];rfl
     have:=HM1.out.2.1
     omega
    subst hnow
    have:=wk.id1 i HP.out.1
    have:=wk.idB i HP.out.1
    have:=wk.n12 HP.out.1
    have:=HP.out.2.1
    have hok:=HND.out.2.1
    rw [HP.out.2.2.1]
    exact kset_any wx P B now' l (keyI (e.at_ i).id p.node 1) (e.at_ i).id p.node 1 cl e.timers (hM.wh.keep hb) (keyOk (by omega) (by omega) (by omega) (by omega) (by decide) (by decide)) (by rw [HCB.out.1];have:=hok.cl1;omega) (by rw [HCB.out.1];have:=hok.cl2;omega) (by have:=HX.out.2.few wk;omega)
   have HSET:=Hid.mk hSet
   obtain⟨⟨⟨⟨⟨v0,v1⟩,c1⟩,c2⟩,c8⟩,c9⟩:=(hfar w6 w6 (Below.refl _ _) (PF.refl _ _ _ _)).1
   have HE6:=Hid.mk (And.intro hr' hec)
   clear y1 y2 y7 y8 y9 g7 g8 g9 ew d5 hfar hSet hw6 hr' hec
   go_region_held3 (fun w'=>(w'.cell? ⟨sb,0,none⟩=some (.int .u64 p.run)/\w'.cell? ⟨sb,1,none⟩=some (.int .i64 p.node))/\w'.cell? ⟨ng,p.node * 10+1,none⟩=some (.int .i64 cl)) (go_keep) ((go_at_call 87;refine (HSET.out w6.drew ((Below.refl _ _).drew)).mono ?_;rintro _ w7 ⟨rfl,y,l1,hc1,hw7,hf7⟩;have HN7:=Hid.mk (And.intro hc1 (And.intro hw7 hf7));have y:=(HFAR.out w6.drew w7 ((Below.refl _ _).drew) hf7).1;have y0:=y.1.1.1.1.1;have y1:=y.1.1.1.1.2;have y2:=y.1.1.1.2;clear hc1 hw7 hf7 y))
   go_upto_region 13 with fail
   obtain⟨hc1,hw7,hf7⟩:=HN7.out
   obtain⟨l2,hl2⟩:∃l2,l2=l1++[⟨keyI p.run p.node 1,Za0 now (now+cl),e.timers+1⟩]:=⟨_,rfl⟩
   rw [<-hl2] at hw7
   have hAw:∀wx,Below w7.heap.size w7 wx->Calls Tryz.prog 97 #[.pointer (some ⟨P,4,none⟩), .agg #[.int .u64 p.run, .int .i64 p.node], .int .i64 be] wx fun x w'=>x= .returned (.tuple #[])/\(∃l3,((be=0/\l3=l2)\/(be≠0/\∃y l4,CanIs l2 (keyI p.run p.node 2) y l4/\l3=l4++[⟨keyI p.run p.node 2,Za0 now (now+be),e.timers+1+1⟩]))/\WhAt w' P B noK now l3)/\PF wx w' P B noK:=fun wx hb=>by
    have:=wk.id1 i HP.out.1
    have:=wk.idB i HP.out.1
    have:=wk.n12 HP.out.1
    have:=HP.out.2.1
    have hok:=HND.out.2.1
    have h1:=hc1.len
    have h2:=HX.out.2.few wk
    rw [HP.out.2.2.1]
    rw [HP.out.2.2.1] at hl2
    exact await_any wx P B now l2 (e.at_ i).id p.node be (e.timers+1) (hw7.keep hb) (keyOk (by omega) (by omega) (by omega) (by omega) (by decide) (by decide)) (by rw [HCB.out.2];exact hok.be1) (by rw [HCB.out.2];have:=hok.be2;omega) (by rw [hl2,List.length_append,List.length_singleton];omega)
   have HAW:=Hid.mk hAw
   obtain⟨⟨⟨⟨⟨v0,v1⟩,c1⟩,c2⟩,c8⟩,c9⟩:=(HFAR.out w6.drew w7 ((Below.refl _ _).drew) hf7).1
   have hpf:PF w6 w7 P B noK:=(PF.of_below ((Below.refl _ _).drew)).trans hf7
   have HN7':=Hid.mk (And.intro hc1 (And.intro hw7 (And.intro hpf hl2)))
   have HF7:Hid (∀w',PF w7 w' P B noK->(((((w'.cell? ⟨sb,0,none⟩=some (.int .u64 p.run)/\w'.cell? ⟨sb,1,none⟩=some (.int .i64 p.node))/\w'.cell? ⟨ng,p.node * 10+1,none⟩=some (.int .i64 cl))/\w'.cell? ⟨ng,p.node * 10+2,none⟩=some (.int .i64 be))/\w'.cell? ⟨ng,p.node * 10+8,none⟩=some (.int .i64 (tr+1)))/\w'.cell? ⟨ng,p.node * 10+9,none⟩=some (.int .u64 tk))/\SpotAt w' sb p.run p.node/\TkC w' rb 0 0 0 0):=Hid.mk (fun w' hf=>HFAR.out w6 w' (Below.refl _ _) (hpf.trans hf))
   clear hc1 hw7 hf7 hAw hpf hl2 y0 y1 y2
   go_region_held3 (fun w'=>(w'.cell? ⟨sb,0,none⟩=some (.int .u64 p.run)/\w'.cell? ⟨sb,1,none⟩=some (.int .i64 p.node))/\w'.cell? ⟨ng,p.node * 10+2,none⟩=some (.int .i64 be)) (go_keep) ((go_at_call 97;refine (HAW.out w7.drew ((Below.refl _ _).drew)).mono ?_;rintro _ w8 ⟨rfl,hl3,hf8⟩;have HN8:=Hid.mk (And.intro hl3 hf8);have y:=(HF7.out w8 ((PF.of_below ((Below.refl _ _).drew)).trans hf8)).1;have y0:=y.1.1.1.1.1;have y1:=y.1.1.1.1.2;have y2:=y.1.1.2;clear hl3 hf8 y))
   go_upto_region 14 with fail
   have hF8:=HF7.out w8 ((PF.of_below ((Below.refl _ _).drew)).trans HN8.out.2)
   have HTK8:=Hid.mk hF8.2.2
   obtain⟨⟨⟨⟨⟨v0,v1⟩,c1⟩,c2⟩,c8⟩,c9⟩:=hF8.1
   obtain⟨⟨⟨f0,f1⟩,f2⟩,f3⟩:=HTK8.out.froz
   obtain⟨⟨⟨z0,z1⟩,z2⟩,z3⟩:=HTK8.out.cells
   clear hF8 y0 y1 y2
   go_region
   all_goals
    go_wp2_with fail
    (try simp only [Exit.inBlock,Exit.then])
    have hres:=task_res (w:=((((w8.setCell ⟨rb,0,none⟩ (.int .u64 p.run)).setCell ⟨rb,1,none⟩ (.int .i64 p.node)).setCell ⟨rb,2,none⟩ (.int .i64 (tr+1))).setCell ⟨rb,3,none⟩ (.int .u64 tk)).drew) ((HTK8.out.set p.run p.node (tr+1) tk).at_ rfl)
    refine bodyPost_ret (v:= .tuple #[taskV p.run p.node (tr+1) tk, .bool true, .nilIface]) (by rw [Zbg rfl];simp [Result.andThen,asAddr,hres,taskV]) rfl ?_
    obtain⟨hc1,hw7,hpf,hl2⟩:=HN7'.out
    obtain⟨⟨l3,hl3,hw8⟩,hf8⟩:=HN8.out
    have hpf8:PF w6 w8 P B noK:=(hpf.trans (PF.of_below ((Below.refl _ _).drew))).trans hf8
    have htc:ec.time=(now:Int):=by
     have e1:ec.time=e.time:=by rw [HE6.out.2];rfl
     rw [e1];exact HM1.out.2.1
    have hX8:=H6.out.1.wheelN hpf8 hw8 htc
    have hok:=HND.out.2.1
    have hbe1:=hok.be1
    have hcl1:=hok.cl1
    have hfin:KpX w8 P B ob (pollE e q i p.node) (rs.set i r') l3:=by
     refine hX8.times (i:=i) (k:=p.node) (g:=fun s=>{ s with fin:=Zas e.time ((e.at_ i).fl.cl p.node),finAt:=e.timers+1,sign:=if (e.at_ i).fl.be p.node > 0 then Zas e.time ((e.at_ i).fl.be p.node) else 0,signAt:=if (e.at_ i).fl.be p.node > 0 then e.timers+2 else s.signAt }) ?_ (fun _=>⟨rfl,rfl,rfl⟩) ?_ (by rw [HE6.out.2];rfl) (by rw [HE6.out.2];rfl) (by rw [HE6.out.2];rfl) ?_ (by rw [HE6.out.2];rfl)
     ·rw [HE6.out.2]
      show i<(EngD.onRun _ i _).runs.length
      rw [Zbh];exact HP.out.1
     ·rw [HE6.out.2,onStep_onStep,HTKN.out,HTR.out]
      rfl
     ·rw [HE6.out.2,HTKN.out];rfl
    have htim:TimR (pollE e q i p.node) l3:=by
     have e1:Za0 now (now+cl)=Zas e.time ((e.at_ i).fl.cl p.node):=by rw [HM1.out.2.1,<-HCB.out.1];exact Zdg (by rw [HCB.out.1];exact hcl1)
     have hap:Apart l2:=hw7.apart
     rw [hl2,HP.out.2.2.1,e1] at hap
     rw [HP.out.2.2.1] at hc1
     refine tim_poll wk HP.out.1 HP.out.2.1 HP.out.2.2.2.1 HX.out.2 HM1.out.1.wh.apart hc1 hap ?_
     rw [hl2,HP.out.2.2.1,e1,HCB.out.2] at hl3
     rcases hl3 with⟨q1,q2⟩ | ⟨q1,y,l4,q2,q3⟩
     ·exact Or.inl ⟨q1,q2⟩
     ·refine Or.inr ⟨by omega,y,l4,q2,?_⟩
      have e2:Za0 now (now+(e.at_ i).fl.be p.node)=Zas e.time ((e.at_ i).fl.be p.node):=by rw [HM1.out.2.1];exact Zdg (by omega)
      rw [q3,e2]
      have e3:e.timers+1+1=e.timers+2:=by omega
      rw [e3]
    have hpoll:=HP.out.2.2.2.2.2.1
    rw [<-HTR.out,<-HTKN.out] at hpoll
    refine Or.inr ⟨p,_,_,_,0,w8,rb,hpoll,rfl,KOut.ok HN.out.2 hfin htim ((H6.out.2.2.1.trans (KF.of_pf hpf8 ob) (ObTo.refl _ _))) (ObTo.refl _ _),(OneF.set4 w8 rb _ _ _ _).drew,Nat.le_of_eq HW0.out.1.symm,⟨_,_,HTK8.out.blk⟩⟩
  ·rw [Zap hv]
   have HV:=Hid.mk hv
   have HX1:=Hid.mk hX1
   obtain⟨⟨⟨f0,f1⟩,f2⟩,f3⟩:=HTK1.out.froz
   obtain⟨⟨⟨z0,z1⟩,z2⟩,z3⟩:=HTK1.out.cells
   clear hv hX1 hcf c2
   go_wp2_with fail
   (try simp only [Exit.inBlock,Exit.then])
   have hres:=task_res (HTK1.out.set 0 0 0 0)
   refine bodyPost_ret (v:= .tuple #[taskZ, .bool false, .iface 36 (.int .i64 v)]) (by rw [Zbg rfl];simp [Result.andThen,asAddr,hres,taskZ]) rfl ?_
   refine Or.inr ⟨p,_,_,_,v,w1,rb,HP.out.2.2.2.2.2.1,?_,KOut.err HV.out HN.out.2 HX1.out HX.out.2,OneF.set4 w1 rb _ _ _ _,Nat.le_of_eq HW0.out.1.symm,⟨_,_,HTK1.out.blk⟩⟩
   unfold pollV
   rw [if_neg HV.out,Zap HV.out]
end Go.Proofs.YtgdcjccbdmcebabGreatDoor
namespace Go.Proofs.YtgdcjccbdmcebabGreatDoor
open Go.RowKit
set_option maxRecDepth 100000
attribute [local go_sem ↓] Go.wp_at_zero Go.wp_at_succ
set_option maxHeartbeats 1000000 in
theorem forg_any (w:World)(rb fx:Nat)(id first:Int)(h1:w.cell? ⟨rb,0,none⟩=some (.int .u64 id))(h2:w.cell? ⟨fx,0,none⟩=some (.int .u64 first)) :
  Calls Tryz.prog 136 #[.pointer (some ⟨rb,0,none⟩), .pointer (some ⟨fx,0,none⟩)] w fun e w'=>e= .returned (.bool (decide (id=first)))/\∃q,w'=w.drewN q:=by
 go_enter Tryz.func136,Tryz.ntmps136
 go_upto_region 1 with fail
 go_quiet (fail)
 go_wp2_with fail
 go_ret
 exact⟨by first | rfl | (congr 2;by_cases e:id=first<;>simp [e]),_,rfl⟩
def cutL {α:Type}(l:List α)(o:Nat):List α:=l.take o++l.drop (o+1)
theorem Zd5 {α:Type}{l:List α}{o:Nat}(h:o<l.length):(cutL l o).length+1=l.length:=by
 unfold cutL;rw [List.length_append,List.length_take,List.length_drop];omega
def amidL {α:Type}(l:List α)(o j:Nat):List α:=(cutL l o).take (j - 1)++l.drop (j - 1)
theorem amidL_len {α:Type}{l:List α}{o j:Nat}(h:o<l.length)(h1:1<=j)(h2:j<=l.length):(amidL l o j).length=l.length:=by
 have:=Zd5 h
 unfold amidL;rw [List.length_append,List.length_take,List.length_drop];omega
theorem amidL_first {α:Type}{l:List α}{o:Nat}:amidL l o (o+1)=l:=by
 unfold amidL cutL
 rw [Nat.add_sub_cancel]
 by_cases h:o<=l.length
 ·rw [List.take_append_of_le_length (by rw [List.length_take];omega),List.take_take,Nat.min_self,List.take_append_drop]
 ·rw [List.take_of_length_le (by rw [List.length_append,List.length_take,List.length_drop];omega),List.drop_of_length_le (by omega),List.take_of_length_le (by omega),List.drop_of_length_le (by omega)]
  simp
theorem amidL_at {α:Type}{z:α}{l:List α}{o j:Nat}(h:o<l.length)(h1:1<=j)(h2:j<l.length):(amidL l o j).getD j z=l.getD j z:=by
 have:=Zd5 h
 unfold amidL
 rw [List.getD_eq_getElem?_getD,List.getD_eq_getElem?_getD,List.getElem?_append_right (by rw [List.length_take];omega),List.getElem?_drop,List.length_take]
 congr 2
 omega
theorem amidL_succ {α:Type}{z:α}{l:List α}{o j:Nat}(h:o<l.length)(h1:o+1<=j)(h2:j<l.length):(amidL l o j).set (j - 1) (l.getD j z)=amidL l o (j+1):=by
 have hc:=Zd5 h
 have hl:=amidL_len h (j:=j) (by omega) (by omega)
 have hl2:=amidL_len h (j:=j+1) (by omega) (by omega)
 apply List.ext_getElem?
 intro m
 rw [List.getElem?_set]
 have key:∀m,(cutL l o)[m]? =if m<o then l[m]? else l[m+1]? :=fun m=>by
  unfold cutL
  by_cases e:m<o
  ·rw [if_pos e,List.getElem?_append_left (by rw [List.length_take];omega),List.getElem?_take_of_lt e]
  ·rw [if_neg e,List.getElem?_append_right (by rw [List.length_take];omega),List.getElem?_drop,List.length_take]
   congr 1;omega
 have at_:∀j',1<=j'->j'<=l.length->(amidL l o j')[m]? =if m<j' - 1 then (cutL l o)[m]? else l[m]? :=fun j' q1 q2=>by
  unfold amidL
  by_cases e:m<j' - 1
  ·rw [if_pos e,List.getElem?_append_left (by rw [List.length_take];omega),List.getElem?_take_of_lt e]
  ·rw [if_neg e,List.getElem?_append_right (by rw [List.length_take];omega),List.getElem?_drop,List.length_take]
   congr 1;omega
 rw [at_ j (by omega) (by omega),at_ (j+1) (by omega) (by omega)]
 by_cases e:j - 1=m
 ·rw [if_pos e,if_pos (by omega),if_pos (by omega),key,if_neg (by omega),List.getD_eq_getElem?_getD,show m+1=j by omega,List.getElem?_eq_getElem h2]
  rfl
 ·rw [if_neg e]
  by_cases e2:m<j - 1
  ·rw [if_pos e2,if_pos (by omega)]
  ·rw [if_neg e2,if_neg (by omega)]
theorem amidL_last {α:Type}{l:List α}{o:Nat}(h:o<l.length):(amidL l o l.length).take (l.length - 1)=cutL l o:=by
 have:=Zd5 h
 unfold amidL
 rw [List.take_append_of_le_length (by rw [List.length_take];omega),List.take_take,Nat.min_self,List.take_of_length_le (by omega)]
structure FgAt (w:World)(B:Nat)(g kc fx:Nat)(rs:List RnM)(o:Nat)(first:Int):Prop where
 row:RowAt w B 173 1 rnP (some ⟨g,0,none⟩) kc rs
 top:∀j,j<rs.length->∃cs fr,w.heap[(rnAt rs j).b]? =some (.cells cs 178 fr)/\cs[0]? =some (.int .u64 (rnAt rs j).id)
 fx:w.heap[fx]? =some (.cells #[.int .u64 first] 39 (0,0))
 ol:o<rs.length
 is:(rnAt rs o).id=first
 no:∀j,j<rs.length->j≠o->(rnAt rs j).id≠first
 few:rs.length<=6
theorem FgAt.below {w w':World}{B g kc fx o:Nat}{rs:List RnM}{first:Int}(h:FgAt w B g kc fx rs o first)(hb:Below w.heap.size w w'):FgAt w' B g kc fx rs o first :=
 ⟨Zah h.row hb,fun j hj=>by obtain⟨cs,fr,e,e2⟩:=h.top j hj;exact⟨cs,fr,(hb.block _ (Zaa e)).trans e,e2⟩,(hb.block _ (Zaa h.fx)).trans h.fx,h.ol,h.is,h.no,h.few⟩
theorem FgAt.ids {w:World}{B g kc fx o:Nat}{rs:List RnM}{first:Int}(h:FgAt w B g kc fx rs o first){j:Nat}(hj:j<rs.length):w.cell? ⟨(rnAt rs j).b,0,none⟩=some (.int .u64 (rnAt rs j).id):=by
 obtain⟨cs,fr,e,e2⟩:=h.top j hj
 unfold World.cell?
 rw [e]
 exact e2
theorem FgAt.ptr {w:World}{B g kc fx o:Nat}{rs:List RnM}{first:Int}(h:FgAt w B g kc fx rs o first){j:Nat}(hj:j<rs.length):w.cell? ⟨g,j,none⟩=some (.pointer (some ⟨(rnAt rs j).b,0,none⟩)):=by
 have:=row_cell (z:=RnM.z) h.row rnP_len (i:=j) (j:=0) hj (by omega)
 rw [Nat.mul_one,Nat.add_zero] at this
 exact this
theorem FgAt.fxc {w:World}{B g kc fx o:Nat}{rs:List RnM}{first:Int}(h:FgAt w B g kc fx rs o first):w.cell? ⟨fx,0,none⟩=some (.int .u64 first):=by
 unfold World.cell?
 rw [h.fx]
 rfl
theorem FgAt.call {w:World}{B g kc fx o:Nat}{rs:List RnM}{first:Int}(h:FgAt w B g kc fx rs o first){j:Nat}(hj:j<rs.length):Calls Tryz.prog 136 #[.pointer (some ⟨(rnAt rs j).b,0,none⟩), .pointer (some ⟨fx,0,none⟩)] w fun e w'=>e= .returned (.bool (decide (j=o)))/\∃q,w'=w.drewN q:=by
 refine (forg_any w (rnAt rs j).b fx (rnAt rs j).id first (h.ids hj) h.fxc).mono ?_
 rintro x w' ⟨rfl,q⟩
 refine⟨?_,q⟩
 by_cases e:j=o
 ·subst e;rw [decide_eq_true h.is,decide_eq_true rfl]
 ·rw [decide_eq_false (h.no j hj e),decide_eq_false e]
set_option maxHeartbeats 2000000 in
theorem idxr_any (w:World)(B g kc fx:Nat)(rs:List RnM)(o:Nat)(first:Int)(h:FgAt w B g kc fx rs o first) :
  Calls Tryz.prog 190 #[.slice (some ⟨g,0,none⟩) rs.length kc, .func (.func 136) #[] #[.pointer (some ⟨fx,0,none⟩)]] w fun e w'=>e= .returned (.int .i64 o)/\∃q,w'=w.drewN q:=by
 have H:=Hid.mk h
 obtain⟨n,hn⟩:∃n,n=rs.length:=⟨_,rfl⟩
 have hol:=h.ol
 have hfew:=h.few
 rw [<-hn] at hol hfew ⊢
 have hkc:n<=kc:=by obtain⟨_,_,_,_,_,h5,_,_⟩:=Zdl h.row (by omega);omega
 have HN:=Hid.mk hn
 clear h hn
 go_enter Tryz.func190,Tryz.ntmps190
 go_wp2_with fail
 go_loopw [8] (fun iv wr=>∃i:Nat,iv= .int .i64 i/\i<=o/\∃q,wr=w.drewN q) (fun iv _=>o - (intOf iv).toNat)
 case atStart=>exact⟨0,rfl,by omega,0,rfl⟩
 case round =>
  obtain⟨i,rfl,hi,q,rfl⟩:=hrel
  have hF:=H.out.below (below_drewN w q)
  have hil:i<rs.length:=by have:=HN.out;omega
  have t0:=hF.ptr hil
  have HC:=Hid.mk (hF.call hil)
  have i1:(i:Int)<(n:Int):=by omega
  clear hF
  by_cases e:i=o
  ·have hd:decide (i=o)=true:=decide_eq_true e
   rw [hd] at HC
   have HE:=Hid.mk e
   clear e hd
   go_wp2_with (go_at_call 136;refine HC.out.mono ?_;rintro _ w3 ⟨rfl,q3,rfl⟩)
   go_ret
   exact⟨by rw [<-HE.out];rfl,q+q3,rfl⟩
  ·have hd:decide (i=o)=false:=decide_eq_false e
   rw [hd] at HC
   have HE:=Hid.mk e
   clear e hd
   go_wp2_with (go_at_call 136;refine HC.out.mono ?_;rintro _ w3 ⟨rfl,q3,rfl⟩)
   go_roundw
   case rel=>exact⟨i+1,by go_num,by have:=HE.out;omega,q+q3,rfl⟩
   case measure=>have:=HE.out;simp [intOf];omega
structure DgAt (w wr:World)(B g kc fx:Nat)(rs:List RnM)(o:Nat)(first:Int)(j:Nat):Prop where
 row:RowAt wr B 173 1 rnP (some ⟨g,0,none⟩) kc (amidL rs o j)
 f:OneF w wr g
theorem DgAt.below {w wr w':World}{B g kc fx o j:Nat}{rs:List RnM}{first:Int}(h:DgAt w wr B g kc fx rs o first j)(q:Nat)(e:w'=wr.drewN q):DgAt w w' B g kc fx rs o first j:=by
 subst e
 exact⟨Zah h.row (below_drewN wr q),⟨h.f.os,h.f.tape,h.f.output,h.f.size,h.f.block⟩⟩
end Go.Proofs.YtgdcjccbdmcebabGreatDoor
