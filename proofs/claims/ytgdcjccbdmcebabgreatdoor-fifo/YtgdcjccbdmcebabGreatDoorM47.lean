import Derived.Test.YtgdcjccbdmcebabGreatDoorM46
set_option linter.unusedSimpArgs false
set_option linter.unusedVariables false
namespace Go.Proofs.YtgdcjccbdmcebabGreatDoor
open Go.RowKit
set_option maxRecDepth 100000
attribute [local go_sem ↓] Go.wp_at_zero Go.wp_at_succ
theorem EngAt.one {w w':World}{P B R D bd bn rb:Nat}{ob:Option Nat}{g:LogD}{d:DkD}{e:EngD}(h:EngAt w P B R D bd bn ob g d e)(ho:OneF w w' rb)(hP:P≠rb)(hr:∃cs fr,w.heap[rb]? =some (.cells cs 43 fr))(hG:4<rb):EngAt w' P B R D bd bn ob g d e:=by
 obtain⟨h1,h2⟩:=h.pl
 have hgl:=h.ne.l.gl
 have hpl:P<w.heap.size:=by omega
 obtain⟨rs,l,hx,ht⟩:=h.kp
 obtain⟨cs,fr,hb⟩:=hr
 obtain⟨pa,pc,dk,_⟩:=h.dk.c
 obtain⟨Dd,f3⟩:=h.dk.fd
 obtain⟨Dn,f4⟩:=h.dk.fn
 have hm:∀bm f Dx,FilAt w bm f Dx->bm≠rb:=fun bm f Dx hx e2=>by
  obtain⟨es,c,e3,_⟩:=hx.own
  rw [e2,hb] at e3;cases e3
 refine⟨⟨rs,l,hx.one ho hP ⟨cs,fr,hb⟩,ht⟩,h.log.at_ (ho.block P hpl hP),h.dk.keep ho.size (ho.block D (Zaa dk.blk) (Zak dk.blk hb (by decide))) (ho.block bd f3.lt (hm _ _ _ f3)) (ho.block bn f4.lt (hm _ _ _ f4)) (fun k cs t fr e ht=>ho.block k (Zaa e) (Zak e hb (by rcases ht with rfl | rfl<;>decide))),fun i hi=> ?_,h.tab.at_ (ho.block _ (by omega) (by omega)),h.ne⟩
 have e:=ho.block 1 (by omega) (by omega)
 exact (World.cell?_of_block (a:=⟨1,i,none⟩) e).trans (h.nm i hi)
theorem EF.one {w w1 w':World}{P B R D bd bn rb:Nat}{ob:Option Nat}(h:EF w w1 P B R D bd bn ob)(ho:OneF w1 w' rb)(hr:w.heap.size<=rb):EF w w' P B R D bd bn ob :=
 ⟨ho.os.trans h.os,ho.tape.trans h.tape,ho.output.trans h.output,Nat.le_trans h.size ho.size,fun k hk h0 h1 h2 h3 h4 h5=>(ho.block k (Nat.lt_of_lt_of_le hk h.size) (by omega)).trans (h.block k hk h0 h1 h2 h3 h4 h5)⟩
set_option maxHeartbeats 1000000 in
theorem equeue_any (w:World)(P B R D bd bn:Nat)(ob:Option Nat)(g:LogD)(d:DkD)(e:EngD)(h:EngAt w P B R D bd bn ob g d e)(wk:EngWk e) :
  Calls Tryz.prog 31 #[.pointer (some ⟨P,0,none⟩)] w fun x w'=>∃a c,x= .returned (.slice a e.queue.length c)/\(e.queue=[]->a=none)/\w'.ownsRow w.heap.size 43 4 (.slice a e.queue.length c) e.queue.length (e.queue.flatMap e.qtask)/\Below w.heap.size w w':=by
 have HC:=Hid.mk (kqueue_any w P B ob e h.kp wk)
 obtain⟨n,hn⟩:∃n,n=e.queue.length:=⟨_,rfl⟩
 rw [<-hn] at HC ⊢
 clear h hn
 go_enter Tryz.func31,Tryz.ntmps31
 go_wp2_with (first
  | (go_at_call 52;refine (Zb7 _ P).mono ?_;rintro _ w1 ⟨rfl,hw1⟩;rw [hw1])
  | (go_at_call 55;refine HC.out.mono ?_;rintro _ w2 ⟨a,c,rfl,hb⟩;have HB:=Hid.mk hb;clear hb))
 go_ret
 exact⟨a,c,rfl,HB.out⟩
def QueryR (B0:Nat)(w':World)(e:EngD)(id:Int)(v:Value)(er:Int):Prop :=
 (e.find id=none/\v=infoV 0 0 (.slice none 0 0) (.slice none 0 0)/\er=6)\/∃i a1 a2 c1 c2,e.find id=some i/\er=0/\v=infoV id (e.at_ i).st (.slice a1 (e.at_ i).steps.length c1) (.slice a2 (e.at_ i).steps.length c2)/\w'.ownsRow B0 3 1 (.slice a1 (e.at_ i).steps.length c1) (e.at_ i).steps.length ((e.at_ i).sts.map (Value.int .i64))/\w'.ownsRow B0 3 1 (.slice a2 (e.at_ i).steps.length c2) (e.at_ i).steps.length ((e.at_ i).trs.map (Value.int .i64))
theorem QueryR.form {B0:Nat}{w':World}{e:EngD}{id:Int}{v:Value}{er:Int}(h:QueryR B0 w' e id v er):∃id' st a1 n1 c1 a2 n2 c2,v= .agg #[.int .u64 id', .int .i64 st, .slice a1 n1 c1, .slice a2 n2 c2]:=by
 rcases h with⟨_,rfl,_⟩ | ⟨i,a1,a2,c1,c2,_,_,rfl,_⟩
 ·exact⟨_,_,_,_,_,_,_,_,rfl⟩
 ·exact⟨_,_,_,_,_,_,_,_,rfl⟩
set_option maxHeartbeats 4000000 in
theorem equery_any (w:World)(P B R D bd bn:Nat)(ob:Option Nat)(g:LogD)(d:DkD)(e:EngD)(id:Int)(h:EngAt w P B R D bd bn ob g d e) :
  Calls Tryz.prog 40 #[.pointer (some ⟨P,0,none⟩), .int .u64 id] w fun x w'=>∃v er,x= .returned (.tuple #[v,errV er])/\QueryR w.heap.size w' e id v er/\Below w.heap.size w w':=by
 obtain⟨w0,hw0⟩:∃w0,w0=w.alloc (.cells #[.int .u64 0, .int .i64 0, .slice none 0 0, .slice none 0 0] 50):=⟨_,rfl⟩
 obtain⟨rb,hrb⟩:∃rb,rb=w.heap.size:=⟨_,rfl⟩
 have hB0:Below w.heap.size w w0:=by rw [hw0];exact (Below.refl _ _).alloc (Nat.le_refl _) _
 have hblk:InfoC w0 rb 0 0 (.slice none 0 0) (.slice none 0 0):=⟨by rw [hw0,hrb];exact heap_alloc_new w _⟩
 have HQ:=Hid.mk (show Calls Tryz.prog 63 #[.pointer (some ⟨P,4,none⟩), .int .u64 id] w0 fun x w'=>∃v er,x= .returned (.tuple #[v,errV er])/\QueryR w0.heap.size w' e id v er/\Below w0.heap.size w0 w' from by
  refine (kquery_any w0 P B ob e id (h.kp.below hB0)).mono ?_
  rintro x w' ⟨⟨hf,rfl⟩ | ⟨i,a1,a2,c1,c2,hf,rfl,r1,r2⟩,hb⟩
  ·exact⟨_,6,rfl,Or.inl ⟨hf,rfl,rfl⟩,hb⟩
  ·exact⟨_,0,by rw [Zay],Or.inr ⟨i,a1,a2,c1,c2,hf,rfl,rfl,r1,r2⟩,hb⟩)
 have HR:=Hid.mk (And.intro hblk (And.intro hB0 (And.intro hrb hw0)))
 clear h hw0 hrb hB0 hblk
 go_enter Tryz.func40,Tryz.ntmps40
 go_upto_region 1 with fail
 rw [<-HR.out.2.2.1,<-HR.out.2.2.2]
 go_wp2_with (first
  | (go_at_call 52;refine (Zb7 _ P).mono ?_;rintro _ w1 ⟨rfl,hw1⟩;rw [hw1])
  | (go_at_call 63;refine HQ.out.mono ?_;rintro _ w2 ⟨v,er,rfl,hq,hb⟩;obtain⟨id',st,a1,n1,c1,a2,n2,c2,rfl⟩:=hq.form;have HB:=Hid.mk (And.intro hq hb);have hI:=HR.out.1.at_ (hb.block rb (Zaa HR.out.1.blk));have HI:=Hid.mk hI;obtain⟨⟨⟨f0,f1⟩,f2⟩,f3⟩:=hI.froz;obtain⟨⟨⟨z0,z1⟩,z2⟩,z3⟩:=hI.cells;clear hq hb hI))
 (try simp only [Exit.inBlock,Exit.then])
 have hres:=info_res (HI.out.set _ _ id' st (.slice a1 n1 c1) (.slice a2 n2 c2))
 have hrr:=HR.out.2.2.1
 have hb2:Below w.heap.size w ((((w2.setCell ⟨rb,0,none⟩ (.int .u64 id')).setCell ⟨rb,1,none⟩ (.int .i64 st)).setCell ⟨rb,2,none⟩ (.slice a1 n1 c1)).setCell ⟨rb,3,none⟩ (.slice a2 n2 c2)):=((((HR.out.2.1.trans (HB.out.2.mono HR.out.2.1.size)).setCell (p:=⟨rb,0,none⟩) (Nat.le_of_eq hrr.symm) _).setCell (p:=⟨rb,1,none⟩) (Nat.le_of_eq hrr.symm) _).setCell (p:=⟨rb,2,none⟩) (Nat.le_of_eq hrr.symm) _).setCell (p:=⟨rb,3,none⟩) (Nat.le_of_eq hrr.symm) _
 refine bodyPost_ret (v:= .tuple #[.agg #[.int .u64 id', .int .i64 st, .slice a1 n1 c1, .slice a2 n2 c2],errV er]) (by rw [results_cell_tmp rfl];simp [Result.andThen,asAddr,hres]) rfl ?_
 refine⟨_,er,rfl,?_,hb2⟩
 have hkeep:∀{B0 n:Nat} {x:Value} {xs:List Value},w2.ownsRow w0.heap.size 3 1 x n xs->((((w2.setCell ⟨rb,0,none⟩ (.int .u64 id')).setCell ⟨rb,1,none⟩ (.int .i64 st)).setCell ⟨rb,2,none⟩ (.slice a1 n1 c1)).setCell ⟨rb,3,none⟩ (.slice a2 n2 c2)).ownsRow w.heap.size 3 1 x n xs:=fun hr =>
  Zci (Zad (Zad (Zad (Zad hr HI.out.blk (by decide) _) (Zac HI.out.blk _) (by decide) _) (Zac (Zac HI.out.blk _) _) (by decide) _) (Zac (Zac (Zac HI.out.blk _) _) _) (by decide) _) HR.out.2.1.size
 rcases HB.out.1 with⟨q1,q2,q3⟩ | ⟨i,a1',a2',c1',c2',q1,q2,q3,q4,q5⟩
 ·exact Or.inl ⟨q1,q2,q3⟩
 ·exact Or.inr ⟨i,a1',a2',c1',c2',q1,q2,q3,hkeep (B0:=0) q4,hkeep (B0:=0) q5⟩
def PollR (g:LogD)(d:DkD)(e:EngD)(x:Value)(g':LogD)(d':DkD)(e':EngD):Prop :=
 (e.poll=none/\x= .tuple #[taskZ, .bool false, .nilIface]/\g'=g/\d'=d/\e'=e)\/∃p t tk e2 v,e.poll=some (p,t,tk,e2)/\x=pollV p t tk v/\v=addE g d (recB 2 [] 0)/\g'=addG g d (recB 2 [] 0)/\d'=addD g d (recB 2 [] 0)/\e'=if v=0 then e2 else e
theorem pollV_form (p:PlD)(t tk v:Int):∃a b c f x y,pollV p t tk v= .tuple #[.agg #[.int .u64 a, .int .i64 b, .int .i64 c, .int .u64 f], .bool x,y]/\(y= .nilIface\/∃ty z,y= .iface ty z):=by
 unfold pollV
 split
 ·exact⟨_,_,_,_,_,_,rfl,Or.inl rfl⟩
 ·exact⟨_,_,_,_,_,_,rfl,errV_form v⟩
theorem PollR.form {g g':LogD}{d d':DkD}{e e':EngD}{x:Value}(h:PollR g d e x g' d' e'):∃a b c f y z,x= .tuple #[.agg #[.int .u64 a, .int .i64 b, .int .i64 c, .int .u64 f], .bool y,z]/\(z= .nilIface\/∃ty u,z= .iface ty u):=by
 rcases h with⟨_,rfl,_⟩ | ⟨p,t,tk,e2,v,_,rfl,_⟩
 ·exact⟨0,0,0,0,false, .nilIface,rfl,Or.inl rfl⟩
 ·exact pollV_form p t tk v
set_option maxHeartbeats 8000000 in
theorem epoll_any (w:World)(P B R D bd bn M:Nat)(ob:Option Nat)(g:LogD)(d:DkD)(e:EngD)(h:EngAt w P B R D bd bn ob g d e)(ok:EngOk e)(lim:EngLim e)(f:Fit g d M) :
  Calls Tryz.prog 32 #[.pointer (some ⟨P,0,none⟩)] w fun x w'=>∃v g' d' e' ob',x= .returned v/\PollR g d e v g' d' e'/\EngAt w' P B R D bd bn ob' g' d' e'/\ObTo w ob ob'/\EF w w' P B R D bd bn ob:=by
 obtain⟨w0,hw0⟩:∃w0,w0=w.alloc (.cells #[.int .u64 0, .int .i64 0, .int .i64 0, .int .u64 0] 43):=⟨_,rfl⟩
 obtain⟨rb,hrb⟩:∃rb,rb=w.heap.size:=⟨_,rfl⟩
 have hB0:Below w.heap.size w w0:=by rw [hw0];exact (Below.refl _ _).alloc (Nat.le_refl _) _
 have hblk:TkC w0 rb 0 0 0 0:=⟨by rw [hw0,hrb];exact heap_alloc_new w _⟩
 have hpl:=h.pl
 have hgl:=h.ne.l.gl
 have HK:=Hid.mk (show ∀w2 xb cb,Below w0.heap.size w0 w2->w2.heap[xb]? =some (.cells #[.pointer (some ⟨P,0,none⟩)] 81 (0,0))->w2.heap[cb]? =some (.cells #[.int .i64 2, .int .u64 0, .string ⟨#[]⟩] 119 (0,0))->Calls Tryz.prog 56 #[.pointer (some ⟨P,4,none⟩), .func (.func 90) #[] #[.pointer (some ⟨xb,0,none⟩), .pointer (some ⟨cb,0,none⟩)]] w2 fun x w'=>∃v g' d' e' ob',x= .returned v/\PollR g d e v g' d' e'/\EngAt w' P B R D bd bn ob' g' d' e'/\ObTo w ob ob'/\EF w w' P B R D bd bn ob/\TkC w' rb 0 0 0 0 from fun w2 xb cb hb hx hc=>by
  have hbw:Below w.heap.size w w2:=hB0.trans (hb.mono hB0.size)
  have h2:=h.below hbw
  have htk2:TkC w2 rb 0 0 0 0:=hblk.at_ (hb.block rb (Zaa hblk.blk))
  have hk:=keepC_of (op:=2) (N:=0) (data:=[]) (h2.ok f) h.ne (by decide) (by decide) allB_nil (Nat.zero_le _) hx (by rw [<-strOf_nil];exact hc)
  refine (kpoll_any w2 P B ob e _ _ h2.kp ok.wk hk (lt_bump lim.lr) lim.lt).mono ?_
  rintro x w' (⟨q1,rfl,q2⟩ | ⟨p,t,tk,e2,v,w3,rb2,q1,rfl,q2,q3,q4,q5⟩)
  ·exact⟨_,g,d,e,ob,rfl,Or.inl ⟨q1,rfl,rfl,rfl,rfl⟩,h2.below q2,ObTo.refl _ _,EF.of_below P B R D bd bn ob (hbw.trans (q2.mono hbw.size)),htk2.at_ (q2.block rb (Zaa htk2.blk))⟩
  ·obtain⟨w1',ob1,kk,_⟩:=q2
   have q2:KOut P B ob (KpL w2 P R D bd bn g d (recB 2 [] 0)) e e2 v w3:=⟨w1',ob1,kk,by assumption⟩
   obtain⟨k1,⟨ob',k2,k3⟩,k4⟩:=h.kept hbw q2
   have hrlt:=Zaa htk2.blk
   have hs2:=hbw.size
   have hne:rb≠rb2:=by omega
   have hk5:EF w2 w3 P B R D bd bn ob:=(h2.kept (Below.refl _ _) q2).2.2
   have hrb3:w3.heap[rb]? =w2.heap[rb]? :=by
    obtain⟨pa,pc,dk,_⟩:=h2.dk.c
    obtain⟨Dd,f3⟩:=h2.dk.fd
    obtain⟨Dn,f4⟩:=h2.dk.fn
    have hm:∀bm f Dx,FilAt w2 bm f Dx->rb≠bm:=fun bm f Dx hx e2=>by
     obtain⟨es,c,e3,_⟩:=hx.own
     rw [<-e2,htk2.blk] at e3;cases e3
    exact hk5.block rb hrlt (by omega) (Zak htk2.blk dk.blk (by decide)) (hm _ _ _ f3) (hm _ _ _ f4) (Or.inr (fun cs fr e=>by rw [htk2.blk] at e;simp only [Option.some.injEq,Obj.cells.injEq] at e;exact absurd e.2.1 (by decide))) (Or.inr ⟨_,_,_,htk2.blk,by decide,by decide,by decide,by decide,by decide,fun x=>absurd x (by decide)⟩)
   have htk3:TkC w3 rb 0 0 0 0:=htk2.at_ hrb3
   exact⟨_,_,_,_,ob',rfl,Or.inr ⟨p,t,tk,e2,v,q1,rfl,k1,rfl,rfl,rfl⟩,k2.one q3 (by omega) q5 (by omega),k3,k4.one q3 (by omega),htk3.at_ (q3.block rb (Zaa htk3.blk) hne)⟩)
 have HR:=Hid.mk (And.intro hblk (And.intro hB0 (And.intro hrb (And.intro hw0 (And.intro hpl hgl)))))
 clear h ok lim f hw0 hrb hB0 hblk hpl hgl
 go_enter Tryz.func32,Tryz.ntmps32
 go_upto_region 1 with fail
 rw [<-HR.out.2.2.1,<-HR.out.2.2.2.1]
 go_wp2_with (first
  | (go_at_call 52;refine (Zb7 _ P).mono ?_;rintro _ w1 ⟨rfl,hw1⟩;rw [hw1])
  | (go_at_call 54;refine (Zdx _ P 2 0 ⟨#[]⟩).mono ?_;rintro _ w2 ⟨xb,cb,rfl,hx,hc,hb⟩;have HC:=Hid.mk (And.intro hb (And.intro hx hc));clear hx hc hb)
  | (go_at_call 56;refine (HK.out _ _ _ HC.out.1 HC.out.2.1 HC.out.2.2).mono ?_;rintro _ w3 ⟨v,g',d',e',ob',rfl,hp,h3,ho3,hf3,ht3⟩;obtain⟨a,b,c,fx,y,z,rfl,hz⟩:=hp.form;have H3:=Hid.mk (And.intro hp (And.intro h3 (And.intro ho3 (And.intro hf3 ht3))));obtain⟨⟨⟨f0,f1⟩,f2⟩,f3⟩:=ht3.froz;obtain⟨⟨⟨z0,z1⟩,z2⟩,z3⟩:=ht3.cells;clear hp h3 ho3 hf3 ht3))
 have hres:=task_res (H3.out.2.2.2.2.set a b c fx)
 have hbl:=HR.out.1
 have hP:P≠rb:=by have:=HR.out.2.2.2.2.1;have:=HR.out.2.2.1;omega
 have hrP:4<rb:=by have:=HR.out.2.2.2.2.2;have:=HR.out.2.2.2.2.1;have:=HR.out.2.2.1;omega
 have hw:=HR.out.2.2.2.1
 have hbb:=H3.out.2.2.2.2.blk
 refine bodyPost_ret (v:= .tuple #[.agg #[.int .u64 a, .int .i64 b, .int .i64 c, .int .u64 fx], .bool y,z]) (by rw [Zbg rfl];simp [Result.andThen,asAddr,hres]) rfl ?_
 exact⟨_,g',d',e',ob',rfl,H3.out.1,H3.out.2.1.one (OneF.set4 w3 rb _ _ _ _) hP ⟨_,_,hbb⟩ hrP,H3.out.2.2.1,H3.out.2.2.2.1.one (OneF.set4 w3 rb _ _ _ _) (by have:=HR.out.2.2.2.2.1;have:=HR.out.2.2.1;omega)⟩
def SubR (B0:Nat)(w':World)(g:LogD)(d:DkD)(e:EngD)(l:List Int)(x:Value)(g':LogD)(d':DkD)(e':EngD):Prop :=
 (∃(x0 y:Int) (q:Nat),x0≠0/\DecIs l.length (fun k=>(l.getD k 0).toNat) x0 y noFlow/\x= .tuple #[.int .u64 0, .iface 105 (.pointer (some ⟨q,0,none⟩))]/\FaultAt w' q x0 y/\q<w'.heap.size/\B0<=q/\g'=g/\d'=d/\e'=e) \/
 (∃(y er:Int),DecIs l.length (fun k=>(l.getD k 0).toNat) 0 y (Zag l.length (fun k=>(l.getD k 0).toNat))/\CallR g d e (recB 1 l 0) 5 (e.submit (Zag l.length (fun k=>(l.getD k 0).toNat))) er g' d' e'/\x= .tuple #[.int .u64 (if er=0 then e.lastRun+1 else 0),errV er])
theorem DecIs.ok {n:Nat}{f:Nat->Nat}{y:Int}{G:FlowD}(h:DecIs n f 0 y G):FlOk (Zag n f):=by
 rcases h with⟨s,_,hx,_⟩ | ⟨p,s,_,_,hx,_⟩ | ⟨p,s,_,_,hc,_⟩
 ·exact absurd hx (by decide)
 ·exact absurd hx (by decide)
 ·rcases hc with⟨hx,_⟩ | ⟨hx,_⟩ | ⟨hx,_⟩ | ⟨hx,_⟩ | ⟨_,_,h1,h2,h3⟩
  ·exact absurd hx (by decide)
  ·exact absurd hx (by decide)
  ·exact absurd hx (by decide)
  ·exact absurd hx (by decide)
  ·exact⟨h1,fun j hj=>(h2 j hj).1,fun j hj=>(h2 j hj).2,h3⟩
set_option maxHeartbeats 8000000 in
theorem esubmit_any (w:World)(P B R D bd bn M B0:Nat)(ob:Option Nat)(g:LogD)(d:DkD)(e:EngD)(l:List Int)(a:Option Addr)(c:Nat)(h:EngAt w P B R D bd bn ob g d e)(ok:EngOk e)(lim:EngLim e)(f:Fit g d M)(hr:ByteRow B0 w (.slice a l.length c) l)(hl:AllB l)(hll:l.length<=900000) :
  Calls Tryz.prog 29 #[.pointer (some ⟨P,0,none⟩), .slice a l.length c] w fun x w'=>∃v g' d' e' ob',x= .returned v/\SubR w.heap.size w' g d e l v g' d' e'/\EngAt w' P B R D bd bn ob' g' d' e'/\ObTo w ob ob'/\EF w w' P B R D bd bn ob:=by
 obtain⟨a1,c1,e1,_,ha,hb,_,hcs⟩:=row_bytes hr hl
 obtain⟨rfl,rfl⟩:a=a1/\c=c1:=by simpa using e1
 have hgl:=h.ne.l.gl
 have hpl:=h.pl
 have HDEC:=Hid.mk (show Calls Tryz.prog 51 #[.slice a l.length c] w fun x w'=>((∃(dl:Int) (nn:Nat) (la:Option Addr) (lc:Nat),x= .returned (.tuple #[.agg #[.int .i64 dl, .slice la nn lc], .nilIface])/\∃(y:Int) (Na:Nat->Option Addr) (Nc:Nat->Nat),DecIs l.length (fun k=>(l.getD k 0).toNat) 0 y (Zag l.length (fun k=>(l.getD k 0).toNat))/\dl=(Zag l.length (fun k=>(l.getD k 0).toNat)).dl/\nn=(Zag l.length (fun k=>(l.getD k 0).toNat)).n/\CopyAt w.heap.size w' (Zag l.length (fun k=>(l.getD k 0).toNat)) (.slice la (Zag l.length (fun k=>(l.getD k 0).toNat)).n lc) (Zag l.length (fun k=>(l.getD k 0).toNat)).n Na Nc)\/(∃(q:Nat),x= .returned (.tuple #[.agg #[.int .i64 0, .slice none 0 0], .iface 105 (.pointer (some ⟨q,0,none⟩))])/\∃(x0 y:Int),x0≠0/\DecIs l.length (fun k=>(l.getD k 0).toNat) x0 y noFlow/\FaultAt w' q x0 y/\q<w'.heap.size/\w.heap.size<=q))/\Below w.heap.size w w' from by
  refine (fdecode_any w a l.length c (fun k=>(l.getD k 0).toNat) (by unfold maxLen;omega) h.tab (by omega) ha hb).mono ?_
  rintro x w1 ⟨⟨y,la,lc,Na,Nc,hdec,rfl,hcp⟩ | ⟨x0,y,q,hx0,hdec,rfl,hfa,hq,hq2⟩,hb1⟩
  ·exact⟨Or.inl ⟨_,_,la,lc,rfl,y,Na,Nc,hdec,rfl,rfl,hcp⟩,hb1⟩
  ·exact⟨Or.inr ⟨q,rfl,x0,y,hx0,hdec,hfa,hq,hq2⟩,hb1⟩)
 obtain⟨sd,hsd⟩:∃sd,sd=Zcd l:=⟨_,rfl⟩
 obtain⟨n,hn⟩:∃n,n=l.length:=⟨_,rfl⟩
 have HCV:=Hid.mk (show ∀w2,Below w.heap.size w w2->(convert 35 9 (.slice a n c)).run Tryz.prog w2= .ok (.string sd) w2 from fun w2 hb2=>by
  rw [hn,hsd]
  rcases hr.2 with⟨x,x2⟩ | ⟨g1,cap,cur,x,hg,hh,r⟩
  ·have x2':l=[]:=List.length_eq_zero_iff.1 x2
   simp only [Value.slice.injEq] at x
   obtain⟨rfl,_,rfl⟩:=x
   rw [x2']
   exact run_string_nil w2
  ·simp only [Value.slice.injEq] at x
   obtain⟨rfl,_,rfl⟩:=x
   exact run_string_of (fun k hk=>(hb2.cell (p:=⟨g1,k,none⟩) (Zaa hh)).trans (World.ownsRow.cellAt hr k (by omega))))
 have HK:=Hid.mk (show ∀(w2:World) (xb cb:Nat) (la:Option Addr) (lc:Nat) (Na:Nat->Option Addr) (Nc:Nat->Nat) (y:Int),Below w.heap.size w w2->DecIs n (fun k=>(l.getD k 0).toNat) 0 y (Zag n (fun k=>(l.getD k 0).toNat))->CopyAt w.heap.size w2 (Zag n (fun k=>(l.getD k 0).toNat)) (.slice la (Zag n (fun k=>(l.getD k 0).toNat)).n lc) (Zag n (fun k=>(l.getD k 0).toNat)).n Na Nc->w2.heap[xb]? =some (.cells #[.pointer (some ⟨P,0,none⟩)] 81 (0,0))->w2.heap[cb]? =some (.cells #[.int .i64 1, .int .u64 0, .string sd] 119 (0,0))->Calls Tryz.prog 53 #[.pointer (some ⟨P,4,none⟩), .agg #[.int .i64 (Zag n (fun k=>(l.getD k 0).toNat)).dl, .slice la (Zag n (fun k=>(l.getD k 0).toNat)).n lc], .func (.func 90) #[] #[.pointer (some ⟨xb,0,none⟩), .pointer (some ⟨cb,0,none⟩)]] w2 fun x w'=>∃i er g' d' e' ob',x= .returned (.tuple #[.int .u64 i,errV er])/\SubR w.heap.size w' g d e l (.tuple #[.int .u64 i,errV er]) g' d' e'/\EngAt w' P B R D bd bn ob' g' d' e'/\ObTo w ob ob'/\EF w w' P B R D bd bn ob from fun w2 xb cb la lc Na Nc y hbw hdec hcp hx hc=>by
  rw [hn] at hdec hcp ⊢
  have h2:=h.below hbw
  have hk:=keepC_of (op:=1) (N:=0) (data:=l) (h2.ok f) h.ne (by decide) (by decide) hl hll hx (by rw [<-hsd];exact hc)
  refine (ksubmit_any w2 P B ob e _ la lc Na Nc _ _ h2.kp ok hdec.ok (hcp.base h.pl.2) hk lim.lr).mono ?_
  rintro x w' (⟨q1,rfl,q2⟩ | ⟨v,e2,q1,rfl,q2⟩)
  ·exact⟨0,5,g,d,e,ob,rfl,Or.inr ⟨y,5,hdec,Or.inl ⟨q1,rfl,rfl,rfl,rfl⟩,rfl⟩,h2.below q2,ObTo.refl _ _,EF.of_below P B R D bd bn ob (hbw.trans (q2.mono hbw.size))⟩
  ·obtain⟨k1,⟨ob',k2,k3⟩,k4⟩:=h.kept hbw q2
   exact⟨_,v,_,_,_,ob',rfl,Or.inr ⟨y,v,hdec,Or.inr ⟨e2,q1,k1,rfl,rfl,rfl⟩,rfl⟩,k2,k3,k4⟩)
 have HR:=Hid.mk (And.intro hn h)
 obtain⟨bs,hbs⟩:∃bs,bs=a:=⟨_,rfl⟩
 have HD2:=Hid.mk (show ∀(dl:Int) (nn:Nat) (la:Option Addr) (lc:Nat) (w1:World),(∃(y:Int) (Na:Nat->Option Addr) (Nc:Nat->Nat),DecIs l.length (fun k=>(l.getD k 0).toNat) 0 y (Zag l.length (fun k=>(l.getD k 0).toNat))/\dl=(Zag l.length (fun k=>(l.getD k 0).toNat)).dl/\nn=(Zag l.length (fun k=>(l.getD k 0).toNat)).n/\CopyAt w.heap.size w1 (Zag l.length (fun k=>(l.getD k 0).toNat)) (.slice la (Zag l.length (fun k=>(l.getD k 0).toNat)).n lc) (Zag l.length (fun k=>(l.getD k 0).toNat)).n Na Nc)->Below w.heap.size w w1->∀(w2:World) (xb cb:Nat),Below w1.heap.size w1 w2->w2.heap[xb]? =some (.cells #[.pointer (some ⟨P,0,none⟩)] 81 (0,0))->w2.heap[cb]? =some (.cells #[.int .i64 1, .int .u64 0, .string sd] 119 (0,0))->Calls Tryz.prog 53 #[.pointer (some ⟨P,4,none⟩), .agg #[.int .i64 dl, .slice la nn lc], .func (.func 90) #[] #[.pointer (some ⟨xb,0,none⟩), .pointer (some ⟨cb,0,none⟩)]] w2 fun x w'=>∃i er g' d' e' ob',x= .returned (.tuple #[.int .u64 i,errV er])/\SubR w.heap.size w' g d e l (.tuple #[.int .u64 i,errV er]) g' d' e'/\EngAt w' P B R D bd bn ob' g' d' e'/\ObTo w ob ob'/\EF w w' P B R D bd bn ob from by
  rintro dl nn la lc w1 ⟨y,Na,Nc,hdec,rfl,rfl,hcp⟩ hb1 w2 xb cb hb2 hx hc
  rw [hn] at HK
  exact HK.out w2 xb cb la lc Na Nc y (hb1.trans (hb2.mono hb1.size)) hdec (hcp.below hb2) hx hc)
 rw [<-hn] at HDEC HD2 ⊢
 clear h ok lim f hr hl hll hcs ha hb e1 hn hsd hpl hgl HK hbs
 go_enter Tryz.func29,Tryz.ntmps29
 go_upto_region 4 with (go_at_call 51;refine HDEC.out.mono ?_;rintro _ w1 ⟨⟨dl,nn,la,lc,rfl,hx⟩ | ⟨q,rfl,hx⟩,hb1⟩<;>have HX:=Hid.mk (And.intro hx hb1)<;>clear hx hb1)
 ·obtain⟨w2,hw2⟩:∃w2,w2=w1.alloc (.cells #[.int .i64 dl, .slice la nn lc] 31):=⟨_,rfl⟩
  obtain⟨fb,hfb⟩:∃fb,fb=w1.heap.size:=⟨_,rfl⟩
  rw [<-hw2,<-hfb]
  have hb2:Below w1.heap.size w1 w2:=by rw [hw2];exact (Below.refl _ _).alloc (Nat.le_refl _) _
  have hbk:w2.heap[fb]? =some (.cells #[.int .i64 dl, .slice la nn lc] 31 (0,0)):=by rw [hw2,hfb];exact heap_alloc_new w1 _
  have z0:w2.cell? ⟨fb,0,none⟩=some (.int .i64 dl):=by unfold World.cell?;rw [hbk];rfl
  have z1:w2.cell? ⟨fb,1,none⟩=some (.slice la nn lc):=by unfold World.cell?;rw [hbk];rfl
  have hc2:=HCV.out w2 (HX.out.2.trans (hb2.mono HX.out.2.size))
  have hc3:=HCV.out w2.drew ((HX.out.2.trans (hb2.mono HX.out.2.size)).drew)
  have HB:=Hid.mk (And.intro hb2 (And.intro hw2 (And.intro hfb hbk)))
  clear hb2 hw2 hfb hbk
  go_region_with (first
   | (go_at_call 52;refine (Zb7 _ P).mono ?_;rintro _ w3 ⟨rfl,hw3⟩;rw [hw3];clear hw3)
   | (go_at_call 54;refine (Zdx _ P 1 0 sd).mono ?_;rintro _ w4 ⟨xb,cb,rfl,hx,hc,hb⟩;have y0:=cell_later hb z0;have y1:=cell_later hb z1;have HC:=Hid.mk (And.intro hb (And.intro hx hc));clear hx hc hb)
   | (go_at_call 53;refine (HD2.out _ _ _ _ _ HX.out.1 HX.out.2 _ _ _ (Below.trans (HB.out.1.drew) (HC.out.1.mono HB.out.1.size)) HC.out.2.1 HC.out.2.2).mono ?_;rintro _ w5 ⟨i,er,g',d',e',ob',rfl,hr⟩;have HR5:=Hid.mk hr;clear hr))
  all_goals go_wp2_with fail
  all_goals go_ret2
  all_goals exact⟨_,g',d',e',ob',rfl,HR5.out⟩
 ·go_ret2
  obtain⟨⟨x0,y,h1,h2,h3,h4,h5⟩,hb1⟩:=HX.out
  obtain⟨hn,h⟩:=HR.out
  have hb2:Below w.heap.size w (w1.alloc (.cells #[.int .i64 0, .slice none 0 0] 31)):=hb1.alloc hb1.size _
  exact⟨_,g,d,e,ob,rfl,Or.inl ⟨x0,y,q,h1,by rw [<-hn];exact h2,rfl,h3.keep h4 ((Below.refl _ _).alloc (Nat.le_refl _) _),by simp;omega,h5,rfl,rfl,rfl⟩,h.below hb2,ObTo.refl _ _,EF.of_below P B R D bd bn ob hb2⟩
end Go.Proofs.YtgdcjccbdmcebabGreatDoor
