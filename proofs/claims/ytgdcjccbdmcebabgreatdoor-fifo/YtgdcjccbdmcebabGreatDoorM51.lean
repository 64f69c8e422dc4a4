import Derived.Test.YtgdcjccbdmcebabGreatDoorM49
set_option linter.unusedSimpArgs false
set_option linter.unusedVariables false
namespace Go.Proofs.YtgdcjccbdmcebabGreatDoor
open Go.RowKit
set_option maxRecDepth 100000
attribute [local go_sem ↓] Go.wp_at_zero Go.wp_at_succ
def PollW (e:EngD)(a b c f:Int)(y:Bool)(e':EngD):Prop :=
 (e.poll=none/\a=0/\b=0/\c=0/\f=0/\y=false/\e'=e)\/∃p t tk,e.poll=some (p,t,tk,e')/\a=p.run/\b=p.node/\c=t/\f=tk/\y=true
theorem PollR.well {g g':LogD}{d d':DkD}{e e':EngD}{x:Value}{N:Nat}(h:PollR g d e x g' d' e')(ws:WellS g d N e):∃a b c f y,x= .tuple #[.agg #[.int .u64 a, .int .i64 b, .int .i64 c, .int .u64 f], .bool y,errV 0]/\PollW e a b c f y e'/\d'.down=false/\WellS g' d'.calm (N+1000000) e':=by
 rcases h with⟨h1,rfl,rfl,rfl,rfl⟩ | ⟨p,t,tk,e2,v,h1,rfl,rfl,rfl,rfl,rfl⟩
 ·exact⟨0,0,0,0,false,rfl,Or.inl ⟨h1,rfl,rfl,rfl,rfl,rfl,rfl⟩,ws.down,ws.calm⟩
 ·obtain⟨q1,q2,q3⟩:=ws.add (l:=recB 2 [] 0) (by have:=(recB_len (op:=2) (data:=[]) (n:=0) (by decide)).2;simp at this;omega) (.poll h1)
  rw [q1]
  exact⟨p.run,p.node,t,tk,true,rfl,Or.inr ⟨p,t,tk,h1,rfl,rfl,rfl,rfl,rfl⟩,q2,q3⟩
theorem TkC.stay {w w':World}{P B R D bd bn rb:Nat}{ob:Option Nat}{a b c d:Int}(h:TkC w rb a b c d)(hf:EF w w' P B R D bd bn ob)(h0:rb≠P/\rb≠D/\rb≠bd/\rb≠bn):TkC w' rb a b c d:=⟨hf.keepT h.blk h0 (by decide)⟩
set_option maxHeartbeats 8000000 in
theorem hpoll_any (w:World)(hb P B R D bd bn N:Nat)(ob:Option Nat)(e:EngD)(h:HostAt w hb P B R D bd bn ob N e)(ok:EngOk e)(lim:EngLim e)(hN:N<=1000000000000) :
  Calls Tryz.prog 12 #[.pointer (some ⟨hb,0,none⟩),Zbq (-1) (-1) 0 0] w fun x w'=>∃ob' a b c f y e',x= .returned (.tuple #[.agg #[.int .u64 a, .int .i64 b, .int .i64 c, .int .u64 f], .bool y, .int .i64 0])/\PollW e a b c f y e'/\HostAt w' hb P B R D bd bn ob' (N+1000000) e'/\ObTo w ob ob'/\EF w w' P B R D bd bn ob:=by
 obtain⟨g,d,h1,ws⟩:=h.ex
 have hne:=h.ne
 obtain⟨fb,hfb⟩:∃fb,fb=w.heap.size:=⟨_,rfl⟩
 obtain⟨rb,hrb⟩:∃rb,rb=w.heap.size+1:=⟨_,rfl⟩
 obtain⟨w1,hw1⟩:∃w1,w1=(w.alloc (.cells #[.int .i64 (-1), .int .i64 (-1), .int .i64 0, .int .i64 0] 26)).alloc (.cells #[.int .u64 0, .int .i64 0, .int .i64 0, .int .u64 0] 43):=⟨_,rfl⟩
 have hb1:Below w.heap.size w w1:=by rw [hw1];exact ((Below.refl _ _).alloc (Nat.le_refl _) _).alloc (by simp) _
 have hpl:=h1.pl
 have hkn:=h1.ne
 have hfar:∀k,w.heap.size<=k->k≠P/\k≠D/\k≠bd/\k≠bn:=fun k hk=>by
  have:=hkn.p;have:=hkn.d;have:=hkn.md;have:=hkn.mn
  exact⟨by omega,by omega,by omega,by omega⟩
 have htk:TkC w1 rb 0 0 0 0:=⟨by rw [hw1,hrb];exact Zbd _ _ _ _ (by simp)⟩
 have HA:=Hid.mk (show HostM w1 w1 hb P B R D bd bn fb ob ob g d e (-1) (-1) 0 0 from
  ⟨h1.below hb1,h.host.at_ (hb1.block hb (Zaa h.host.blk)),h.err.keep hb1,EF.of_below P B R D bd bn ob (Below.refl _ _),ObTo.refl _ _,by rw [hw1,hfb,Zaj _ _ _ (by simp)];exact heap_alloc_new w _⟩)
 have HBEF:=Hid.mk (show Calls Tryz.prog 28 #[.pointer (some ⟨hb,0,none⟩),Zbq (-1) (-1) 0 0] w1 fun x w'=>x= .returned (.tuple #[])/\HostM w1 w' hb P B R D bd bn fb ob ob g d e (-1) (-1) 0 0 from by
  refine (Zdd w1 hb P B R D bd bn N ob g d e _ 0 0 HA.out.eng ws HA.out.host).mono ?_
  rintro x w' ⟨rfl,q1,q2⟩
  exact⟨rfl,HA.out.one hne q1 q2⟩)
 have HENG:=Hid.mk (show ∀w2,HostM w1 w2 hb P B R D bd bn fb ob ob g d e (-1) (-1) 0 0->Calls Tryz.prog 32 #[.pointer (some ⟨P,0,none⟩)] w2 fun x w'=>∃a b c f y g' d' e' ob',x= .returned (.tuple #[.agg #[.int .u64 a, .int .i64 b, .int .i64 c, .int .u64 f], .bool y,errV 0])/\PollW e a b c f y e'/\d'.down=false/\WellS g' d'.calm (N+1000000) e'/\HostM w1 w' hb P B R D bd bn fb ob ob' g' d' e' (-1) (-1) 0 0 from fun w2 hA=>by
  refine (epoll_any w2 P B R D bd bn N ob g d e hA.eng ok lim (ws.fit hN)).mono ?_
  rintro x w' ⟨v,g',d',e',ob',rfl,q1,q2,q3,q4⟩
  obtain⟨a,b,c,f,y,rfl,r2,r3,r4⟩:=q1.well ws
  exact⟨a,b,c,f,y,g',d',e',ob',rfl,r2,r3,r4,hA.call hne q2 q3 q4⟩)
 have HAFT:=Hid.mk (show ∀w3 w4 g' d' e' ob' pb a b c f,d'.down=false->HostM w1 w3 hb P B R D bd bn fb ob ob' g' d' e' (-1) (-1) 0 0->Below w3.heap.size w3 w4->TkC w4 pb a b c f->w3.heap.size<=pb->Calls Tryz.prog 30 #[.pointer (some ⟨hb,0,none⟩),Zbq (-1) (-1) 0 0] w4 fun x w'=>x= .returned (.tuple #[])/\HostM w1 w' hb P B R D bd bn fb ob ob' g' d'.calm e' (-1) (-1) 0 0/\TkC w' pb a b c f/\TkC w' rb 0 0 0 0 from fun w3 w4 g' d' e' ob' pb a b c f hdn hA hb4 htp hpb=>by
  have hA4:=hA.below hb4
  refine (Zda w4 hb P B R D bd bn ob' g' d' _ _ _ _ 0 0 hA4.eng hdn hA4.host).mono ?_
  rintro x w' ⟨rfl,q1,q2⟩
  have hA5:=hA4.one hne q1 q2
  have hs:=hA.ef.size
  have hs1:=hb1.size
  exact⟨rfl,hA5,htp.at_ (q2.block pb (Zaa htp.blk) (hfar pb (by omega)).2.1),htk.stay hA5.ef (hfar rb (by omega))⟩)
 have HR:=Hid.mk (And.intro hw1 (And.intro hfb (And.intro hne (And.intro hb1 hrb))))
 have HBD:=Hid.mk (show B<=w.heap.size from hpl.2)
 unfold Zbq at HBEF HAFT ⊢
 clear h ok lim hN h1 ws hne hw1 hfb hrb hb1 hpl hkn hfar htk
 go_enter Tryz.func12,Tryz.ntmps12
 go_upto_region 1 with fail
 rw [<-HR.out.2.2.2.2,<-HR.out.2.1,<-HR.out.1]
 obtain⟨⟨⟨⟨z0,z1⟩,z2⟩,z3⟩,z4⟩:=HA.out.cells
 go_upto_region 6 with (first
  | (go_at_call 28;refine HBEF.out.mono ?_;rintro _ w2 ⟨rfl,hA⟩;have H2:=Hid.mk hA;obtain⟨⟨⟨⟨y0,y1⟩,y2⟩,y3⟩,y4⟩:=hA.cells;clear hA)
  | (go_at_call 32;refine (HENG.out _ H2.out).mono ?_;rintro _ w3 ⟨a,b,c,f,y,g',d',e',ob',rfl,hpw,hdn,hws,hA⟩;have H3:=Hid.mk (And.intro hA (And.intro hdn (And.intro hws hpw)));have hA4:=hA.below ((Below.refl w3.heap.size w3).alloc (Nat.le_refl _) (.cells #[.int .u64 a, .int .i64 b, .int .i64 c, .int .u64 f] 43));obtain⟨⟨⟨⟨x0,x1⟩,x2⟩,x3⟩,x4⟩:=hA4.cells;clear hA hdn hws hpw hA4)
  | (go_at_call 30;refine (HAFT.out _ _ _ _ _ _ w3.heap.size a b c f H3.out.2.1 H3.out.1 ((Below.refl _ _).alloc (Nat.le_refl _) _) ⟨heap_alloc_new _ _⟩ (Nat.le_refl _)).mono ?_;rintro _ w4 ⟨rfl,hA,hp,hr⟩;have H4:=Hid.mk (And.intro hA (And.intro hp hr));clear hA hp hr))
 obtain⟨pb,hpb⟩:∃pb,pb=w3.heap.size:=⟨_,rfl⟩
 rw [<-hpb]
 have HP4:=Hid.mk (show TkC w4 pb a b c f from by rw [hpb];exact H4.out.2.1)
 obtain⟨⟨⟨f0,f1⟩,f2⟩,f3⟩:=H4.out.2.2.froz
 obtain⟨⟨⟨t0,t1⟩,t2⟩,t3⟩:=HP4.out.cells
 obtain⟨⟨⟨s0,s1⟩,s2⟩,s3⟩:=H4.out.2.2.cells
 clear z0 z1 z2 z3 z4 y0 y1 y2 y3 y4 x0 x1 x2 x3 x4 hpb
 have HNUM:=Hid.mk (show ∀wx,Below w4.heap.size w4 wx->Calls Tryz.prog 33 #[errV 0] wx fun x w'=>x= .returned (.int .i64 0)/\Below w4.heap.size w4 w' from fun wx hbx=>(Zcx 0 wx (H4.out.1.err.keep hbx)).mono (by
  rintro x w' ⟨rfl,hb2⟩
  exact⟨rfl,hbx.trans (hb2.mono hbx.size)⟩))
 go_region_with (go_at_call 33;refine (HNUM.out _ ((Below.refl _ _).drew)).mono ?_;rintro _ w5 ⟨rfl,hb5⟩;have H5:=Hid.mk hb5;have hr5:=H4.out.2.2.at_ (hb5.block rb (Zaa H4.out.2.2.blk));have hp5:=HP4.out.at_ (hb5.block pb (Zaa HP4.out.blk));have HR5:=Hid.mk hr5;obtain⟨⟨⟨g0,g1⟩,g2⟩,g3⟩:=hr5.froz;obtain⟨⟨⟨u0,u1⟩,u2⟩,u3⟩:=hp5.cells;obtain⟨⟨⟨v0,v1⟩,v2⟩,v3⟩:=hr5.cells;clear hb5 hr5 hp5)
 all_goals go_wp2_with fail
 all_goals
  have hres:=task_res (HR5.out.set a b c f)
  have hof:=OneF.set4 w5 rb (.int .u64 a) (.int .i64 b) (.int .i64 c) (.int .u64 f)
  obtain⟨hw1,hfb,hne,hb1,hrb⟩:=HR.out
  obtain⟨hA4,hp4,hr4⟩:=H4.out
  have hA5:=hA4.below H5.out
  have hkn:=hA5.eng.ne
  have hgl:=hkn.l.gl
  have hpl:=hA5.eng.pl
  have hbd:=HBD.out
  have hP:P≠rb:=by omega
  have hrP:4<rb:=by omega
  have hhb:hb≠rb:=by have:=hne.b;omega
  have hEF:EF w w5 P B R D bd bn ob:=(EF.of_below P B R D bd bn ob hb1).trans hA5.ef (ObTo.refl _ _)
  refine bodyPost_ret (v:= .tuple #[.agg #[.int .u64 a, .int .i64 b, .int .i64 c, .int .u64 f], .bool y, .int .i64 0]) (by rw [Zbg rfl];simp [Result.andThen,asAddr,hres,Act.put]) rfl ?_
  refine⟨ob',a,b,c,f,y,e',rfl,H3.out.2.2.2,⟨⟨_,_,hA5.eng.one hof hP ⟨_,_,HR5.out.blk⟩ hrP,H3.out.2.2.1⟩,hA5.host.at_ (hof.block hb (Zaa hA5.host.blk) hhb),?_,hne⟩,fun k hk=> ?_,hEF.one hof (by omega)⟩
  ·have hbe:0<w5.heap.size:=World.block_lt_of_cell? _ _ hA5.err
   exact (World.cell?_of_block (a:=⟨0,0,none⟩) (hof.block 0 hbe (by omega))).trans hA5.err
  ·rcases hA5.obt k hk with z | z
   ·exact Or.inl z
   ·exact Or.inr (Nat.le_trans hb1.size z)
theorem QueryR.keep {B B':Nat}{w w':World}{e:EngD}{id er:Int}{v:Value}(h:QueryR B w e id v er)(hk:∀(n:Nat) (x:Value) (xs:List Value),w.ownsRow B 3 1 x n xs->w'.ownsRow B' 3 1 x n xs):QueryR B' w' e id v er:=by
 rcases h with h | ⟨i,a1,a2,c1,c2,q1,q2,q3,q4,q5⟩
 ·exact Or.inl h
 ·exact Or.inr ⟨i,a1,a2,c1,c2,q1,q2,q3,hk _ _ _ q4,hk _ _ _ q5⟩
theorem HostAt.below {w w':World}{hb P B R D bd bn N:Nat}{ob:Option Nat}{e:EngD}(h:HostAt w hb P B R D bd bn ob N e)(hw:Below w.heap.size w w'):HostAt w' hb P B R D bd bn ob N e:=by
 obtain⟨g,d,h1,h2⟩:=h.ex
 exact⟨⟨g,d,h1.below hw,h2⟩,h.host.at_ (hw.block hb (Zaa h.host.blk)),h.err.keep hw,h.ne⟩
set_option maxHeartbeats 8000000 in
theorem hquery_any (w:World)(hb P B R D bd bn N:Nat)(ob:Option Nat)(e:EngD)(id:Int)(h:HostAt w hb P B R D bd bn ob N e) :
  Calls Tryz.prog 14 #[.pointer (some ⟨hb,0,none⟩), .int .u64 id] w fun x w'=>∃v er,x= .returned (.tuple #[v, .int .i64 er])/\QueryR w.heap.size w' e id v er/\Below w.heap.size w w':=by
 obtain⟨g,d,h1,ws⟩:=h.ex
 obtain⟨rb,hrb⟩:∃rb,rb=w.heap.size:=⟨_,rfl⟩
 obtain⟨w1,hw1⟩:∃w1,w1=w.alloc (.cells #[.int .u64 0, .int .i64 0, .slice none 0 0, .slice none 0 0] 50):=⟨_,rfl⟩
 have hb1:Below w.heap.size w w1:=by rw [hw1];exact (Below.refl _ _).alloc (Nat.le_refl _) _
 have hI1:InfoC w1 rb 0 0 (.slice none 0 0) (.slice none 0 0):=⟨by rw [hw1,hrb];exact heap_alloc_new w _⟩
 have HQ:=Hid.mk (equery_any w1 P B R D bd bn ob g d e id (h1.below hb1))
 have hhc:HostC w1 hb D (.pointer (some ⟨P,0,none⟩)):=h.host.at_ (hb1.block hb (Zaa h.host.blk))
 have z4:=hhc.cells.2
 have HNUM:=Hid.mk (show ∀wx er,Below w.heap.size w wx->Calls Tryz.prog 33 #[errV er] wx fun x w'=>x= .returned (.int .i64 er)/\Below wx.heap.size wx w' from fun wx er hbx=>Zcx er wx (h.err.keep hbx))
 have HR:=Hid.mk (And.intro hw1 (And.intro hrb (And.intro hb1 hI1)))
 clear h h1 ws hw1 hrb hb1 hI1 hhc
 go_enter Tryz.func14,Tryz.ntmps14
 go_upto_region 1 with fail
 rw [<-HR.out.2.1,<-HR.out.1]
 go_upto_region 4 with (go_at_call 40;refine HQ.out.mono ?_;rintro _ w2 ⟨v,er,rfl,hq,hb2⟩;obtain⟨id',st,a1,n1,c1,a2,n2,c2,rfl⟩:=hq.form;have H2:=Hid.mk (And.intro hq hb2);clear hq hb2)
 obtain⟨pb,hpb⟩:∃pb,pb=w2.heap.size:=⟨_,rfl⟩
 obtain⟨w3,hw3⟩:∃w3,w3=w2.alloc (.cells #[.int .u64 id', .int .i64 st, .slice a1 n1 c1, .slice a2 n2 c2] 50):=⟨_,rfl⟩
 rw [<-hpb,<-hw3]
 have hb23:Below w2.heap.size w2 w3:=by rw [hw3];exact (Below.refl _ _).alloc (Nat.le_refl _) _
 have hp3:InfoC w3 pb id' st (.slice a1 n1 c1) (.slice a2 n2 c2):=⟨by rw [hw3,hpb];exact heap_alloc_new w2 _⟩
 have hr3:InfoC w3 rb 0 0 (.slice none 0 0) (.slice none 0 0):=HR.out.2.2.2.at_ ((hb23.block rb (Nat.lt_of_lt_of_le (Zaa HR.out.2.2.2.blk) H2.out.2.size)).trans (H2.out.2.block rb (Zaa HR.out.2.2.2.blk)))
 have hb3:Below w.heap.size w w3:=(HR.out.2.2.1.trans (H2.out.2.mono HR.out.2.2.1.size)).trans (hb23.mono (Nat.le_trans HR.out.2.2.1.size H2.out.2.size))
 obtain⟨⟨⟨f0,f1⟩,f2⟩,f3⟩:=hr3.froz
 obtain⟨⟨⟨t0,t1⟩,t2⟩,t3⟩:=hp3.cells
 obtain⟨⟨⟨s0,s1⟩,s2⟩,s3⟩:=hr3.cells
 have H3:=Hid.mk (And.intro hb3 (And.intro hp3 (And.intro hr3 hb23)))
 clear hb3 hp3 hr3 hb23 z4 hw3 hpb
 go_region_with (go_at_call 33;refine (HNUM.out _ er (H3.out.1.drew)).mono ?_;rintro _ w5 ⟨rfl,hb5⟩;have hbk:=Below.trans ((Below.refl w3.heap.size w3).drew) hb5;have H5:=Hid.mk hbk;have hr5:=H3.out.2.2.1.at_ (hbk.block rb (Zaa H3.out.2.2.1.blk));have hp5:=H3.out.2.1.at_ (hbk.block pb (Zaa H3.out.2.1.blk));have HR5:=Hid.mk hr5;obtain⟨⟨⟨g0,g1⟩,g2⟩,g3⟩:=hr5.froz;obtain⟨⟨⟨u0,u1⟩,u2⟩,u3⟩:=hp5.cells;obtain⟨⟨⟨v0,v1⟩,v2⟩,v3⟩:=hr5.cells;clear hb5 hbk hr5 hp5)
 all_goals go_wp2_with fail
 all_goals
  have hres:=info_res (HR5.out.set _ _ id' st (.slice a1 n1 c1) (.slice a2 n2 c2))
  have hrr:=HR.out.2.1
  have hb5:Below w.heap.size w w5:=H3.out.1.trans (H5.out.mono H3.out.1.size)
  have hb6:Below w.heap.size w ((((w5.setCell ⟨rb,0,none⟩ (.int .u64 id')).setCell ⟨rb,1,none⟩ (.int .i64 st)).setCell ⟨rb,2,none⟩ (.slice a1 n1 c1)).setCell ⟨rb,3,none⟩ (.slice a2 n2 c2)):=(((hb5.setCell (p:=⟨rb,0,none⟩) (Nat.le_of_eq hrr.symm) _).setCell (p:=⟨rb,1,none⟩) (Nat.le_of_eq hrr.symm) _).setCell (p:=⟨rb,2,none⟩) (Nat.le_of_eq hrr.symm) _).setCell (p:=⟨rb,3,none⟩) (Nat.le_of_eq hrr.symm) _
  refine bodyPost_ret (v:= .tuple #[.agg #[.int .u64 id', .int .i64 st, .slice a1 n1 c1, .slice a2 n2 c2], .int .i64 er]) (by rw [results_cell_tmp rfl];simp [Result.andThen,asAddr,hres,Act.put]) rfl ?_
  exact⟨_,er,rfl,H2.out.1.keep (fun n x xs hr=>Zci (Zad (Zad (Zad (Zad (Zah (Zah hr H3.out.2.2.2) H5.out) HR5.out.blk (by decide) _) (Zac HR5.out.blk _) (by decide) _) (Zac (Zac HR5.out.blk _) _) (by decide) _) (Zac (Zac (Zac HR5.out.blk _) _) _) (by decide) _) HR.out.2.2.1.size),hb6⟩
theorem EngAt.one8 {w w':World}{P B R D bd bn rb:Nat}{ob:Option Nat}{g:LogD}{d:DkD}{e:EngD}(h:EngAt w P B R D bd bn ob g d e)(ho:OneF w w' rb)(hP:P≠rb){cs:Array Value}{fr:Nat×Nat}(hb:w.heap[rb]? =some (.cells cs 5 fr))(hG:4<rb):EngAt w' P B R D bd bn ob g d e:=by
 obtain⟨h1,h2⟩:=h.pl
 have hgl:=h.ne.l.gl
 have hpl:P<w.heap.size:=by omega
 obtain⟨rs,l,hx,ht⟩:=h.kp
 have nf:NF w w' P B:=⟨ho.size,fun o _=>World.cell?_of_block (a:=⟨P,o,none⟩) (ho.block P hpl hP),fun o=>World.frozen?_of_block (a:=⟨P,o,none⟩) (ho.block P hpl hP),fun k cs t fr _ e ht=>ho.block k (Zaa e) (Zak e hb (by unfold KTy at ht;rcases ht with rfl | rfl | rfl | rfl | rfl | rfl | rfl | rfl | rfl | rfl<;>decide)),fun k es c _ e=>ho.block k (Zaa e) (fun y=>by rw [y,hb] at e;cases e)⟩
 refine⟨⟨rs,l,hx.side nf,ht⟩,h.log.at_ (ho.block P hpl hP),h.dk.one ho hb,fun i hi=> ?_,h.tab.at_ (ho.block _ (by omega) (by omega)),h.ne⟩
 have e:=ho.block 1 (by omega) (by omega)
 exact (World.cell?_of_block (a:=⟨1,i,none⟩) e).trans (h.nm i hi)
def EvIs (B0:Nat)(w:World)(ev:Value)(er at_:Int):Prop:=(∃q:Nat,ev= .iface 105 (.pointer (some ⟨q,0,none⟩))/\FaultAt w q er at_/\q<w.heap.size/\B0<=q)\/(ev=errV er/\at_= -1)
theorem EvIs.keep {B0:Nat}{w w':World}{ev:Value}{er at_:Int}(h:EvIs B0 w ev er at_)(hs:w.heap.size<=w'.heap.size)(hk:∀k,B0<=k->k<w.heap.size->w'.heap[k]? =w.heap[k]?):EvIs B0 w' ev er at_:=by
 rcases h with⟨q,q1,q2,q3,q4⟩ | h
 ·exact Or.inl ⟨q,q1,⟨(World.cell?_of_block (a:=⟨q,0,none⟩) (hk q q4 q3)).trans q2.1,(World.cell?_of_block (a:=⟨q,1,none⟩) (hk q q4 q3)).trans q2.2⟩,by omega,q4⟩
 ·exact Or.inr h
theorem told_ev {B0:Nat}{w:World}{ev:Value}{er at_:Int}(h:EvIs B0 w ev er at_)(he:ErrTypeIn w):Calls Tryz.prog 27 #[ev] w fun x w'=>x= .returned (.tuple #[.int .i64 er, .int .i64 at_])/\Below w.heap.size w w':=by
 rcases h with⟨q,rfl,q2,q3,q4⟩ | ⟨rfl,rfl⟩
 ·exact told_fault q er at_ w q2 q3 he
 ·unfold errV
  split
  ·rename_i h0;subst h0;exact told_nil w
  ·exact told_number er w he
def HSubR (e:EngD)(l:List Int)(n er at_:Int)(e':EngD):Prop :=
 (er≠0/\DecIs l.length (fun k=>(l.getD k 0).toNat) er at_ noFlow/\n=0/\e'=e) \/
 (∃y,DecIs l.length (fun k=>(l.getD k 0).toNat) 0 y (Zag l.length (fun k=>(l.getD k 0).toNat))/\at_= -1/\er=resV 5 (e.submit (Zag l.length (fun k=>(l.getD k 0).toNat)))/\n=(if er=0 then e.lastRun+1 else 0)/\e'=(e.submit (Zag l.length (fun k=>(l.getD k 0).toNat))).getD e)
theorem SubR.well {B0 N:Nat}{w':World}{g g':LogD}{d d':DkD}{e e':EngD}{l:List Int}{x:Value}(h:SubR B0 w' g d e l x g' d' e')(ws:WellS g d N e)(hl:l.length<=900000)(hlb:AllB l):∃(n:Int) (ev:Value) (er at_:Int),x= .tuple #[.int .u64 n,ev]/\EvIs B0 w' ev er at_/\HSubR e l n er at_ e'/\d'.down=false/\WellS g' d'.calm (N+1000000) e':=by
 rcases h with⟨x0,y,q,h1,h2,rfl,h4,h5,h6,rfl,rfl,rfl⟩ | ⟨y,er,h1,h2,rfl⟩
 ·exact⟨0,_,x0,y,rfl,Or.inl ⟨q,rfl,h4,h5,h6⟩,Or.inl ⟨h1,h2,rfl,rfl⟩,ws.down,ws.calm⟩
 ·have hlen:(recB 1 l 0).length<=900100:=by have:=(recB_len (op:=1) (data:=l) (n:=0) (by decide)).2;omega
  obtain⟨r1,r2,r3,r4⟩:=h2.well ws hlen (fun e2 he=> .submit h1 hlb he)
  exact⟨_,_,er,-1,rfl,Or.inr ⟨rfl,rfl⟩,Or.inr ⟨y,h1,rfl,r1,rfl,r2⟩,r3,by rw [r2];exact r4⟩
set_option maxHeartbeats 8000000 in
theorem hsubmit_any (w:World)(hb P B R D bd bn N B0 bg c:Nat)(ob:Option Nat)(e:EngD)(l:List Int)(h:HostAt w hb P B R D bd bn ob N e)(ok:EngOk e)(lim:EngLim e)(hN:N<=1000000000000)(hr:ByteRow B0 w (.slice (some ⟨bg,0,none⟩) l.length c) l)(hl:AllB l)(hl1:1<=l.length)(hll:l.length<=900000) :
  Calls Tryz.prog 9 #[.pointer (some ⟨hb,0,none⟩), .slice (some ⟨bg,0,none⟩) l.length c,Zbq (-1) (-1) 0 0] w fun x w'=>∃ob' n er at_ e',x= .returned (.tuple #[.int .u64 n, .int .i64 er, .int .i64 at_])/\HSubR e l n er at_ e'/\HostAt w' hb P B R D bd bn ob' (N+1000000) e'/\ObTo w ob ob'/\EF w w' P B R D bd bn ob:=by
 obtain⟨g,d,h1,ws⟩:=h.ex
 have hne:=h.ne
 obtain⟨i5,hi5,hz50,hz51,hz52⟩:=info_parts info5
 have HI5:=Hid.mk (And.intro hi5 (And.intro hz50 (And.intro hz51 hz52)))
 obtain⟨fb,hfb⟩:∃fb,fb=w.heap.size:=⟨_,rfl⟩
 obtain⟨n,hn⟩:∃n,n=l.length:=⟨_,rfl⟩
 obtain⟨w1,hw1⟩:∃w1,w1=w.alloc (.cells #[.int .i64 (-1), .int .i64 (-1), .int .i64 0, .int .i64 0] 26):=⟨_,rfl⟩
 have hb1:Below w.heap.size w w1:=by rw [hw1];exact (Below.refl _ _).alloc (Nat.le_refl _) _
 have hpl:=h1.pl
 have hkn:=h1.ne
 have hfar:∀k,w.heap.size<=k->k≠P/\k≠D/\k≠bd/\k≠bn/\4<k:=fun k hk=>by
  have:=hkn.p;have:=hkn.d;have:=hkn.md;have:=hkn.mn;have:=hkn.l.gl
  exact⟨by omega,by omega,by omega,by omega,by omega⟩
 have HA:=Hid.mk (show HostM w w1 hb P B R D bd bn fb ob ob g d e (-1) (-1) 0 0 from by rw [hw1,hfb];exact HostM.new (N:=N) h1 h.host h.err _ _ _ _ (Below.refl _ _))
 have hsrc:∃bcs fr,w.heap[bg]? =some (.cells bcs 5 fr):=by
  rcases hr.2 with⟨x,_⟩ | ⟨g',cap,cur,x,_,hh,_⟩
  ·simp at x
  ·obtain rfl:bg=g':=by simp only [Value.slice.injEq,Option.some.injEq,Addr.mk.injEq] at x;exact x.1.1
   exact⟨_,_,hh⟩
 have HBEF:=Hid.mk (show Calls Tryz.prog 28 #[.pointer (some ⟨hb,0,none⟩),Zbq (-1) (-1) 0 0] w1 fun x w'=>x= .returned (.tuple #[])/\HostM w w' hb P B R D bd bn fb ob ob g d e (-1) (-1) 0 0/\∀k,k<n->w'.cell? ⟨bg,k,none⟩=(bv l)[k]? from by
  refine (Zdd w1 hb P B R D bd bn N ob g d e _ 0 0 HA.out.eng ws HA.out.host).mono ?_
  rintro x w' ⟨rfl,q1,q2⟩
  obtain⟨bcs,fr,hsb⟩:=hsrc
  obtain⟨pa,pc,dk,_⟩:=h1.dk.c
  refine⟨rfl,HA.out.one hne q1 q2,fun k hk=> ?_⟩
  have e1:=hb1.block bg (Zaa hsb)
  have e2:=q2.block bg (Zaa (e1.trans hsb)) (Zak hsb dk.blk (by decide))
  exact (World.cell?_of_block (a:=⟨bg,k,none⟩) (e2.trans e1)).trans (World.ownsRow.cellAt hr k (by omega)))
 have HENG:=Hid.mk (show ∀w2 w3 xa xc,HostM w w2 hb P B R D bd bn fb ob ob g d e (-1) (-1) 0 0->Below w2.heap.size w2 w3->ByteRow (w.heap.size+1) w3 (.slice xa n xc) l->Calls Tryz.prog 29 #[.pointer (some ⟨P,0,none⟩), .slice xa n xc] w3 fun x w'=>∃i ev er at_ g' d' e' ob',x= .returned (.tuple #[.int .u64 i,ev])/\EvIs w3.heap.size w' ev er at_/\HSubR e l i er at_ e'/\d'.down=false/\WellS g' d'.calm (N+1000000) e'/\HostM w w' hb P B R D bd bn fb ob ob' g' d' e' (-1) (-1) 0 0/\ByteRow (w.heap.size+1) w' (.slice xa n xc) l from fun w2 w3 xa xc hA hb3 hrow=>by
  have hA3:=hA.below hb3
  rw [hn] at hrow ⊢
  refine (esubmit_any w3 P B R D bd bn N (w.heap.size+1) ob g d e l xa xc hA3.eng ok lim (ws.fit hN) hrow hl hll).mono ?_
  rintro x w' ⟨v,g',d',e',ob',rfl,q1,q2,q3,q4⟩
  obtain⟨i,ev,er,at_,rfl,r2,r3,r4,r5⟩:=q1.well ws hll hl
  refine⟨i,ev,er,at_,g',d',e',ob',rfl,r2,r3,r4,r5,hA3.call hne q2 q3 q4,hrow.1,?_⟩
  rcases hrow.2 with x | ⟨g5,cap,cur,x,hg,hh,r⟩
  ·exact Or.inl x
  ·obtain⟨f1,f2,f3,f4,_⟩:=hfar g5 (by omega)
   exact Or.inr ⟨g5,cap,cur,x,hg,q4.keepT hh ⟨f1,f2,f3,f4⟩ (by decide),r⟩)
 have HAFT:=Hid.mk (show ∀w3 g' d' e' ob',d'.down=false->HostM w w3 hb P B R D bd bn fb ob ob' g' d' e' (-1) (-1) 0 0->Calls Tryz.prog 30 #[.pointer (some ⟨hb,0,none⟩),Zbq (-1) (-1) 0 0] w3 fun x w'=>x= .returned (.tuple #[])/\HostM w w' hb P B R D bd bn fb ob ob' g' d'.calm e' (-1) (-1) 0 0/\OneF w3 w' D from fun w3 g' d' e' ob' hdn hA=>by
  refine (Zda w3 hb P B R D bd bn ob' g' d' _ _ _ _ 0 0 hA.eng hdn hA.host).mono ?_
  rintro x w' ⟨rfl,q1,q2⟩
  exact⟨rfl,hA.one hne q1 q2,q2⟩)
 have HR:=Hid.mk (And.intro hw1 (And.intro hfb (And.intro hne (And.intro hfar (And.intro hn hb1)))))
 have hn1:1<=n:=by omega
 have hn2:n<=900000:=by omega
 have hbl:=bv_length l
 have hones:Hid (∀u∈bv l,u.oneCell'=true):=Hid.mk fun u hu=>by
  simp only [bv,List.mem_map] at hu
  obtain⟨x,_,rfl⟩:=hu
  rfl
 rw [<-hn] at hbl ⊢
 unfold Zbq at HBEF HAFT ⊢
 clear h ok lim hN hr hl hl1 hll hi5 hz50 hz51 hz52 h1 ws hne hw1 hfb hn hb1 hpl hkn hfar hsrc
 go_enter Tryz.func9,Tryz.ntmps9
 go_upto_region 1 with fail
 rw [<-HR.out.2.1,<-HR.out.1]
 obtain⟨⟨⟨⟨z0,z1⟩,z2⟩,z3⟩,z4⟩:=HA.out.cells
 go_upto_region 4 with (go_at_call 28;refine HBEF.out.mono ?_;rintro _ w2 ⟨rfl,hA,hcell⟩;have H2:=Hid.mk hA;have HCE:=Hid.mk hcell;obtain⟨⟨⟨⟨y0,y1⟩,y2⟩,y3⟩,y4⟩:=hA.cells;clear hA hcell)
 have hnews:∀(j:Nat) (u:Value),(bv l)[j]? =some u->w2.cell? (Addr.add ⟨bg,0,none⟩ j)=some u:=fun j u hj=>by
  have hjl:j<n:=by
   have:=(List.getElem?_eq_some_iff.1 hj).1
   omega
  rw [Zb5,Nat.zero_add,HCE.out j hjl,hj]
 have hs2:w.heap.size+1<=w2.heap.size:=by have:=Zaa H2.out.fb;have:=HR.out.2.1;omega
 have HNS:=Hid.mk (And.intro hnews hs2)
 clear z0 z1 z2 z3 z4 hnews hs2
 go_upto_region 5 with (at_builtin;refine wpList_append_own _ rfl (.const (.slice none 0 0)) (.tmp 23) 35 rfl (w.heap.size+1) 5 i5 (.int .u8 0) 1 1 Tryz.underlying35 HI5.out.1 HI5.out.2.1 HI5.out.2.2.1 HI5.out.2.2.2 rfl (by decide) (.slice none 0 0) 0 [] rfl (World.ownsRow_nil _ _ _ _) ⟨bg,0,none⟩ n c (bv l) rfl (by omega) HNS.out.1 hones.out (by unfold maxLen;omega) (by omega) HNS.out.2 ?_;intro v1 w3 hown hgrow hiff;clear hiff;rw [Nat.zero_add,List.nil_append] at hown;obtain⟨xa,xc,rfl⟩:=Za3 hown;have HO:=Hid.mk (And.intro hown hgrow);clear hown hgrow)
 have hB23:Below w2.heap.size w2 w3:=(Below.refl w2.heap.size w2).grown HO.out.2 (Nat.le_refl _) (fun k h=>by cases h)
 have hrow3:ByteRow (w.heap.size+1) w3 (.slice xa n xc) l:=by
  have:=HO.out.1
  unfold ByteRow
  rw [<-HR.out.2.2.2.2.1]
  exact this
 obtain⟨gg,hxa,hg1,hg2⟩:∃gg:Nat,xa=some ⟨gg,0,none⟩/\w.heap.size+1<=gg/\gg<w3.heap.size:=by
  rcases hrow3.2 with⟨x,x2⟩ | ⟨g5,cap,cur,x,hg,hh,r⟩
  ·have:=HR.out.2.2.2.2.1;omega
  ·simp only [Value.slice.injEq] at x
   exact⟨g5,x.1,hg,Zaa hh⟩
 subst hxa
 have H3:=Hid.mk (And.intro hB23 (And.intro hrow3 (And.intro hg1 hg2)))
 have x4:w3.cell? ⟨hb,1,none⟩=some (.pointer (some ⟨P,0,none⟩)):=cell_later hB23 y4
 clear hB23 hrow3 hg1 hg2 y0 y1 y2 y3 y4
 go_upto_region 6 with (go_at_call 29;refine (HENG.out w2 w3 _ xc H2.out H3.out.1 H3.out.2.1).mono ?_;rintro _ w4 ⟨i,ev,er,at_,g',d',e',ob',rfl,hev,hsr,hdn,hws,hA,hrow⟩;have H4:=Hid.mk (And.intro hA (And.intro hdn (And.intro hws (And.intro hsr (And.intro hev hrow)))));clear hA hdn hws hsr hev hrow)
 have HG:=Hid.mk (show w4.ownsRow (w.heap.size+1) 5 1 (.slice (some ⟨gg,0,none⟩) n xc) n (bv l) from by
  have h5:=H4.out.2.2.2.2.2
  unfold ByteRow at h5
  rw [<-HR.out.2.2.2.2.1] at h5
  exact h5)
 clear x4
 go_wp2_with fail
 go_loopw [36] (fun iv wr=>∃(i:Nat) (zs:List Value),iv= .int .i64 i/\i<=n/\wr.ownsRow (w.heap.size+1) 5 1 (.slice (some ⟨gg,0,none⟩) n xc) n zs/\OneF w4 wr gg) (fun iv _=>n - (intOf iv).toNat)
 case atStart =>
  exact⟨0,bv l,rfl,by omega,HG.out,OneF.refl _ _⟩
 case round =>
  obtain⟨j,zs,rfl,hi,hown,ho⟩:=hrel
  by_cases h1:j<n
  ·have t0:=hown.cellAt j (by omega)
   obtain⟨u,hu⟩:∃u,wr.cell? ⟨gg,j,none⟩=some u:=by
    have hz:=hown.1
    rw [t0]
    exact⟨_,List.getElem?_eq_getElem (by omega)⟩
   have f0:=hown.frozenAt j
   have HW:=Hid.mk (And.intro hown ho)
   have i1:(j:Int)<(n:Int):=by omega
   have hnc:n<=xc/\xc<=maxLen:=by
    rcases hown.2 with⟨x,_⟩ | ⟨g',cap,cur,x,hg,hh,r1,r2,_⟩
    ·simp at x
    ·simp only [Value.slice.injEq] at x
     obtain⟨_,_,rfl⟩:=x
     exact⟨r1,r2⟩
   clear t0 hown ho
   go_wp2_with fail
   go_roundw
   case rel=>exact⟨j+1,_,by go_num,by omega,(HW.out.1.stored j (.int .u8 33)).1,HW.out.2.set j _⟩
   case measure=>simp [intOf];omega
  ·have i1:¬(j:Int)<(n:Int):=by omega
   have HW:=Hid.mk (And.intro hown ho)
   clear hown ho
   have hA4:=H4.out.1
   obtain⟨f1,f2,f3,f4,f5⟩:=HR.out.2.2.2.1 gg (by have:=H3.out.2.2.1;omega)
   obtain⟨cs8,fr8,hg8⟩:∃cs fr,w4.heap[gg]? =some (.cells cs 5 fr):=by
    rcases HG.out.2 with⟨x,_⟩ | ⟨g',cap,cur,x,_,hh,_⟩
    ·simp at x
    ·obtain rfl:gg=g':=by simp only [Value.slice.injEq,Option.some.injEq,Addr.mk.injEq] at x;exact x.1.1
     exact⟨_,_,hh⟩
   have ho:=HW.out.2
   have hgf:gg≠fb:=Zak hg8 hA4.fb (by decide)
   have hgh:gg≠hb:=Zak hg8 hA4.host.blk (by decide)
   have hbe:0<w4.heap.size:=World.block_lt_of_cell? _ _ hA4.err
   have hpB:=hA4.eng.pl
   have hM:HostM w wr hb P B R D bd bn fb ob ob' g' d' e' (-1) (-1) 0 0 :=
    ⟨hA4.eng.one8 ho (Ne.symm f1) hg8 f5,hA4.host.at_ (ho.block hb (Zaa hA4.host.blk) (Ne.symm hgh)),(World.cell?_of_block (a:=⟨0,0,none⟩) (ho.block 0 hbe (by omega))).trans hA4.err,hA4.ef.one ho (by have:=H3.out.2.2.1;omega),hA4.obt,(ho.block fb (Zaa hA4.fb) (Ne.symm hgf)).trans hA4.fb⟩
   have hev:EvIs w3.heap.size wr ev er at_:=H4.out.2.2.2.2.1.keep ho.size (fun k hk hk2=>ho.block k hk2 (by have:=H3.out.2.2.2;omega))
   have HM:=Hid.mk (And.intro hM hev)
   obtain⟨⟨⟨⟨x0,x1⟩,x2⟩,x3⟩,x4⟩:=hM.cells
   have HDL:=Hid.mk (show D<w3.heap.size from by
    have h5:=HA.out.eng.ne.d
    have h6:=HA.out.eng.pl
    have h7:=H3.out.1.size
    have h8:=H2.out.ef.size
    have h9:=HR.out.2.2.2.2.2.size
    have h10:=H2.out.eng.pl
    omega)
   have HTOL:=Hid.mk (show ∀wx,HostM w wx hb P B R D bd bn fb ob ob' g' d'.calm e' (-1) (-1) 0 0->OneF wr wx D->Calls Tryz.prog 27 #[ev] wx fun x w'=>x= .returned (.tuple #[.int .i64 er, .int .i64 at_])/\Below wx.heap.size wx w' from fun wx hx hox=>told_ev (HM.out.2.keep hox.size (fun k hk hk2=>hox.block k hk2 (by have:=HDL.out;omega))) hx.err)
   clear hA4 f1 f2 f3 f4 f5 hg8 ho hgf hgh hbe hpB hM hev
   go_wp2_with (first
    | (go_at_call 30;refine (HAFT.out _ _ _ _ _ H4.out.2.1 HM.out.1).mono ?_;rintro _ w5 ⟨rfl,hA,ho5⟩;have H5:=Hid.mk (And.intro hA ho5);clear hA ho5)
    | (go_at_call 27;refine (HTOL.out _ H5.out.1 H5.out.2).mono ?_;rintro _ w6 ⟨rfl,hb6⟩;have H6:=Hid.mk hb6;clear hb6))
   have hfin:=H5.out.1.below H6.out
   refine bodyPost_ret (v:= .tuple #[.int .u64 i, .int .i64 er, .int .i64 at_]) (by simp [results,Tryz.results9,go_sem]) rfl ?_
   exact⟨ob',i,er,at_,e',rfl,H4.out.2.2.2.1,⟨⟨_,_,hfin.eng,H4.out.2.2.1⟩,hfin.host,hfin.err,HR.out.2.2.1⟩,hfin.obt,hfin.ef⟩
end Go.Proofs.YtgdcjccbdmcebabGreatDoor
