import Derived.Test.YtgdcjccbdmcebabGreatDoorM47
import Derived.Test.YtgdcjccbdmcebabGreatDoorM48
set_option linter.unusedSimpArgs false
set_option linter.unusedVariables false
namespace Go.Proofs.YtgdcjccbdmcebabGreatDoor
open Go.RowKit
set_option maxRecDepth 100000
attribute [local go_sem ↓] Go.wp_at_zero Go.wp_at_succ
theorem Zcx (x:Int)(w:World)(hg:ErrTypeIn w) :
  Calls Tryz.prog 33 #[errV x] w fun e w'=>e= .returned (.int .i64 x)/\Below w.heap.size w w':=by
 have HG:=Hid.mk hg
 clear hg
 unfold errV
 by_cases h0:x=0
 ·subst h0
  rw [if_pos rfl]
  go_enter Tryz.func33,Tryz.ntmps33
  go_wp2_with (go_at_call 27;refine (told_nil w).mono ?_;rintro e w1 ⟨rfl,hb⟩;have HB:=Hid.mk hb;clear hb)
  go_ret
  exact⟨rfl,HB.out⟩
 ·rw [if_neg h0]
  go_enter Tryz.func33,Tryz.ntmps33
  go_wp2_with (go_at_call 27;refine (told_number x w HG.out).mono ?_;rintro e w1 ⟨rfl,hb⟩;have HB:=Hid.mk hb;clear hb)
  go_ret
  exact⟨rfl,HB.out⟩
structure HostC (w:World)(hb D:Nat)(pv:Value):Prop where
 blk:w.heap[hb]? =some (.cells #[.pointer (some ⟨D,0,none⟩),pv] 83 (0,0))
theorem HostC.cells {w:World}{hb D:Nat}{pv:Value}(h:HostC w hb D pv):w.cell? ⟨hb,0,none⟩=some (.pointer (some ⟨D,0,none⟩))/\w.cell? ⟨hb,1,none⟩=some pv:=by
 refine⟨?_,?_⟩<;>(unfold World.cell?;rw [h.blk];rfl)
theorem HostC.froz {w:World}{hb D:Nat}{pv:Value}(h:HostC w hb D pv)(o:Nat):w.frozen? ⟨hb,o,none⟩=false:=by simp [World.frozen?,h.blk]
theorem HostC.at_ {w w':World}{hb D:Nat}{pv:Value}(h:HostC w hb D pv)(e:w'.heap[hb]? =w.heap[hb]?):HostC w' hb D pv:=⟨e.trans h.blk⟩
theorem HostC.set {w:World}{hb D:Nat}{pv:Value}(h:HostC w hb D pv)(v:Value):HostC (w.setCell ⟨hb,1,none⟩ v) hb D v:=⟨by rw [Zac h.blk];rfl⟩
def Zbq (a b c e:Int):Value:= .agg #[.int .i64 a, .int .i64 b, .int .i64 c, .int .i64 e]
set_option maxHeartbeats 4000000 in
theorem before_any (w:World)(hb D bd bn:Nat)(pv hv:Value)(l0 f0:Int)(dn:Bool)(a b c e:Int)(h:HostC w hb D hv)(hd:DkC w D bd bn pv l0 f0 dn) :
  Calls Tryz.prog 28 #[.pointer (some ⟨hb,0,none⟩),Zbq a b c e] w fun x w'=>x= .returned (.tuple #[])/\DkC w' D bd bn pv a b dn/\OneF w w' D:=by
 have hne:hb≠D:=fun x=>by
  have h1:=h.blk
  rw [x,hd.blk] at h1
  simp only [Option.some.injEq,Obj.cells.injEq] at h1
  exact absurd h1.2.1 (by decide)
 have hne2:D≠hb:=Ne.symm hne
 have hlt:=Zaa h.blk
 have hlt2:=Zaa hd.blk
 obtain⟨w1,hw1⟩:∃w1,w1=w.alloc (.cells #[.int .i64 a, .int .i64 b, .int .i64 c, .int .i64 e] 26):=⟨_,rfl⟩
 obtain⟨fb,hfb⟩:∃fb,fb=w.heap.size:=⟨_,rfl⟩
 have hB:Below w.heap.size w w1:=by rw [hw1];exact (Below.refl _ _).alloc (Nat.le_refl _) _
 have h1:=h.at_ (hB.block hb hlt)
 have hd1:=hd.at_ (hB.block D hlt2)
 have hfk:w1.heap[fb]? =some (.cells #[.int .i64 a, .int .i64 b, .int .i64 c, .int .i64 e] 26 (0,0)):=by rw [hw1,hfb];exact heap_alloc_new w _
 obtain⟨c0,c1⟩:=h1.cells
 have d3:=hd1.cells.1.1.2
 have d4:=hd1.cells.1.2
 have g3:=hd1.froz 3
 have g4:=hd1.froz 4
 have z0:w1.cell? ⟨fb,0,none⟩=some (.int .i64 a):=by unfold World.cell?;rw [hfk];rfl
 have z1:w1.cell? ⟨fb,1,none⟩=some (.int .i64 b):=by unfold World.cell?;rw [hfk];rfl
 have hne3:fb≠D:=by omega
 have hne4:D≠fb:=by omega
 have HR:=Hid.mk (And.intro hw1 (And.intro hfb (And.intro hB (And.intro hd1 hlt2))))
 have HW:=Hid.mk (show ∀u v:Value,OneF w ((w1.setCell ⟨D,3,none⟩ u).setCell ⟨D,4,none⟩ v).drew D from fun u v=>by
  have:=(((OneF.refl w1 D).set 3 u).set 4 v).drew
  exact⟨this.os.trans hB.os,this.tape.trans hB.tape,this.output.trans hB.output,Nat.le_trans hB.size this.size,fun k hk hkD=>(this.block k (Nat.lt_of_lt_of_le hk hB.size) hkD).trans (hB.block k hk)⟩)
 clear h hd hlt hlt2 hB h1 hd1 hfk
 unfold Zbq
 go_enter Tryz.func28,Tryz.ntmps28
 go_upto_region 1 with fail
 rw [<-hfb,<-hw1]
 clear hw1 hfb
 go_region
 go_wp2_with fail
 go_end0
 exact⟨rfl,⟨((HR.out.2.2.2.1.setL a).setF b).blk⟩,HW.out _ _⟩
set_option maxHeartbeats 4000000 in
theorem after_any (w:World)(hb D bd bn:Nat)(pv hv:Value)(l0 f0:Int)(a b c e:Int)(h:HostC w hb D hv)(hd:DkC w D bd bn pv l0 f0 false) :
  Calls Tryz.prog 30 #[.pointer (some ⟨hb,0,none⟩),Zbq a b c e] w fun x w'=>x= .returned (.tuple #[])/\DkC w' D bd bn pv (-1) (-1) false/\OneF w w' D:=by
 have hne:hb≠D:=fun x=>by
  have h1:=h.blk
  rw [x,hd.blk] at h1
  simp only [Option.some.injEq,Obj.cells.injEq] at h1
  exact absurd h1.2.1 (by decide)
 have hne2:D≠hb:=Ne.symm hne
 have hlt:=Zaa h.blk
 have hlt2:=Zaa hd.blk
 obtain⟨w1,hw1⟩:∃w1,w1=w.alloc (.cells #[.int .i64 a, .int .i64 b, .int .i64 c, .int .i64 e] 26):=⟨_,rfl⟩
 have hB:Below w.heap.size w w1:=by rw [hw1];exact (Below.refl _ _).alloc (Nat.le_refl _) _
 have h1:=h.at_ (hB.block hb hlt)
 have hd1:=hd.at_ (hB.block D hlt2)
 obtain⟨c0,c1⟩:=h1.cells
 have d3:=hd1.cells.1.1.2
 have d4:=hd1.cells.1.2
 have d5:=hd1.cells.2
 have g3:=hd1.froz 3
 have g4:=hd1.froz 4
 have HR:=Hid.mk (And.intro hw1 (And.intro hB (And.intro hd1 hlt2)))
 have HW:=Hid.mk (show ∀u v:Value,OneF w ((w1.setCell ⟨D,3,none⟩ u).setCell ⟨D,4,none⟩ v).drew D from fun u v=>by
  have:=(((OneF.refl w1 D).set 3 u).set 4 v).drew
  exact⟨this.os.trans hB.os,this.tape.trans hB.tape,this.output.trans hB.output,Nat.le_trans hB.size this.size,fun k hk hkD=>(this.block k (Nat.lt_of_lt_of_le hk hB.size) hkD).trans (hB.block k hk)⟩)
 clear h hd hlt hlt2 hB h1 hd1
 unfold Zbq
 go_enter Tryz.func30,Tryz.ntmps30
 go_upto_region 1 with fail
 rw [<-hw1]
 clear hw1
 go_upto_region 4 with fail
 go_region
 go_wp2_with fail
 go_end0
 exact⟨rfl,⟨((HR.out.2.2.1.setL (-1)).setF (-1)).blk⟩,HW.out _ _⟩
structure HNe (hb P B R D bd bn:Nat):Prop where
 b:hb<B
 r:hb<R
 p:hb≠P
 d:hb≠D
 md:hb≠bd
 mn:hb≠bn
 gl:4<hb
structure WellS (g:LogD)(d:DkD)(N:Nat)(e:EngD):Prop where
 err:g.err=0
 at_:g.at_=0
 short:g.short=0
 pend:d.pend=[]
 left:d.left= -1
 full:d.full= -1
 down:d.down=false
 s1:SzF d.dur N
 s2:SzF d.now N
 m2:2000000<=N
 log:∃recs,LogR Za5 recs e/\d.dur=filR recs/\d.now=filR recs
def DkD.calm (d:DkD):DkD:={ d with left:= -1,full:= -1,down:=false }
theorem WellS.fit {g:LogD}{d:DkD}{N:Nat}{e:EngD}(h:WellS g d N e)(hN:N<=1000000000000):Fit g d N :=
 ⟨by rw [h.pend];decide,by rw [h.at_];decide,by rw [h.short];decide,h.s1,h.s2,fun o ho=>(by rw [h.pend] at ho;cases ho),hN,h.m2⟩
theorem WellS.aim {g:LogD}{d:DkD}{N:Nat}{e:EngD}(h:WellS g d N e):({ d with left:= -1,full:= -1,down:=false }:DkD)=d:=by
 obtain⟨dur,now,pend,left,full,down⟩:=d
 have h1:=h.left;have h2:=h.full;have h3:=h.down
 simp only at h1 h2 h3
 rw [h1,h2,h3]
theorem WellS.add {g:LogD}{d:DkD}{N:Nat}{e0 e1:EngD}(h:WellS g d N e0){l:List Int}(hl:l.length<=900100)(hr:RecR e0 l e1):addE g d l=0/\(addD g d l).down=false/\WellS (addG g d l) (addD g d l).calm (N+1000000) e1:=by
 obtain⟨dur,now,pend,left,full,down⟩:=d
 obtain⟨at_,short,err⟩:=g
 obtain⟨h1,h2,h3,h4,h5,h6,h7,h8,h9,h10,recs,hl1,hl2,hl3⟩:=h
 simp only at h1 h2 h3 h4 h5 h6 h7 h8 h9 hl2 hl3
 subst h1 h2 h3 h4 h5 h6 h7
 have hs:∀(f:FilD),SzF f N->SzF (doF f ⟨2,0,Zcq 0 l⟩) (N+1000000):=fun f hf=>hf.do_ _ (by simp only [Zcq,List.length_append,List.length_replicate,frameB_len];omega)
 refine⟨by simp [addE,LogD.op,DkD.tErr,DkD.wErr,DkD.told,DkD.wrote,wI],by simp [addD,LogD.op,DkD.tErr,DkD.wErr,DkD.told,DkD.wrote,DkD.synced,wI],?_⟩
 refine⟨by simp [addG,LogD.op,DkD.tErr,DkD.wErr,DkD.told,DkD.wrote,wI],by simp [addG,LogD.op,DkD.tErr,DkD.wErr,DkD.told,DkD.wrote,wI],by simp [addG,LogD.op,DkD.tErr,DkD.wErr,DkD.told,DkD.wrote,wI],by simp [DkD.calm,addD,LogD.op,DkD.tErr,DkD.wErr,DkD.told,DkD.wrote,DkD.synced,wI],rfl,rfl,rfl,?_,?_,by omega,recs++[l],hl1.snoc hr,?_,?_⟩
 ·have e:(addD ⟨0,0,0⟩ ⟨dur,now,[],-1,-1,false⟩ l).calm.dur=doF dur ⟨2,0,Zcq 0 l⟩:=by simp [DkD.calm,addD,LogD.op,DkD.tErr,DkD.wErr,DkD.told,DkD.wrote,DkD.synced,wI]
  rw [e];exact hs _ h8
 ·have e:(addD ⟨0,0,0⟩ ⟨dur,now,[],-1,-1,false⟩ l).calm.now=doF now ⟨2,0,Zcq 0 l⟩:=by simp [DkD.calm,addD,LogD.op,DkD.tErr,DkD.wErr,DkD.told,DkD.wrote,DkD.synced,wI]
  rw [e];exact hs _ h9
 ·have e:(addD ⟨0,0,0⟩ ⟨dur,now,[],-1,-1,false⟩ l).calm.dur=doF dur ⟨2,0,Zcq 0 l⟩:=by simp [DkD.calm,addD,LogD.op,DkD.tErr,DkD.wErr,DkD.told,DkD.wrote,DkD.synced,wI]
  rw [e,hl2,filR_snoc]
 ·have e:(addD ⟨0,0,0⟩ ⟨dur,now,[],-1,-1,false⟩ l).calm.now=doF now ⟨2,0,Zcq 0 l⟩:=by simp [DkD.calm,addD,LogD.op,DkD.tErr,DkD.wErr,DkD.told,DkD.wrote,DkD.synced,wI]
  rw [e,hl3,filR_snoc]
theorem WellS.add0 {g:LogD}{d:DkD}{N:Nat}{e0:EngD}(h:WellS g d N e0){l:List Int}:addE g d l=0:=by
 obtain⟨dur,now,pend,left,full,down⟩:=d
 obtain⟨at_,short,err⟩:=g
 obtain⟨h1,h2,h3,h4,h5,h6,h7,h8,h9,h10,_⟩:=h
 simp only at h1 h2 h3 h4 h5 h6 h7
 subst h1 h2 h3 h4 h5 h6 h7
 simp [addE,LogD.op,DkD.tErr,DkD.wErr,DkD.told,DkD.wrote,wI]
theorem WellS.calm {g:LogD}{d:DkD}{N:Nat}{e:EngD}(h:WellS g d N e):WellS g d.calm (N+1000000) e:=by
 have e:d.calm=d:=h.aim
 rw [e]
 exact⟨h.err,h.at_,h.short,h.pend,h.left,h.full,h.down,h.s1.mono (by omega),h.s2.mono (by omega),by have:=h.m2;omega,h.log⟩
theorem EngAt.aim {w w':World}{P B R D bd bn:Nat}{ob:Option Nat}{g:LogD}{d:DkD}{e:EngD}(h:EngAt w P B R D bd bn ob g d e)(ho:OneF w w' D){pa:Option Addr}{pc:Nat}{L F:Int}{dn:Bool}(hw:w.ownsRow R 147 3 (.slice pa d.pend.length pc) d.pend.length (d.pend.flatMap opC))(hd:DkC w D bd bn (.slice pa d.pend.length pc) d.left d.full d.down)(hc:DkC w' D bd bn (.slice pa d.pend.length pc) L F dn):EngAt w' P B R D bd bn ob g { d with left:=L,full:=F,down:=dn } e:=by
 obtain⟨h1,h2⟩:=h.pl
 have hgl:=h.ne.l.gl
 have hpl:P<w.heap.size:=by omega
 have hPD:=h.ne.l.d
 obtain⟨rs,l,hx,ht⟩:=h.kp
 have nf:=NF.of_lf (LF.of_df (DF.of_one (R:=R) (bd:=bd) (bn:=bn) ho (Or.inl rfl)) hpl h.ne.l) h.ne
 obtain⟨Dd,f3⟩:=h.dk.fd
 obtain⟨Dn,f4⟩:=h.dk.fn
 have hm:∀bm f Dx,FilAt w bm f Dx->bm≠D:=fun bm f Dx hx e2=>by
  obtain⟨es,c,e3,_⟩:=hx.own
  rw [e2,hd.blk] at e3;cases e3
 have hs:∀k s,StrAt w k s->w'.heap[k]? =w.heap[k]? :=fun k s e2=>ho.block k (Zaa e2) (fun y=>by
  have e3:=hd.blk
  unfold StrAt at e2
  rw [<-y,e2] at e3
  simp only [Option.some.injEq,Obj.cells.injEq] at e3
  exact absurd e3.2.1 (by decide))
 refine⟨⟨rs,l,hx.side nf,ht⟩,h.log.at_ (ho.block P hpl hPD),⟨Nat.le_trans h.dk.rs ho.size,⟨pa,pc,hc,hw.1,?_⟩,⟨Dd,f3.keepS (ho.block bd f3.lt (hm _ _ _ f3)) hs⟩,⟨Dn,f4.keepS (ho.block bn f4.lt (hm _ _ _ f4)) hs⟩,h.dk.ne,h.dk.few,h.dk.ops⟩,fun i hi=> ?_,h.tab.at_ (ho.block _ (by omega) (by omega)),h.ne⟩
 ·rcases hw.2 with x | ⟨g',cap,cur,x,hg,hh,r⟩
  ·exact Or.inl x
  ·exact Or.inr ⟨g',cap,cur,x,hg,(ho.block g' (Zaa hh) (Zak hh hd.blk (by decide))).trans hh,r⟩
 ·have e:=ho.block 1 (by omega) (by omega)
  exact (World.cell?_of_block (a:=⟨1,i,none⟩) e).trans (h.nm i hi)
theorem EF.oneD {w w1 w':World}{P B R D bd bn:Nat}{ob:Option Nat}(h:EF w w1 P B R D bd bn ob)(ho:OneF w1 w' D):EF w w' P B R D bd bn ob :=
 ⟨ho.os.trans h.os,ho.tape.trans h.tape,ho.output.trans h.output,Nat.le_trans h.size ho.size,fun k hk h0 h1 h2 h3 h4 h5=>(ho.block k (Nat.lt_of_lt_of_le hk h.size) h1).trans (h.block k hk h0 h1 h2 h3 h4 h5)⟩
theorem EF.keepT {w w':World}{P B R D bd bn k:Nat}{ob:Option Nat}{cs:Array Value}{t:TypeId}{fr:Nat×Nat}(h:EF w w' P B R D bd bn ob)(e:w.heap[k]? =some (.cells cs t fr))(h0:k≠P/\k≠D/\k≠bd/\k≠bn)(ht:t≠147/\t≠183/\t≠180/\t≠173/\t≠178/\t≠189/\t≠39):w'.heap[k]? =some (.cells cs t fr) :=
 (h.block k (Zaa e) h0.1 h0.2.1 h0.2.2.1 h0.2.2.2 (Or.inr fun cs' fr' e'=>by rw [e] at e';simp only [Option.some.injEq,Obj.cells.injEq] at e';exact ht.1 e'.2.1) (Or.inr ⟨cs,t,fr,e,ht.2.1,ht.2.2.1,ht.2.2.2.1,ht.2.2.2.2.1,ht.2.2.2.2.2.1,fun x=>absurd x ht.2.2.2.2.2.2⟩)).trans e
structure HostAt (w:World)(hb P B R D bd bn:Nat)(ob:Option Nat)(N:Nat)(e:EngD):Prop where
 ex:∃g d,EngAt w P B R D bd bn ob g d e/\WellS g d N e
 host:HostC w hb D (.pointer (some ⟨P,0,none⟩))
 err:ErrTypeIn w
 ne:HNe hb P B R D bd bn
theorem EF.host {w w':World}{hb P B R D bd bn:Nat}{ob:Option Nat}{hv:Value}(h:EF w w' P B R D bd bn ob)(n:HNe hb P B R D bd bn)(hh:HostC w hb D hv):HostC w' hb D hv :=
 hh.at_ (h.block hb (Zaa hh.blk) n.p n.d n.md n.mn (Or.inl n.r) (Or.inl n.b))
theorem EF.err {w w':World}{P B R D bd bn:Nat}{ob:Option Nat}(h:EF w w' P B R D bd bn ob)(n:KNe P B R D bd bn)(he:ErrTypeIn w):ErrTypeIn w':=by
 have h1:=n.l.gl
 have h2:=n.p
 have h3:=n.l.r
 have hb:0<w.heap.size:=World.block_lt_of_cell? _ _ he
 exact (World.cell?_of_block (a:=⟨0,0,none⟩) (h.block 0 hb (by omega) (by omega) (by omega) (by omega) (Or.inl (by omega)) (Or.inl (by omega)))).trans he
theorem Zdd (w:World)(hb P B R D bd bn N:Nat)(ob:Option Nat)(g:LogD)(d:DkD)(e:EngD)(hv:Value)(c q:Int)(h:EngAt w P B R D bd bn ob g d e)(ws:WellS g d N e)(hh:HostC w hb D hv) :
  Calls Tryz.prog 28 #[.pointer (some ⟨hb,0,none⟩),Zbq (-1) (-1) c q] w fun x w'=>x= .returned (.tuple #[])/\EngAt w' P B R D bd bn ob g d e/\OneF w w' D:=by
 obtain⟨pa,pc,q1,q2⟩:=h.dk.c
 refine (before_any w hb D bd bn _ hv d.left d.full d.down (-1) (-1) c q hh q1).mono ?_
 rintro x w' ⟨rfl,h1,h2⟩
 have h3:=h.aim h2 q2 q1 h1
 have e1:({ d with left:= -1,full:= -1,down:=d.down }:DkD)=d:=by rw [ws.down];exact ws.aim
 rw [e1] at h3
 exact⟨rfl,h3,h2⟩
theorem Zda (w:World)(hb P B R D bd bn:Nat)(ob:Option Nat)(g:LogD)(d:DkD)(e:EngD)(hv:Value)(a b c q:Int)(h:EngAt w P B R D bd bn ob g d e)(hdn:d.down=false)(hh:HostC w hb D hv) :
  Calls Tryz.prog 30 #[.pointer (some ⟨hb,0,none⟩),Zbq a b c q] w fun x w'=>x= .returned (.tuple #[])/\EngAt w' P B R D bd bn ob g d.calm e/\OneF w w' D:=by
 obtain⟨pa,pc,q1,q2⟩:=h.dk.c
 refine (after_any w hb D bd bn _ hv d.left d.full a b c q hh (by rw [<-hdn];exact q1)).mono ?_
 rintro x w' ⟨rfl,h1,h2⟩
 exact⟨rfl,h.aim h2 q2 q1 h1,h2⟩
structure HostM (w w1:World)(hb P B R D bd bn fb:Nat)(ob0 ob:Option Nat)(g:LogD)(d:DkD)(e:EngD)(fa fo fk fp:Int):Prop where
 eng:EngAt w1 P B R D bd bn ob g d e
 host:HostC w1 hb D (.pointer (some ⟨P,0,none⟩))
 err:ErrTypeIn w1
 ef:EF w w1 P B R D bd bn ob0
 obt:ObTo w ob0 ob
 fb:w1.heap[fb]? =some (.cells #[.int .i64 fa, .int .i64 fo, .int .i64 fk, .int .i64 fp] 26 (0,0))
theorem HostM.cells {w w1:World}{hb P B R D bd bn fb:Nat}{ob0 ob:Option Nat}{g:LogD}{d:DkD}{e:EngD}{fa fo fk fp:Int}(h:HostM w w1 hb P B R D bd bn fb ob0 ob g d e fa fo fk fp):(((w1.cell? ⟨fb,0,none⟩=some (.int .i64 fa)/\w1.cell? ⟨fb,1,none⟩=some (.int .i64 fo))/\w1.cell? ⟨fb,2,none⟩=some (.int .i64 fk))/\w1.cell? ⟨fb,3,none⟩=some (.int .i64 fp))/\w1.cell? ⟨hb,1,none⟩=some (.pointer (some ⟨P,0,none⟩)):=by
 refine⟨⟨⟨⟨?_,?_⟩,?_⟩,?_⟩,h.host.cells.2⟩<;>(unfold World.cell?;rw [h.fb];rfl)
theorem HostM.new {w:World}{hb P B R D bd bn:Nat}{ob:Option Nat}{g:LogD}{d:DkD}{e:EngD}{N:Nat}(h:EngAt w P B R D bd bn ob g d e)(hh:HostC w hb D (.pointer (some ⟨P,0,none⟩)))(he:ErrTypeIn w)(fa fo fk fp:Int){w0:World}(hw:Below w.heap.size w w0):HostM w (w0.alloc (.cells #[.int .i64 fa, .int .i64 fo, .int .i64 fk, .int .i64 fp] 26)) hb P B R D bd bn w0.heap.size ob ob g d e fa fo fk fp:=by
 have hb1:Below w.heap.size w (w0.alloc (.cells #[.int .i64 fa, .int .i64 fo, .int .i64 fk, .int .i64 fp] 26)):=hw.alloc hw.size _
 exact⟨h.below hb1,hh.at_ (hb1.block hb (Zaa hh.blk)),he.keep hb1,EF.of_below P B R D bd bn ob hb1,ObTo.refl _ _,heap_alloc_new _ _⟩
theorem HostM.below {w w1 w2:World}{hb P B R D bd bn fb:Nat}{ob0 ob:Option Nat}{g:LogD}{d:DkD}{e:EngD}{fa fo fk fp:Int}(h:HostM w w1 hb P B R D bd bn fb ob0 ob g d e fa fo fk fp)(hb1:Below w1.heap.size w1 w2):HostM w w2 hb P B R D bd bn fb ob0 ob g d e fa fo fk fp :=
 ⟨h.eng.below hb1,h.host.at_ (hb1.block hb (Zaa h.host.blk)),h.err.keep hb1,h.ef.trans (EF.of_below P B R D bd bn ob0 hb1) (ObTo.refl _ _),h.obt,(hb1.block fb (Zaa h.fb)).trans h.fb⟩
theorem EngAt.far {w:World}{P B R D bd bn fb:Nat}{ob:Option Nat}{g:LogD}{d:DkD}{e:EngD}{cs:Array Value}{fr:Nat×Nat}(h:EngAt w P B R D bd bn ob g d e)(hf:w.heap[fb]? =some (.cells cs 26 fr)):fb≠D/\fb≠bd/\fb≠bn:=by
 obtain⟨pa,pc,dk,_⟩:=h.dk.c
 obtain⟨Dd,f3⟩:=h.dk.fd
 obtain⟨Dn,f4⟩:=h.dk.fn
 have hm:∀bm f Dx,FilAt w bm f Dx->fb≠bm:=fun bm f Dx hx e2=>by
  obtain⟨es,c,e3,_⟩:=hx.own
  rw [<-e2,hf] at e3;cases e3
 exact⟨Zak hf dk.blk (by decide),hm _ _ _ f3,hm _ _ _ f4⟩
theorem HostM.one {w w1 w2:World}{hb P B R D bd bn fb:Nat}{ob0 ob:Option Nat}{g:LogD}{d d':DkD}{e:EngD}{fa fo fk fp:Int}(h:HostM w w1 hb P B R D bd bn fb ob0 ob g d e fa fo fk fp)(n:HNe hb P B R D bd bn)(h2:EngAt w2 P B R D bd bn ob g d' e)(ho:OneF w1 w2 D):HostM w w2 hb P B R D bd bn fb ob0 ob g d' e fa fo fk fp:=by
 have hef:EF w1 w2 P B R D bd bn ob0:=(EF.of_below P B R D bd bn ob0 (Below.refl _ _)).oneD ho
 exact⟨h2,h.host.at_ (ho.block hb (Zaa h.host.blk) n.d),hef.err h.eng.ne h.err,h.ef.oneD ho,h.obt,(ho.block fb (Zaa h.fb) (h.eng.far h.fb).1).trans h.fb⟩
theorem HostM.call {w w1 w2:World}{hb P B R D bd bn fb:Nat}{ob0 ob ob':Option Nat}{g g':LogD}{d d':DkD}{e e':EngD}{fa fo fk fp:Int}(h:HostM w w1 hb P B R D bd bn fb ob0 ob g d e fa fo fk fp)(n:HNe hb P B R D bd bn)(h2:EngAt w2 P B R D bd bn ob' g' d' e')(ho:ObTo w1 ob ob')(hf:EF w1 w2 P B R D bd bn ob):HostM w w2 hb P B R D bd bn fb ob0 ob' g' d' e' fa fo fk fp:=by
 have hP:fb≠P:=fun x=>by
  have e2:=h.fb
  have c1:=h.eng.log.c1
  rw [<-x] at c1
  have c2:w1.cell? ⟨fb,1,none⟩=some (.int .i64 fo):=by unfold World.cell?;rw [e2];rfl
  have c0:=h.eng.log.c0
  rw [<-x] at c0
  have c3:w1.cell? ⟨fb,0,none⟩=some (.int .i64 fa):=by unfold World.cell?;rw [e2];rfl
  rw [c3] at c0
  exact absurd c0 (by simp [dkI])
 obtain⟨x1,x2,x3⟩:=h.eng.far h.fb
 refine⟨h2,hf.host n h.host,hf.err h.eng.ne h.err,h.ef.trans hf h.obt,fun k hk=> ?_,hf.keepT h.fb ⟨hP,x1,x2,x3⟩ (by decide)⟩
 rcases ho k hk with y | y
 ·exact h.obt k y
 ·exact Or.inr (Nat.le_trans h.ef.size y)
def resV (er:Int)(r:Option EngD):Int:=if r.isSome then 0 else er
theorem CallR.well {g g':LogD}{d d':DkD}{e e':EngD}{l:List Int}{er v:Int}{r:Option EngD}{N:Nat}(h:CallR g d e l er r v g' d' e')(ws:WellS g d N e)(hl:l.length<=900100)(hrec:∀e2,r=some e2->RecR e l e2):v=resV er r/\e'=r.getD e/\d'.down=false/\WellS g' d'.calm (N+1000000) (r.getD e):=by
 rcases h with⟨rfl,rfl,rfl,rfl,rfl⟩ | ⟨e2,rfl,rfl,rfl,rfl,rfl⟩
 ·exact⟨rfl,rfl,ws.down,ws.calm⟩
 ·obtain⟨h1,h2,h3⟩:=ws.add hl (hrec e2 rfl)
  exact⟨h1,by rw [if_pos h1];rfl,h2,h3⟩
set_option maxHeartbeats 8000000 in
theorem hdo4_any (w:World)(hb P B R D bd bn N:Nat)(ob:Option Nat)(e:EngD)(n:Nat)(h:HostAt w hb P B R D bd bn ob N e)(ok:EngOk e)(lim:EngLim e)(hN:N<=1000000000000)(hn:n<18446744073709551616) :
  Calls Tryz.prog 13 #[.pointer (some ⟨hb,0,none⟩), .int .i64 4, .int .u64 n,Zbq (-1) (-1) 0 0] w fun x w'=>∃ob',x= .returned (.int .i64 (resV 7 (e.complete n)))/\HostAt w' hb P B R D bd bn ob' (N+1000000) ((e.complete n).getD e)/\ObTo w ob ob'/\EF w w' P B R D bd bn ob:=by
 obtain⟨g,d,h1,ws⟩:=h.ex
 have hne:=h.ne
 have hlen:(recB 4 [] n).length<=900100:=by have:=(recB_len (op:=4) (data:=[]) hn).2;simp at this;omega
 obtain⟨fb,hfb⟩:∃fb,fb=w.heap.size:=⟨_,rfl⟩
 obtain⟨w1,hw1⟩:∃w1,w1=w.alloc (.cells #[.int .i64 (-1), .int .i64 (-1), .int .i64 0, .int .i64 0] 26):=⟨_,rfl⟩
 have HA:=Hid.mk (show HostM w w1 hb P B R D bd bn fb ob ob g d e (-1) (-1) 0 0 from by rw [hw1,hfb];exact HostM.new (N:=N) h1 h.host h.err _ _ _ _ (Below.refl _ _))
 have HBEF:=Hid.mk (show Calls Tryz.prog 28 #[.pointer (some ⟨hb,0,none⟩),Zbq (-1) (-1) 0 0] w1 fun x w'=>x= .returned (.tuple #[])/\HostM w w' hb P B R D bd bn fb ob ob g d e (-1) (-1) 0 0 from by
  refine (Zdd w1 hb P B R D bd bn N ob g d e _ 0 0 HA.out.eng ws HA.out.host).mono ?_
  rintro x w' ⟨rfl,q1,q2⟩
  exact⟨rfl,HA.out.one hne q1 q2⟩)
 have HENG:=Hid.mk (show ∀w2,HostM w w2 hb P B R D bd bn fb ob ob g d e (-1) (-1) 0 0->Calls Tryz.prog 35 #[.pointer (some ⟨P,0,none⟩), .int .u64 n] w2 fun x w'=>∃v g' d' ob',x= .returned (errV v)/\v=resV 7 (e.complete n)/\d'.down=false/\WellS g' d'.calm (N+1000000) ((e.complete n).getD e)/\HostM w w' hb P B R D bd bn fb ob ob' g' d' ((e.complete n).getD e) (-1) (-1) 0 0 from fun w2 hA=>by
  refine (ecomplete_any w2 P B R D bd bn N ob g d e n hA.eng ok lim (ws.fit hN) hn).mono ?_
  rintro x w' ⟨v,g',d',e',ob',rfl,q1,q2,q3,q4⟩
  obtain⟨r1,r2,r3,r4⟩:=q1.well ws hlen (fun e2 he=> .complete hn he)
  rw [r2] at q2
  exact⟨v,g',d',ob',rfl,r1,r3,r4,hA.call hne q2 q3 q4⟩)
 have HAFT:=Hid.mk (show ∀w3 g' d' ob',d'.down=false->HostM w w3 hb P B R D bd bn fb ob ob' g' d' ((e.complete n).getD e) (-1) (-1) 0 0->Calls Tryz.prog 30 #[.pointer (some ⟨hb,0,none⟩),Zbq (-1) (-1) 0 0] w3 fun x w'=>x= .returned (.tuple #[])/\HostM w w' hb P B R D bd bn fb ob ob' g' d'.calm ((e.complete n).getD e) (-1) (-1) 0 0 from fun w3 g' d' ob' hdn hA=>by
  refine (Zda w3 hb P B R D bd bn ob' g' d' _ _ _ _ 0 0 hA.eng hdn hA.host).mono ?_
  rintro x w' ⟨rfl,q1,q2⟩
  exact⟨rfl,hA.one hne q1 q2⟩)
 have HR:=Hid.mk (And.intro hw1 (And.intro hfb hne))
 have hc:=h.host.cells.2
 have hc1:w1.cell? ⟨hb,1,none⟩=some (.pointer (some ⟨P,0,none⟩)):=HA.out.host.cells.2
 obtain⟨rz,hrz⟩:∃rz,rz=resV 7 (e.complete n):=⟨_,rfl⟩
 unfold Zbq at HBEF HAFT ⊢
 rw [<-hrz] at HENG ⊢
 clear h ok lim hN hn h1 ws hne hlen hw1 hfb hrz
 go_enter Tryz.func13,Tryz.ntmps13
 go_upto_region 1 with fail
 rw [<-HR.out.1,<-HR.out.2.1]
 have a0:=HA.out.cells
 obtain⟨⟨⟨⟨z0,z1⟩,z2⟩,z3⟩,z4⟩:=a0
 go_wp2_with (first
  | (go_at_call 28;refine HBEF.out.mono ?_;rintro _ w2 ⟨rfl,hA⟩;have H2:=Hid.mk hA;obtain⟨⟨⟨⟨y0,y1⟩,y2⟩,y3⟩,y4⟩:=hA.cells;clear hA)
  | (go_at_call 35;refine (HENG.out _ H2.out).mono ?_;rintro _ w3 ⟨v,g',d',ob',rfl,rfl,hdn,hws,hA⟩;have H3:=Hid.mk (And.intro hA (And.intro hdn hws));obtain⟨⟨⟨⟨x0,x1⟩,x2⟩,x3⟩,x4⟩:=hA.cells;clear hA hdn hws)
  | (go_at_call 30;refine (HAFT.out _ _ _ _ H3.out.2.1 H3.out.1).mono ?_;rintro _ w4 ⟨rfl,hA⟩;have H4:=Hid.mk hA;clear hA)
  | (go_at_call 33;refine (Zcx _ w4 H4.out.err).mono ?_;rintro _ w5 ⟨rfl,hb5⟩;have H5:=Hid.mk (H4.out.below hb5);clear hb5))
 go_ret
 exact⟨ob',rfl,⟨⟨_,_,H5.out.eng,H3.out.2.2⟩,H5.out.host,H5.out.err,HR.out.2.2⟩,H5.out.obt,H5.out.ef⟩
set_option maxHeartbeats 8000000 in
theorem hdo5_any (w:World)(hb P B R D bd bn N:Nat)(ob:Option Nat)(e:EngD)(n:Nat)(h:HostAt w hb P B R D bd bn ob N e)(ok:EngOk e)(lim:EngLim e)(hN:N<=1000000000000)(hn:n<18446744073709551616) :
  Calls Tryz.prog 13 #[.pointer (some ⟨hb,0,none⟩), .int .i64 5, .int .u64 n,Zbq (-1) (-1) 0 0] w fun x w'=>∃ob',x= .returned (.int .i64 (resV 7 (e.fail n)))/\HostAt w' hb P B R D bd bn ob' (N+1000000) ((e.fail n).getD e)/\ObTo w ob ob'/\EF w w' P B R D bd bn ob:=by
 obtain⟨g,d,h1,ws⟩:=h.ex
 have hne:=h.ne
 have hlen:(recB 5 [] n).length<=900100:=by have:=(recB_len (op:=5) (data:=[]) hn).2;simp at this;omega
 obtain⟨fb,hfb⟩:∃fb,fb=w.heap.size:=⟨_,rfl⟩
 obtain⟨w1,hw1⟩:∃w1,w1=w.alloc (.cells #[.int .i64 (-1), .int .i64 (-1), .int .i64 0, .int .i64 0] 26):=⟨_,rfl⟩
 have HA:=Hid.mk (show HostM w w1 hb P B R D bd bn fb ob ob g d e (-1) (-1) 0 0 from by rw [hw1,hfb];exact HostM.new (N:=N) h1 h.host h.err _ _ _ _ (Below.refl _ _))
 have HBEF:=Hid.mk (show Calls Tryz.prog 28 #[.pointer (some ⟨hb,0,none⟩),Zbq (-1) (-1) 0 0] w1 fun x w'=>x= .returned (.tuple #[])/\HostM w w' hb P B R D bd bn fb ob ob g d e (-1) (-1) 0 0 from by
  refine (Zdd w1 hb P B R D bd bn N ob g d e _ 0 0 HA.out.eng ws HA.out.host).mono ?_
  rintro x w' ⟨rfl,q1,q2⟩
  exact⟨rfl,HA.out.one hne q1 q2⟩)
 have HENG:=Hid.mk (show ∀w2,HostM w w2 hb P B R D bd bn fb ob ob g d e (-1) (-1) 0 0->Calls Tryz.prog 36 #[.pointer (some ⟨P,0,none⟩), .int .u64 n] w2 fun x w'=>∃v g' d' ob',x= .returned (errV v)/\v=resV 7 (e.fail n)/\d'.down=false/\WellS g' d'.calm (N+1000000) ((e.fail n).getD e)/\HostM w w' hb P B R D bd bn fb ob ob' g' d' ((e.fail n).getD e) (-1) (-1) 0 0 from fun w2 hA=>by
  refine (efail_any w2 P B R D bd bn N ob g d e n hA.eng ok lim (ws.fit hN) hn).mono ?_
  rintro x w' ⟨v,g',d',e',ob',rfl,q1,q2,q3,q4⟩
  obtain⟨r1,r2,r3,r4⟩:=q1.well ws hlen (fun e2 he=> .fail hn he)
  rw [r2] at q2
  exact⟨v,g',d',ob',rfl,r1,r3,r4,hA.call hne q2 q3 q4⟩)
 have HAFT:=Hid.mk (show ∀w3 g' d' ob',d'.down=false->HostM w w3 hb P B R D bd bn fb ob ob' g' d' ((e.fail n).getD e) (-1) (-1) 0 0->Calls Tryz.prog 30 #[.pointer (some ⟨hb,0,none⟩),Zbq (-1) (-1) 0 0] w3 fun x w'=>x= .returned (.tuple #[])/\HostM w w' hb P B R D bd bn fb ob ob' g' d'.calm ((e.fail n).getD e) (-1) (-1) 0 0 from fun w3 g' d' ob' hdn hA=>by
  refine (Zda w3 hb P B R D bd bn ob' g' d' _ _ _ _ 0 0 hA.eng hdn hA.host).mono ?_
  rintro x w' ⟨rfl,q1,q2⟩
  exact⟨rfl,hA.one hne q1 q2⟩)
 have HR:=Hid.mk (And.intro hw1 (And.intro hfb hne))
 have hc:=h.host.cells.2
 have hc1:w1.cell? ⟨hb,1,none⟩=some (.pointer (some ⟨P,0,none⟩)):=HA.out.host.cells.2
 obtain⟨rz,hrz⟩:∃rz,rz=resV 7 (e.fail n):=⟨_,rfl⟩
 unfold Zbq at HBEF HAFT ⊢
 rw [<-hrz] at HENG ⊢
 clear h ok lim hN hn h1 ws hne hlen hw1 hfb hrz
 go_enter Tryz.func13,Tryz.ntmps13
 go_upto_region 1 with fail
 rw [<-HR.out.1,<-HR.out.2.1]
 have a0:=HA.out.cells
 obtain⟨⟨⟨⟨z0,z1⟩,z2⟩,z3⟩,z4⟩:=a0
 go_wp2_with (first
  | (go_at_call 28;refine HBEF.out.mono ?_;rintro _ w2 ⟨rfl,hA⟩;have H2:=Hid.mk hA;obtain⟨⟨⟨⟨y0,y1⟩,y2⟩,y3⟩,y4⟩:=hA.cells;clear hA)
  | (go_at_call 36;refine (HENG.out _ H2.out).mono ?_;rintro _ w3 ⟨v,g',d',ob',rfl,rfl,hdn,hws,hA⟩;have H3:=Hid.mk (And.intro hA (And.intro hdn hws));obtain⟨⟨⟨⟨x0,x1⟩,x2⟩,x3⟩,x4⟩:=hA.cells;clear hA hdn hws)
  | (go_at_call 30;refine (HAFT.out _ _ _ _ H3.out.2.1 H3.out.1).mono ?_;rintro _ w4 ⟨rfl,hA⟩;have H4:=Hid.mk hA;clear hA)
  | (go_at_call 33;refine (Zcx _ w4 H4.out.err).mono ?_;rintro _ w5 ⟨rfl,hb5⟩;have H5:=Hid.mk (H4.out.below hb5);clear hb5))
 go_ret
 exact⟨ob',rfl,⟨⟨_,_,H5.out.eng,H3.out.2.2⟩,H5.out.host,H5.out.err,HR.out.2.2⟩,H5.out.obt,H5.out.ef⟩
set_option maxHeartbeats 8000000 in
theorem hdo7_any (w:World)(hb P B R D bd bn N:Nat)(ob:Option Nat)(e:EngD)(n:Nat)(h:HostAt w hb P B R D bd bn ob N e)(ok:EngOk e)(lim:EngLim e)(hN:N<=1000000000000)(hn:n<18446744073709551616) :
  Calls Tryz.prog 13 #[.pointer (some ⟨hb,0,none⟩), .int .i64 7, .int .u64 n,Zbq (-1) (-1) 0 0] w fun x w'=>∃ob' e2,x= .returned (.int .i64 0)/\TickR e n e2/\HostAt w' hb P B R D bd bn ob' (N+1000000) e2/\ObTo w ob ob'/\EF w w' P B R D bd bn ob:=by
 obtain⟨g,d,h1,ws⟩:=h.ex
 have hne:=h.ne
 have hlen:(recB 7 [] n).length<=900100:=by have:=(recB_len (op:=7) (data:=[]) hn).2;simp at this;omega
 obtain⟨fb,hfb⟩:∃fb,fb=w.heap.size:=⟨_,rfl⟩
 obtain⟨w1,hw1⟩:∃w1,w1=w.alloc (.cells #[.int .i64 (-1), .int .i64 (-1), .int .i64 0, .int .i64 0] 26):=⟨_,rfl⟩
 have HA:=Hid.mk (show HostM w w1 hb P B R D bd bn fb ob ob g d e (-1) (-1) 0 0 from by rw [hw1,hfb];exact HostM.new (N:=N) h1 h.host h.err _ _ _ _ (Below.refl _ _))
 have HBEF:=Hid.mk (show Calls Tryz.prog 28 #[.pointer (some ⟨hb,0,none⟩),Zbq (-1) (-1) 0 0] w1 fun x w'=>x= .returned (.tuple #[])/\HostM w w' hb P B R D bd bn fb ob ob g d e (-1) (-1) 0 0 from by
  refine (Zdd w1 hb P B R D bd bn N ob g d e _ 0 0 HA.out.eng ws HA.out.host).mono ?_
  rintro x w' ⟨rfl,q1,q2⟩
  exact⟨rfl,HA.out.one hne q1 q2⟩)
 have HENG:=Hid.mk (show ∀w2,HostM w w2 hb P B R D bd bn fb ob ob g d e (-1) (-1) 0 0->Calls Tryz.prog 38 #[.pointer (some ⟨P,0,none⟩), .int .u64 n] w2 fun x w'=>∃v g' d' ob' e2,x= .returned (errV v)/\v=0/\TickR e n e2/\d'.down=false/\WellS g' d'.calm (N+1000000) e2/\HostM w w' hb P B R D bd bn fb ob ob' g' d' e2 (-1) (-1) 0 0 from fun w2 hA=>by
  refine (etick_any w2 P B R D bd bn N ob g d e n hA.eng ok lim (ws.fit hN) hn).mono ?_
  rintro x w' ⟨v,g',d',e',ob',rfl,⟨e2,t,rfl,rfl,rfl,rfl⟩,q2,q3,q4⟩
  have r1:=ws.add0 (l:=recB 7 [] n)
  obtain⟨_,r3,r4⟩:=ws.add hlen (.tick hn (t r1))
  rw [if_pos r1] at q2
  exact⟨_,_,_,ob',e2,rfl,r1,t r1,r3,r4,hA.call hne q2 q3 q4⟩)
 have HAFT:=Hid.mk (show ∀w3 g' d' ob' (e2:EngD),d'.down=false->HostM w w3 hb P B R D bd bn fb ob ob' g' d' e2 (-1) (-1) 0 0->Calls Tryz.prog 30 #[.pointer (some ⟨hb,0,none⟩),Zbq (-1) (-1) 0 0] w3 fun x w'=>x= .returned (.tuple #[])/\HostM w w' hb P B R D bd bn fb ob ob' g' d'.calm e2 (-1) (-1) 0 0 from fun w3 g' d' ob' e2 hdn hA=>by
  refine (Zda w3 hb P B R D bd bn ob' g' d' _ _ _ _ 0 0 hA.eng hdn hA.host).mono ?_
  rintro x w' ⟨rfl,q1,q2⟩
  exact⟨rfl,hA.one hne q1 q2⟩)
 have HR:=Hid.mk (And.intro hw1 (And.intro hfb hne))
 have hc:=h.host.cells.2
 have hc1:w1.cell? ⟨hb,1,none⟩=some (.pointer (some ⟨P,0,none⟩)):=HA.out.host.cells.2
 unfold Zbq at HBEF HAFT ⊢
 clear h ok lim hN hn h1 ws hne hlen hw1 hfb
 go_enter Tryz.func13,Tryz.ntmps13
 go_upto_region 1 with fail
 rw [<-HR.out.1,<-HR.out.2.1]
 have a0:=HA.out.cells
 obtain⟨⟨⟨⟨z0,z1⟩,z2⟩,z3⟩,z4⟩:=a0
 go_wp2_with (first
  | (go_at_call 28;refine HBEF.out.mono ?_;rintro _ w2 ⟨rfl,hA⟩;have H2:=Hid.mk hA;obtain⟨⟨⟨⟨y0,y1⟩,y2⟩,y3⟩,y4⟩:=hA.cells;clear hA)
  | (go_at_call 38;refine (HENG.out _ H2.out).mono ?_;rintro _ w3 ⟨v,g',d',ob',e2,rfl,rfl,ht,hdn,hws,hA⟩;have H3:=Hid.mk (And.intro hA (And.intro hdn hws));have HTI:=Hid.mk ht;obtain⟨⟨⟨⟨x0,x1⟩,x2⟩,x3⟩,x4⟩:=hA.cells;clear hA hdn hws ht)
  | (go_at_call 30;refine (HAFT.out _ _ _ _ _ H3.out.2.1 H3.out.1).mono ?_;rintro _ w4 ⟨rfl,hA⟩;have H4:=Hid.mk hA;clear hA)
  | (go_at_call 33;refine (Zcx _ w4 H4.out.err).mono ?_;rintro _ w5 ⟨rfl,hb5⟩;have H5:=Hid.mk (H4.out.below hb5);clear hb5))
 go_ret
 exact⟨ob',e2,rfl,HTI.out,⟨⟨_,_,H5.out.eng,H3.out.2.2⟩,H5.out.host,H5.out.err,HR.out.2.2⟩,H5.out.obt,H5.out.ef⟩
end Go.Proofs.YtgdcjccbdmcebabGreatDoor
