import Derived.Test.YtgdcjccbdmcebabGreatDoorM42
import Derived.Test.YtgdcjccbdmcebabGreatDoorM45
set_option linter.unusedSimpArgs false
set_option linter.unusedVariables false
namespace Go.Proofs.YtgdcjccbdmcebabGreatDoor
open Go.RowKit
set_option maxRecDepth 100000
attribute [local go_sem ↓] Go.wp_at_zero Go.wp_at_succ
structure KNe (P B R D bd bn:Nat):Prop where
 l:LNe P R D bd bn
 p:P<B
 d:D<B
 md:bd<B
 mn:bn<B
theorem NF.of_lf {w w':World}{P B R D bd bn:Nat}(h:LF w w' P R D bd bn)(hn:KNe P B R D bd bn):NF w w' P B:=by
 refine⟨h.size,h.off,h.froz,fun k cs t fr hk e ht=>h.block k (Zaa e) (by have:=hn.p;omega) (by have:=hn.d;omega) (by have:=hn.md;omega) (by have:=hn.mn;omega) (Or.inr (fun cs' fr' e'=> ?_)),fun k es c hk e=>h.block k (Zaa e) (by have:=hn.p;omega) (by have:=hn.d;omega) (by have:=hn.md;omega) (by have:=hn.mn;omega) (Or.inr (fun cs' fr' e'=>by rw [e] at e';cases e'))⟩
 rw [e] at e'
 simp only [Option.some.injEq,Obj.cells.injEq] at e'
 have h1:=e'.2.1
 rw [h1] at ht
 unfold KTy at ht
 revert ht
 decide
structure LOk (w:World)(P R D bd bn M:Nat)(g:LogD)(d:DkD):Prop where
 log:LogAt w P D g
 dk:DkAt w R D bd bn d
 pl:P<w.heap.size
 few:d.pend.length<8
 at_:g.at_<3
 short:g.short<=100000
 nm:Zbi w
 s1:SzF d.dur M
 s2:SzF d.now M
 s3:∀o∈d.pend,o.data.length<=M
 m1:M<=1000000000000
 m2:2000000<=M
theorem LOk.below {w w':World}{P R D bd bn M:Nat}{g:LogD}{d:DkD}(h:LOk w P R D bd bn M g d)(hb:Below w.heap.size w w'):LOk w' P R D bd bn M g d :=
 ⟨h.log.at_ (hb.block P h.pl),h.dk.below hb,Nat.lt_of_lt_of_le h.pl hb.size,h.few,h.at_,h.short,fun i hi=>cell_later hb (h.nm i hi),h.s1,h.s2,h.s3,h.m1,h.m2⟩
def KpL (w:World)(P R D bd bn:Nat)(g:LogD)(d:DkD)(l:List Int)(v:Int)(w':World):Prop:=v=addE g d l/\LogAt w' P D (addG g d l)/\DkAt w' R D bd bn (addD g d l)/\LF w w' P R D bd bn
theorem recB_byte {op:Int}{data:List Int}{n:Nat}(h1:0<=op/\op<256)(h2:AllB data):AllB (recB op data n):=by
 unfold recB
 intro x hx
 rw [List.cons_append] at hx
 rcases List.mem_cons.1 hx with rfl | hx
 ·exact h1
 ·rcases List.mem_append.1 hx with hx | hx
  ·exact h2 x hx
  ·exact leB_byte n x hx
theorem recB_len {op:Int}{data:List Int}{n:Nat}(hn:n<18446744073709551616):1<=(recB op data n).length/\(recB op data n).length<=data.length+9:=by
 have:=leB_len 8 n hn
 unfold recB
 rw [List.cons_append,List.length_cons,List.length_append]
 omega
set_option maxHeartbeats 8000000 in
theorem keeps1_any (w:World)(P R D bd bn M xb cb:Nat)(g:LogD)(d:DkD)(op:Int)(N:Nat)(data:List Int)(h:LOk w P R D bd bn M g d)(hn:LNe P R D bd bn)(hop:0<=op/\op<256)(hN:N<18446744073709551616)(hd:AllB data)(hdl:data.length<=900000)(hx:w.heap[xb]? =some (.cells #[.pointer (some ⟨P,0,none⟩)] 81 (0,0)))(hc:w.heap[cb]? =some (.cells #[.int .i64 op, .int .u64 N, .string (Zcd data)] 119 (0,0))) :
  Calls Tryz.prog 90 #[.pointer (some ⟨xb,0,none⟩), .pointer (some ⟨cb,0,none⟩)] w fun x w'=>∃v,x= .returned (errV v)/\KpL w P R D bd bn g d (recB op data N) v w':=by
 obtain⟨sd,hsd⟩:∃sd,sd=Zcd data:=⟨_,rfl⟩
 rw [<-hsd] at hc
 obtain⟨l,hl⟩:∃l,l=recB op data N:=⟨_,rfl⟩
 obtain⟨n,hln⟩:∃n,n=l.length:=⟨_,rfl⟩
 have HREC:=Hid.mk (show ∀wx,Calls Tryz.prog 92 #[.agg #[.int .i64 op, .int .u64 N, .string sd]] wx fun x w'=>∃g c,x= .returned (.slice (some ⟨g,0,none⟩) n c)/\ByteRow wx.heap.size w' (.slice (some ⟨g,0,none⟩) n c) l/\Below wx.heap.size wx w' from fun wx=>by
  have:=record_any wx op N data hop hN hd (by omega)
  rw [<-hl,<-hln,<-hsd] at this
  exact this)
 have HADD:=Hid.mk (show ∀wx,Below w.heap.size w wx->∀B0 rg rc,ByteRow B0 wx (.slice (some ⟨rg,0,none⟩) n rc) l->Calls Tryz.prog 91 #[.pointer (some ⟨P,0,none⟩), .slice (some ⟨rg,0,none⟩) n rc] wx fun x w'=>x= .returned (errV (addE g d l))/\KpL w P R D bd bn g d l (addE g d l) w'/\w'.heap[xb]? =w.heap[xb]? /\w'.heap[cb]? =w.heap[cb]? from fun wx hb B0 rg rc hr=>by
  have hx0:=hx
  have hx:=h.below hb
  have hlen:=recB_len (op:=op) (data:=data) hN
  rw [<-hl] at hlen
  rw [hln] at hr ⊢
  refine (ladd_any wx P R D bd bn B0 rg rc M g d l hx.log hx.dk hn hx.pl hx.few hx.at_ hx.short hx.nm hr (by rw [hl];exact recB_byte hop hd) hlen.1 (by omega) hx.s1 hx.s2 hx.s3 hx.m1 hx.m2).mono ?_
  rintro x w' ⟨rfl,q1,q2,q3⟩
  have hf:=(LF.of_below R D bd bn hb h.pl).trans q3
  obtain⟨pa,pc,dk,_⟩:=h.dk.c
  obtain⟨Dd,f3⟩:=h.dk.fd
  obtain⟨Dn,f4⟩:=h.dk.fn
  have stay:∀(k:Nat) (cs:Array Value) (t:TypeId) (fr:Nat×Nat),w.heap[k]? =some (Obj.cells cs t fr)->k≠P->t≠101->t≠147->w'.heap[k]? =w.heap[k]? :=fun k cs t fr e hkP t1 t3=>by
   have hm:∀bm f Dx,FilAt w bm f Dx->k≠bm:=fun bm f Dx hx e2=>by
    obtain⟨es,c,e3,_⟩:=hx.own
    rw [<-e2,e] at e3;cases e3
   exact hf.block k (Zaa e) hkP (Zak e dk.blk t1) (hm _ _ _ f3) (hm _ _ _ f4) (Or.inr (fun cs3 fr3 e3=>by rw [e] at e3;simp only [Option.some.injEq,Obj.cells.injEq] at e3;exact t3 e3.2.1))
  exact⟨rfl,⟨rfl,q1,q2,hf⟩,stay xb _ _ _ hx0 (fun e=>by
   have c1:=h.log.c1
   rw [<-e] at c1
   have:=Zam hx0 1
   rw [this] at c1
   simp at c1) (by decide) (by decide),stay cb _ _ _ hc (fun e=>by
   have c1:=h.log.c3
   rw [<-e] at c1
   have:=Zam hc 3
   rw [this] at c1
   simp at c1) (by decide) (by decide)⟩)
 have u0:=Zam hx 0
 have c0:=Zam hc 0
 have c1:=Zam hc 1
 have c2:=Zam hc 2
 have HBX:=Hid.mk (And.intro hx hc)
 obtain⟨er,her⟩:∃er,er=addE g d l:=⟨_,rfl⟩
 rw [<-her] at HADD
 have hform:=errV_form er
 obtain⟨ve,hve⟩:∃ve,ve=errV er:=⟨_,rfl⟩
 rw [<-hve] at HADD hform
 rw [<-hl]
 have HV:=Hid.mk (And.intro hve her)
 clear h hn hop hN hd hdl hx hc hsd hl hln her hve
 rcases hform with rfl | ⟨ty,xv,rfl⟩
 all_goals
  go_enter Tryz.func90,Tryz.ntmps90
  go_upto_region 3 with fail
  go_region_held3 (fun w'=>((w'.cell? ⟨xb,0,none⟩=some (.pointer (some ⟨P,0,none⟩))/\w'.cell? ⟨cb,0,none⟩=some (.int .i64 op))/\w'.cell? ⟨cb,1,none⟩=some (.int .u64 N))/\w'.cell? ⟨cb,2,none⟩=some (.string sd)) (go_keep) ((first
   | (go_at_call 92;refine (HREC.out _).mono ?_;rintro _ w2 ⟨rg,rc,rfl,hr2,hb2⟩;have hb2':Below w.heap.size w w2:=(by first | exact hb2 | exact ((Below.refl _ _).drew).trans' hb2);have y0:=cell_later hb2' u0;have y1:=cell_later hb2' c0;have y2:=cell_later hb2' c1;have y3:=cell_later hb2' c2;have HR2:=Hid.mk (And.intro hr2 hb2');clear hr2 hb2 hb2')
   | (go_at_call 91;refine (HADD.out _ HR2.out.2 _ _ _ HR2.out.1).mono ?_;rintro _ w3 ⟨rfl,hk,hx3,hc3⟩;have HK:=Hid.mk hk;have z0:=(World.cell?_of_block (a:=⟨xb,0,none⟩) hx3).trans u0;have z1:=(World.cell?_of_block (a:=⟨cb,0,none⟩) hc3).trans c0;have z2:=(World.cell?_of_block (a:=⟨cb,1,none⟩) hc3).trans c1;have z3:=(World.cell?_of_block (a:=⟨cb,2,none⟩) hc3).trans c2;clear hk hx3 hc3)))
  all_goals
   clear u0 c0 c1 c2 z0 z1 z2 z3
   go_wp2_with fail
   go_ret
   exact⟨er,by rw [<-HV.out.1];rfl,HK.out⟩
theorem keepC_of {w:World}{P B R D bd bn M xb cb:Nat}{g:LogD}{d:DkD}{op:Int}{N:Nat}{data:List Int}(h:LOk w P R D bd bn M g d)(hn:KNe P B R D bd bn)(hop:0<=op/\op<256)(hN:N<18446744073709551616)(hd:AllB data)(hdl:data.length<=900000)(hx:w.heap[xb]? =some (.cells #[.pointer (some ⟨P,0,none⟩)] 81 (0,0)))(hc:w.heap[cb]? =some (.cells #[.int .i64 op, .int .u64 N, .string (Zcd data)] 119 (0,0))) :
  KeepC w P B 90 #[.pointer (some ⟨xb,0,none⟩), .pointer (some ⟨cb,0,none⟩)] (KpL w P R D bd bn g d (recB op data N)):=by
 refine⟨fun wx=>by kernel_rfl,fun wx hb=> ?_⟩
 have hx1:=(hb.block xb (Zaa hx)).trans hx
 have hc1:=(hb.block cb (Zaa hc)).trans hc
 refine (keeps1_any wx P R D bd bn M xb cb g d op N data (h.below hb) hn.l hop hN hd hdl hx1 hc1).mono ?_
 rintro x w' ⟨v,rfl,q1,q2,q3,q4⟩
 exact⟨v,rfl,NF.of_lf q4 hn,q1,q2,q3,(LF.of_below R D bd bn hb h.pl).trans q4⟩
structure EF (w w':World)(P B R D bd bn:Nat)(ob:Option Nat):Prop where
 os:w'.os=w.os
 tape:w'.tape=w.tape
 output:w'.output=w.output
 size:w.heap.size<=w'.heap.size
 block:∀k,k<w.heap.size->k≠P->k≠D->k≠bd->k≠bn->(k<R\/∀cs fr,w.heap[k]? ≠some (.cells cs 147 fr))->(k<B\/∃cs t fr,w.heap[k]? =some (.cells cs t fr)/\t≠183/\t≠180/\t≠173/\t≠178/\t≠189/\(t=39->some k≠ob))->w'.heap[k]? =w.heap[k]?
theorem EF.of_below {w w':World}(P B R D bd bn:Nat)(ob:Option Nat)(h:Below w.heap.size w w'):EF w w' P B R D bd bn ob:=⟨h.os,h.tape,h.output,h.size,fun k hk _ _ _ _ _ _=>h.block k hk⟩
theorem EF.of_lf {w w':World}{P R D bd bn:Nat}(B:Nat)(ob:Option Nat)(h:LF w w' P R D bd bn):EF w w' P B R D bd bn ob:=⟨h.os,h.tape,h.output,h.size,fun k hk h0 h1 h2 h3 h4 _=>h.block k hk h0 h1 h2 h3 h4⟩
theorem EF.of_kf {w w':World}{P B:Nat}{ob:Option Nat}(R D bd bn:Nat)(h:KF w w' P B ob):EF w w' P B R D bd bn ob:=⟨h.os,h.tape,h.output,h.size,fun k hk h0 _ _ _ _ h5=>h.block k hk h0 h5⟩
theorem EF.trans {x y z:World}{P B R D bd bn:Nat}{ob ob':Option Nat}(h:EF x y P B R D bd bn ob)(g:EF y z P B R D bd bn ob')(ho:ObTo x ob ob'):EF x z P B R D bd bn ob:=by
 refine⟨g.os.trans h.os,g.tape.trans h.tape,g.output.trans h.output,Nat.le_trans h.size g.size,fun k hk h0 h1 h2 h3 h4 h5=> ?_⟩
 have e:=h.block k hk h0 h1 h2 h3 h4 h5
 refine (g.block k (Nat.lt_of_lt_of_le hk h.size) h0 h1 h2 h3 (h4.imp id (fun h4 cs fr=>by rw [e];exact h4 cs fr)) ?_).trans e
 rcases h5 with h5 | ⟨cs,t,fr,q1,q2,q3,q4,q5,q6,q7⟩
 ·exact Or.inl h5
 ·refine Or.inr ⟨cs,t,fr,e.trans q1,q2,q3,q4,q5,q6,fun ht hk'=> ?_⟩
  rcases ho k hk'.symm with h8 | h8
  ·exact q7 ht h8.symm
  ·omega
structure EngAt (w:World)(P B R D bd bn:Nat)(ob:Option Nat)(g:LogD)(d:DkD)(e:EngD):Prop where
 kp:KpAt w P B ob e
 log:LogAt w P D g
 dk:DkAt w R D bd bn d
 nm:Zbi w
 tab:TabIn w
 ne:KNe P B R D bd bn
theorem EngAt.pl {w:World}{P B R D bd bn:Nat}{ob:Option Nat}{g:LogD}{d:DkD}{e:EngD}(h:EngAt w P B R D bd bn ob g d e):P<B/\B<=w.heap.size:=by
 obtain⟨rs,l,hx,_⟩:=h.kp
 obtain⟨_,_,hM,_,_⟩:=hx.ex
 exact hM.pb
theorem EngAt.below {w w':World}{P B R D bd bn:Nat}{ob:Option Nat}{g:LogD}{d:DkD}{e:EngD}(h:EngAt w P B R D bd bn ob g d e)(hb:Below w.heap.size w w'):EngAt w' P B R D bd bn ob g d e:=by
 obtain⟨h1,h2⟩:=h.pl
 have hgl:=h.ne.l.gl
 refine⟨h.kp.below hb,h.log.at_ (hb.block P (by omega)),h.dk.below hb,fun i hi=>cell_later hb (h.nm i hi),h.tab.at_ (hb.block _ (by omega)),h.ne⟩
structure Fit (g:LogD)(d:DkD)(M:Nat):Prop where
 few:d.pend.length<8
 at_:g.at_<3
 short:g.short<=100000
 s1:SzF d.dur M
 s2:SzF d.now M
 s3:∀o∈d.pend,o.data.length<=M
 m1:M<=1000000000000
 m2:2000000<=M
theorem EngAt.ok {w:World}{P B R D bd bn M:Nat}{ob:Option Nat}{g:LogD}{d:DkD}{e:EngD}(h:EngAt w P B R D bd bn ob g d e)(f:Fit g d M):LOk w P R D bd bn M g d :=
 ⟨h.log,h.dk,by have:=h.pl;omega,f.few,f.at_,f.short,h.nm,f.s1,f.s2,f.s3,f.m1,f.m2⟩
theorem log_kf {w w':World}{P B R D bd bn:Nat}{ob:Option Nat}{g:LogD}{d:DkD}(hf:KF w w' P B ob)(hn:KNe P B R D bd bn)(hP:P<w.heap.size)(hl:LogAt w P D g)(hd:DkAt w R D bd bn d)(hnm:Zbi w)(ht:TabIn w)(hB:B<=w.heap.size):LogAt w' P D g/\DkAt w' R D bd bn d/\Zbi w'/\TabIn w':=by
 have hgl:=hn.l.gl
 have hp:=hn.p
 refine⟨⟨(hf.off hP 0 (by omega)).trans hl.c0,(hf.off hP 1 (by omega)).trans hl.c1,(hf.off hP 2 (by omega)).trans hl.c2,(hf.off hP 3 (by omega)).trans hl.c3,fun o=>(hf.froz hP o).trans (hl.fz o)⟩,?_,fun i hi=> ?_,ht.at_ (hf.block _ (by omega) (by omega) (Or.inl (by omega)))⟩
 ·have hsz:∀k ob',w.heap[k]? =some ob'->k<w.heap.size:=fun k ob' e=>Zaa e
  obtain⟨pa,pc,dk,_⟩:=hd.c
  obtain⟨Dd,f3⟩:=hd.fd
  obtain⟨Dn,f4⟩:=hd.fn
  obtain⟨pa,pc,q1,q2⟩:=hd.c
  have stay:∀(k:Nat) (cs:Array Value) (t:TypeId) (fr:Nat×Nat),w.heap[k]? =some (Obj.cells cs t fr)->k≠P->(t=9\/t=147)->w'.heap[k]? =w.heap[k]? :=fun k cs t fr e hkP ht=>hf.block k (Zaa e) hkP (Or.inr ⟨cs,t,fr,e,by rcases ht with rfl | rfl<;>decide,by rcases ht with rfl | rfl<;>decide,by rcases ht with rfl | rfl<;>decide,by rcases ht with rfl | rfl<;>decide,by rcases ht with rfl | rfl<;>decide,fun x=>by rcases ht with rfl | rfl<;>exact absurd x (by decide)⟩)
  have hs:∀k s,StrAt w k s->w'.heap[k]? =w.heap[k]? :=fun k s e=>stay k _ _ _ e (fun y=>by
   have c1:=hl.c1
   rw [<-y] at c1
   have:=Zam e 1
   rw [this] at c1
   simp at c1) (Or.inl rfl)
  refine⟨Nat.le_trans hd.rs hf.size,⟨pa,pc,q1.at_ (hf.block D (Zaa q1.blk) (Ne.symm hn.l.d) (Or.inl hn.d)),q2.1,?_⟩,⟨Dd,f3.keepS (hf.block bd f3.lt (Ne.symm hn.l.md) (Or.inl hn.md)) hs⟩,⟨Dn,f4.keepS (hf.block bn f4.lt (Ne.symm hn.l.mn) (Or.inl hn.mn)) hs⟩,hd.ne,hd.few,hd.ops⟩
  rcases q2.2 with x | ⟨g,cap,cur,x,hg,hh,r⟩
  ·exact Or.inl x
  ·exact Or.inr ⟨g,cap,cur,x,hg,(stay g _ _ _ hh (by have:=hn.l.r;omega) (Or.inr rfl)).trans hh,r⟩
 ·have e:=hf.block 1 (by omega) (by omega) (Or.inl (by omega))
  exact (World.cell?_of_block (a:=⟨1,i,none⟩) e).trans (hnm i hi)
theorem EngAt.kept {w w0 w':World}{P B R D bd bn:Nat}{ob:Option Nat}{g:LogD}{d:DkD}{e e2:EngD}{l:List Int}{v:Int}(h:EngAt w P B R D bd bn ob g d e)(hb:Below w.heap.size w w0)(hk:KOut P B ob (KpL w0 P R D bd bn g d l) e e2 v w') :
  v=addE g d l/\(∃ob',EngAt w' P B R D bd bn ob' (addG g d l) (addD g d l) (if v=0 then e2 else e)/\ObTo w ob ob')/\EF w w' P B R D bd bn ob:=by
 obtain⟨w1,ob',⟨k1,k2,k3,k4⟩,h1,h2,h3⟩:=hk
 have h0:=h.below hb
 obtain⟨p1,p2⟩:=h0.pl
 have hgl:=h.ne.l.gl
 have hr:=h.ne.l.r
 have hnm1:Zbi w1:=fun i hi=>by
  have e:=k4.block 1 (by omega) (by omega) (by omega) (by omega) (by omega) (Or.inl (by omega))
  exact (World.cell?_of_block (a:=⟨1,i,none⟩) e).trans (h0.nm i hi)
 have htab1:TabIn w1:=h0.tab.at_ (k4.block 2 (by omega) (by omega) (by omega) (by omega) (by omega) (Or.inl (by omega)))
 have hsz:=k4.size
 obtain⟨q1,q2,q3,q4⟩:=log_kf h2 h.ne (by omega) k2 k3 hnm1 htab1 (by omega)
 have hof:ObTo w ob ob':=fun k hk=>(h3 k hk).imp id (fun x=>by have:=hb.size;omega)
 exact⟨k1,⟨ob',⟨h1,q1,q2,q3,q4,h.ne⟩,hof⟩,((EF.of_below P B R D bd bn ob hb).trans (EF.of_lf B ob k4) (ObTo.refl _ _)).trans (EF.of_kf R D bd bn h2) (ObTo.refl _ _)⟩
set_option maxHeartbeats 1000000 in
theorem Zb7 (w:World)(P:Nat):Calls Tryz.prog 52 #[.pointer (some ⟨P,0,none⟩)] w fun x w'=>x= .returned (.pointer (some ⟨P,4,none⟩))/\w'=w:=by
 go_enter Tryz.func52,Tryz.ntmps52
 go_wp2_with fail
 go_ret
 exact⟨rfl,rfl⟩
set_option maxHeartbeats 1000000 in
theorem Zdx (w:World)(P:Nat)(op:Int)(N:Nat)(s:ByteArray):Calls Tryz.prog 54 #[.pointer (some ⟨P,0,none⟩), .agg #[.int .i64 op, .int .u64 N, .string s]] w fun x w'=>∃xb cb,x= .returned (.func (.func 90) #[] #[.pointer (some ⟨xb,0,none⟩), .pointer (some ⟨cb,0,none⟩)])/\w'.heap[xb]? =some (.cells #[.pointer (some ⟨P,0,none⟩)] 81 (0,0))/\w'.heap[cb]? =some (.cells #[.int .i64 op, .int .u64 N, .string s] 119 (0,0))/\Below w.heap.size w w':=by
 have hmf:∀(fn:Fn) (first cap:Array Value) (w:World),(Instr.makeFunc fn first cap).run Tryz.prog w= .ok (.func fn first cap) w:=fun _ _ _ _=>rfl
 go_enter Tryz.func54,Tryz.ntmps54
 go_wp2_with fail
 go_ret
 refine⟨_,_,rfl,?_,?_,((Below.refl _ _).alloc (Nat.le_refl _) _).alloc (by simp) _⟩
 ·rw [Zaj _ _ _ (by simp)];exact heap_alloc_new w _
 ·exact Zbd _ _ _ _ (by simp)
def CallR (g:LogD)(d:DkD)(e:EngD)(l:List Int)(er:Int)(r:Option EngD)(v:Int)(g':LogD)(d':DkD)(e':EngD):Prop:=(r=none/\v=er/\g'=g/\d'=d/\e'=e)\/∃e2,r=some e2/\v=addE g d l/\g'=addG g d l/\d'=addD g d l/\e'=if v=0 then e2 else e
structure EngLim (e:EngD):Prop where
 lr:e.lastRun<18446744073709551615
 lt:e.lastTok<18446744073709551615
 s0:0<=e.seed
 s1:e.seed<18446744073709551616
theorem lt_bump {a:Int}(h:a<18446744073709551615):a<18446744073709551616:=Int.lt_trans h (by decide)
theorem strOf_nil:(⟨#[]⟩:ByteArray)=Zcd []:=rfl
theorem allB_nil:AllB []:=fun _ h=>by cases h
set_option maxHeartbeats 4000000 in
theorem ecomplete_any (w:World)(P B R D bd bn M:Nat)(ob:Option Nat)(g:LogD)(d:DkD)(e:EngD)(N:Nat)(h:EngAt w P B R D bd bn ob g d e)(ok:EngOk e)(lim:EngLim e)(f:Fit g d M)(hN:N<18446744073709551616) :
  Calls Tryz.prog 35 #[.pointer (some ⟨P,0,none⟩), .int .u64 N] w fun x w'=>∃v g' d' e' ob',x= .returned (errV v)/\CallR g d e (recB 4 [] N) 7 (e.complete N) v g' d' e'/\EngAt w' P B R D bd bn ob' g' d' e'/\ObTo w ob ob'/\EF w w' P B R D bd bn ob:=by
 have HK:=Hid.mk (show ∀w2 xb cb,Below w.heap.size w w2->w2.heap[xb]? =some (.cells #[.pointer (some ⟨P,0,none⟩)] 81 (0,0))->w2.heap[cb]? =some (.cells #[.int .i64 4, .int .u64 N, .string ⟨#[]⟩] 119 (0,0))->Calls Tryz.prog 58 #[.pointer (some ⟨P,4,none⟩), .int .u64 N, .func (.func 90) #[] #[.pointer (some ⟨xb,0,none⟩), .pointer (some ⟨cb,0,none⟩)]] w2 fun x w'=>∃v g' d' e' ob',x= .returned (errV v)/\CallR g d e (recB 4 [] N) 7 (e.complete N) v g' d' e'/\EngAt w' P B R D bd bn ob' g' d' e'/\ObTo w ob ob'/\EF w w' P B R D bd bn ob from fun w2 xb cb hb hx hc=>by
  have h2:=h.below hb
  have hk:=keepC_of (op:=4) (data:=[]) (h2.ok f) h.ne (by decide) hN allB_nil (Nat.zero_le _) hx (by rw [<-strOf_nil];exact hc)
  refine (kcomplete_any w2 P B ob e N _ _ h2.kp ok.wk hk (lt_bump lim.lr)).mono ?_
  rintro x w' (⟨q1,rfl,q2⟩ | ⟨v,e2,q1,rfl,q2⟩)
  ·exact⟨7,g,d,e,ob,rfl,Or.inl ⟨q1,rfl,rfl,rfl,rfl⟩,h2.below q2,ObTo.refl _ _,EF.of_below P B R D bd bn ob (hb.trans (q2.mono hb.size))⟩
  ·obtain⟨k1,⟨ob',k2,k3⟩,k4⟩:=h.kept hb q2
   exact⟨v,_,_,_,ob',rfl,Or.inr ⟨e2,q1,k1,rfl,rfl,rfl⟩,k2,k3,k4⟩)
 clear h ok lim f hN
 go_enter Tryz.func35,Tryz.ntmps35
 go_wp2_with (first
  | (go_at_call 52;refine (Zb7 _ P).mono ?_;rintro _ w1 ⟨rfl,rfl⟩)
  | (go_at_call 54;refine (Zdx _ P 4 N ⟨#[]⟩).mono ?_;rintro _ w2 ⟨xb,cb,rfl,hx,hc,hb⟩;have HC:=Hid.mk (And.intro hb (And.intro hx hc));clear hx hc hb)
  | (go_at_call 58;refine (HK.out _ _ _ HC.out.1 HC.out.2.1 HC.out.2.2).mono ?_;rintro _ w3 ⟨v,g',d',e',ob',rfl,hr⟩;have HR:=Hid.mk hr;clear hr))
 go_ret
 exact⟨v,g',d',e',ob',rfl,HR.out⟩
set_option maxHeartbeats 4000000 in
theorem efail_any (w:World)(P B R D bd bn M:Nat)(ob:Option Nat)(g:LogD)(d:DkD)(e:EngD)(N:Nat)(h:EngAt w P B R D bd bn ob g d e)(ok:EngOk e)(lim:EngLim e)(f:Fit g d M)(hN:N<18446744073709551616) :
  Calls Tryz.prog 36 #[.pointer (some ⟨P,0,none⟩), .int .u64 N] w fun x w'=>∃v g' d' e' ob',x= .returned (errV v)/\CallR g d e (recB 5 [] N) 7 (e.fail N) v g' d' e'/\EngAt w' P B R D bd bn ob' g' d' e'/\ObTo w ob ob'/\EF w w' P B R D bd bn ob:=by
 have HK:=Hid.mk (show ∀w2 xb cb,Below w.heap.size w w2->w2.heap[xb]? =some (.cells #[.pointer (some ⟨P,0,none⟩)] 81 (0,0))->w2.heap[cb]? =some (.cells #[.int .i64 5, .int .u64 N, .string ⟨#[]⟩] 119 (0,0))->Calls Tryz.prog 59 #[.pointer (some ⟨P,4,none⟩), .int .u64 N, .func (.func 90) #[] #[.pointer (some ⟨xb,0,none⟩), .pointer (some ⟨cb,0,none⟩)]] w2 fun x w'=>∃v g' d' e' ob',x= .returned (errV v)/\CallR g d e (recB 5 [] N) 7 (e.fail N) v g' d' e'/\EngAt w' P B R D bd bn ob' g' d' e'/\ObTo w ob ob'/\EF w w' P B R D bd bn ob from fun w2 xb cb hb hx hc=>by
  have h2:=h.below hb
  have hk:=keepC_of (op:=5) (data:=[]) (h2.ok f) h.ne (by decide) hN allB_nil (Nat.zero_le _) hx (by rw [<-strOf_nil];exact hc)
  refine (kcfail_any w2 P B ob e N _ _ h2.kp ok.wk hk (lt_bump lim.lr) ⟨lim.s0,lim.s1⟩).mono ?_
  rintro x w' (⟨q1,rfl,q2⟩ | ⟨v,e2,q1,rfl,q2⟩)
  ·exact⟨7,g,d,e,ob,rfl,Or.inl ⟨q1,rfl,rfl,rfl,rfl⟩,h2.below q2,ObTo.refl _ _,EF.of_below P B R D bd bn ob (hb.trans (q2.mono hb.size))⟩
  ·obtain⟨k1,⟨ob',k2,k3⟩,k4⟩:=h.kept hb q2
   exact⟨v,_,_,_,ob',rfl,Or.inr ⟨e2,q1,k1,rfl,rfl,rfl⟩,k2,k3,k4⟩)
 clear h ok lim f hN
 go_enter Tryz.func36,Tryz.ntmps36
 go_wp2_with (first
  | (go_at_call 52;refine (Zb7 _ P).mono ?_;rintro _ w1 ⟨rfl,rfl⟩)
  | (go_at_call 54;refine (Zdx _ P 5 N ⟨#[]⟩).mono ?_;rintro _ w2 ⟨xb,cb,rfl,hx,hc,hb⟩;have HC:=Hid.mk (And.intro hb (And.intro hx hc));clear hx hc hb)
  | (go_at_call 59;refine (HK.out _ _ _ HC.out.1 HC.out.2.1 HC.out.2.2).mono ?_;rintro _ w3 ⟨v,g',d',e',ob',rfl,hr⟩;have HR:=Hid.mk hr;clear hr))
 go_ret
 exact⟨v,g',d',e',ob',rfl,HR.out⟩
set_option maxHeartbeats 4000000 in
theorem etick_any (w:World)(P B R D bd bn M:Nat)(ob:Option Nat)(g:LogD)(d:DkD)(e:EngD)(N:Nat)(h:EngAt w P B R D bd bn ob g d e)(ok:EngOk e)(lim:EngLim e)(f:Fit g d M)(hN:N<18446744073709551616) :
  Calls Tryz.prog 38 #[.pointer (some ⟨P,0,none⟩), .int .u64 N] w fun x w'=>∃v g' d' e' ob',x= .returned (errV v)/\(∃e2,(v=0->TickR e N e2)/\v=addE g d (recB 7 [] N)/\g'=addG g d (recB 7 [] N)/\d'=addD g d (recB 7 [] N)/\e'=if v=0 then e2 else e)/\EngAt w' P B R D bd bn ob' g' d' e'/\ObTo w ob ob'/\EF w w' P B R D bd bn ob:=by
 have HK:=Hid.mk (show ∀w2 xb cb,Below w.heap.size w w2->w2.heap[xb]? =some (.cells #[.pointer (some ⟨P,0,none⟩)] 81 (0,0))->w2.heap[cb]? =some (.cells #[.int .i64 7, .int .u64 N, .string ⟨#[]⟩] 119 (0,0))->Calls Tryz.prog 61 #[.pointer (some ⟨P,4,none⟩), .int .u64 N, .func (.func 90) #[] #[.pointer (some ⟨xb,0,none⟩), .pointer (some ⟨cb,0,none⟩)]] w2 fun x w'=>∃v g' d' e' ob',x= .returned (errV v)/\(∃e2,(v=0->TickR e N e2)/\v=addE g d (recB 7 [] N)/\g'=addG g d (recB 7 [] N)/\d'=addD g d (recB 7 [] N)/\e'=if v=0 then e2 else e)/\EngAt w' P B R D bd bn ob' g' d' e'/\ObTo w ob ob'/\EF w w' P B R D bd bn ob from fun w2 xb cb hb hx hc=>by
  have h2:=h.below hb
  have hk:=keepC_of (op:=7) (data:=[]) (h2.ok f) h.ne (by decide) hN allB_nil (Nat.zero_le _) hx (by rw [<-strOf_nil];exact hc)
  have hgl:=h.ne.l.gl
  have hpB:=h.ne.p
  have hTab:∀w',KpL w2 P R D bd bn g d (recB 7 [] N) 0 w'->TabIn w':=fun w' hk'=>h2.tab.at_ (hk'.2.2.2.block 2 (by have:=h2.pl;omega) (by omega) (by omega) (by omega) (by omega) (Or.inl (by have:=h.ne.l.r;omega)))
  refine (ktick_any w2 P B ob e N _ _ _ h2.kp ok hk hTab (by omega) (by omega) (by omega) (by omega) (lt_bump lim.lr) ⟨lim.s0,lim.s1⟩).mono ?_
  rintro x w' ⟨v,e2,rfl,q1,q2⟩
  obtain⟨k1,⟨ob',k2,k3⟩,k4⟩:=h.kept hb q2
  exact⟨v,_,_,_,ob',rfl,⟨e2,q1,k1,rfl,rfl,rfl⟩,k2,k3,k4⟩)
 clear h ok lim f hN
 go_enter Tryz.func38,Tryz.ntmps38
 go_wp2_with (first
  | (go_at_call 52;refine (Zb7 _ P).mono ?_;rintro _ w1 ⟨rfl,rfl⟩)
  | (go_at_call 54;refine (Zdx _ P 7 N ⟨#[]⟩).mono ?_;rintro _ w2 ⟨xb,cb,rfl,hx,hc,hb⟩;have HC:=Hid.mk (And.intro hb (And.intro hx hc));clear hx hc hb)
  | (go_at_call 61;refine (HK.out _ _ _ HC.out.1 HC.out.2.1 HC.out.2.2).mono ?_;rintro _ w3 ⟨v,g',d',e',ob',rfl,hr⟩;have HR:=Hid.mk hr;clear hr))
 go_ret
 exact⟨v,g',d',e',ob',rfl,HR.out⟩
end Go.Proofs.YtgdcjccbdmcebabGreatDoor
