import Derived.Test.YtgdcjccbdmcebabGreatDoorM41
set_option linter.unusedSimpArgs false
set_option linter.unusedVariables false
namespace Go.Proofs.YtgdcjccbdmcebabGreatDoor
open Go.RowKit
set_option maxRecDepth 100000
attribute [local go_sem ↓] Go.wp_at_zero Go.wp_at_succ
theorem errV_form (v:Int):errV v= .nilIface\/∃t x,errV v= .iface t x:=by
 by_cases h:v=0
 ·subst h;exact Or.inl Zay
 ·exact Or.inr ⟨_,_,Zap h⟩
structure AddV (w:World)(lb eb P:Nat)(v:Value):Prop where
 l:w.heap[lb]? =some (.cells #[.pointer (some ⟨P,0,none⟩)] 205 (0,0))
 e:w.heap[eb]? =some (.cells #[v] 74 (0,0))
theorem AddV.cells {w:World}{lb eb P:Nat}{v:Value}(h:AddV w lb eb P v):w.cell? ⟨lb,0,none⟩=some (.pointer (some ⟨P,0,none⟩))/\w.cell? ⟨eb,0,none⟩=some v/\w.frozen? ⟨eb,0,none⟩=false:=⟨Zam h.l 0,Zam h.e 0,by simp [World.frozen?,h.e]⟩
theorem AddV.at_ {w w':World}{lb eb P:Nat}{v:Value}(h:AddV w lb eb P v)(e1:w'.heap[lb]? =w.heap[lb]?)(e2:w'.heap[eb]? =w.heap[eb]?):AddV w' lb eb P v:=⟨e1.trans h.l,e2.trans h.e⟩
theorem AddV.set {w:World}{lb eb P:Nat}{v:Value}(h:AddV w lb eb P v)(x:Value):AddV (w.setCell ⟨eb,0,none⟩ x) lb eb P x:=⟨(Below.heap_setCell w ⟨eb,0,none⟩ x lb (Zak h.l h.e (by decide))).trans h.l,by rw [Zac h.e];rfl⟩
theorem DkAt.setE {w:World}{R D bd bn lb eb P:Nat}{d:DkD}{v:Value}(h:DkAt w R D bd bn d)(hV:AddV w lb eb P v)(x:Value):DkAt (w.setCell ⟨eb,0,none⟩ x) R D bd bn d:=by
 obtain⟨pa,pc,q1,q2⟩:=h.c
 obtain⟨Dd,q3⟩:=h.fd
 obtain⟨Dn,q4⟩:=h.fn
 have hne:∀k,k≠eb->(w.setCell ⟨eb,0,none⟩ x).heap[k]? =w.heap[k]? :=fun k hk=>Below.heap_setCell w ⟨eb,0,none⟩ x k hk
 have hm:∀bm f Dx,FilAt w bm f Dx->bm≠eb:=fun bm f Dx hx e=>by
  obtain⟨es,c,e2,_⟩:=hx.own
  rw [e,hV.e] at e2;cases e2
 exact h.keep (by simp [World.setCell]) (hne D (Zak q1.blk hV.e (by decide))) (hne bd (hm _ _ _ q3)) (hne bn (hm _ _ _ q4)) (fun k cs t fr e ht=>hne k (Zak e hV.e (by rcases ht with rfl | rfl<;>decide)))
theorem LF.setNew {w x:World}{P R D bd bn:Nat}(h:LF w x P R D bd bn)(eb:Nat)(v:Value)(hew:w.heap.size<=eb)(heP:eb≠P):LF w (x.setCell ⟨eb,0,none⟩ v) P R D bd bn:=by
 have hne:∀k,k≠eb->(x.setCell ⟨eb,0,none⟩ v).heap[k]? =x.heap[k]? :=fun k hk=>Below.heap_setCell x ⟨eb,0,none⟩ _ k hk
 exact⟨h.os,h.tape,h.output,by simpa [World.setCell] using h.size,fun k hk h0 h1 h2 h3 h4=>(hne k (by omega)).trans (h.block k hk h0 h1 h2 h3 h4),fun o ho=>(World.cell?_of_block (a:=⟨P,o,none⟩) (hne P (Ne.symm heP))).trans (h.off o ho),fun o=>(World.frozen?_of_block (a:=⟨P,o,none⟩) (hne P (Ne.symm heP))).trans (h.froz o)⟩
theorem ladd_end {w w7:World}{P R D bd bn lb eb:Nat}{g:LogD}{d:DkD}{x:Value}{v:Int}(h1:DkAt w7 R D bd bn d)(h2:LogAt w7 P D g)(h3:AddV w7 lb eb P x)(h4:LF w w7 P R D bd bn)(hn:LNe P R D bd bn)(hlP:lb≠P)(heP:eb≠P)(hew:w.heap.size<=eb) :
  CallsD Tryz.prog 141 #[.pointer (some ⟨eb,0,none⟩), .pointer (some ⟨lb,0,none⟩)] .returning (w7.setCell ⟨eb,0,none⟩ (errV v)) fun e u' w'=>u'= .returning/\(e= .returned (.tuple #[])/\w'.cell? ⟨eb,0,none⟩=some (errV v)/\LogAt w' P D { g with err:=v }/\DkAt w' R D bd bn d/\LF w w' P R D bd bn):=by
 have hV6:=h3.set (errV v)
 have hL6:=h2.at_ (Below.heap_setCell w7 ⟨eb,0,none⟩ (errV v) P (Ne.symm heP))
 refine (ladd_close _ P eb lb (errV v) hV6.cells.1 hV6.cells.2.1 (errV_form v) ⟨_,hL6.c3⟩ (hL6.fz 3)).mono ?_
 rintro e u' w'' ⟨rfl,rfl,rfl⟩
 have hV7:=hV6.at_ (Below.heap_setCell (w7.setCell ⟨eb,0,none⟩ (errV v)) ⟨P,3,none⟩ (errV v) lb hlP) (Below.heap_setCell (w7.setCell ⟨eb,0,none⟩ (errV v)) ⟨P,3,none⟩ (errV v) eb heP)
 exact⟨rfl,rfl,hV7.cells.2.1,hL6.setE v,(h1.setE h3 _).setP hn 3 _ hL6.c1,(LF.setNew h4 eb _ hew heP).trans (LF.setP _ P R D bd bn 3 _ (by omega))⟩
theorem told_of {d:DkD}{o:OpD}(h:d.tErr o=0):(d.told o).dur=d.dur/\(d.told o).pend=d.pend++[o]:=by
 have hw:d.wErr=0:=by
  by_cases c:d.wErr=0
  ·exact c
  ·unfold DkD.tErr at h;rw [if_pos c] at h;exact absurd h c
 unfold DkD.told
 rw [if_neg (by rw [hw];decide),if_neg (by rw [h];decide)]
 exact⟨(Zav d).1,rfl⟩
set_option maxHeartbeats 8000000 in
theorem ladd_any (w:World)(P R D bd bn B0 rg rc M:Nat)(g:LogD)(d:DkD)(l:List Int)(hL:LogAt w P D g)(hD:DkAt w R D bd bn d)(hn:LNe P R D bd bn)(hP:P<w.heap.size)(hpd:d.pend.length<8)(hat:g.at_<3)(hsh:g.short<=100000)(hnm:Zbi w)(hr:ByteRow B0 w (.slice (some ⟨rg,0,none⟩) l.length rc) l)(hl:AllB l)(hl1:1<=l.length)(hlen:l.length<=1000000)
  (hs1:SzF d.dur M) (hs2:SzF d.now M) (hs3:∀o∈d.pend,o.data.length<=M) (hM:M<=1000000000000) (hM2:2000000<=M) :
  Calls Tryz.prog 91 #[.pointer (some ⟨P,0,none⟩), .slice (some ⟨rg,0,none⟩) l.length rc] w fun x w'=>x= .returned (errV (addE g d l))/\LogAt w' P D (addG g d l)/\DkAt w' R D bd bn (addD g d l)/\LF w w' P R D bd bn:=by
 have hmf:∀(fn:Fn) (first cap:Array Value) (w:World),(Instr.makeFunc fn first cap).run Tryz.prog w= .ok (.func fn first cap) w:=fun _ _ _ _=>rfl
 obtain⟨n,hnn⟩:∃n,n=l.length:=⟨_,rfl⟩
 obtain⟨w0,hw0⟩:∃w0,w0=(w.alloc (.cells #[.pointer (some ⟨P,0,none⟩)] 205)).alloc (.cells #[.nilIface] 74):=⟨_,rfl⟩
 obtain⟨lb,hlb⟩:∃lb,lb=w.heap.size:=⟨_,rfl⟩
 obtain⟨eb,heb⟩:∃eb,eb=lb+1:=⟨_,rfl⟩
 have hb0:Below w.heap.size w w0:=by rw [hw0];exact ((Below.refl _ _).alloc (Nat.le_refl _) _).alloc (by simp) _
 have hV0:AddV w0 lb eb P .nilIface:=⟨by rw [hw0,Zaj _ _ _ (by rw [hlb];simp),hlb];exact heap_alloc_new w _,by rw [hw0,heb,hlb];exact Zbd _ _ _ _ (by simp)⟩
 have hL0:=hL.at_ (hb0.block P hP)
 have hD0:=hD.below hb0
 have hlP:lb≠P:=by omega
 have heP:eb≠P:=by omega
 have HER:=Hid.mk (lerr_any w0 P D g hL0)
 have HW:=Hid.mk (And.intro hlb (And.intro heb (And.intro hw0 hb0)))
 obtain⟨y0,y1,y2⟩:=hV0.cells
 have hc3:=hL0.c3
 have hf3:=hL0.fz 3
 by_cases hE:g.err=0
 ·have HR:=Hid.mk (And.intro hL0 (And.intro hD0 hV0))
  have HIN:=Hid.mk (And.intro hn (And.intro hr (And.intro hl (And.intro hs1 (And.intro hs2 (And.intro hs3 (And.intro hnm (And.intro hnn (And.intro hL (And.intro hD hE))))))))))
  rw [hE] at HER
  rw [<-hnn] at hl1 hlen ⊢
  have HER':Hid (Calls Tryz.prog 108 #[.pointer (some ⟨P,0,none⟩)] w0 fun x w'=>x= .returned .nilIface/\w'=w0):=Hid.mk (by have:=HER.out;rw [Zay] at this;exact this)
  clear hL hD hL0 hD0 hV0 hn hr hs1 hs2 hs3 hw0 hlb heb hb0 hnm hE HER hc3 hf3 hnn hl
  go_enter_defers Tryz.func91,Tryz.ntmps91
  go_upto_region 1 with fail
  rw [<-HW.out.2.2.1,<-HW.out.1,<-HW.out.2.1]
  go_upto_region 5 with (go_at_call 108;refine HER'.out.mono ?_;rintro _ w1 ⟨rfl,hw1⟩;rw [hw1])
  obtain⟨w2,hw2⟩:∃w2,w2=w0.setCell ⟨eb,0,none⟩ .nilIface:=⟨_,rfl⟩
  rw [<-hw2]
  have H2:=Hid.mk (show LogAt w2 P D g/\DkAt w2 R D bd bn d/\AddV w2 lb eb P .nilIface/\Below w.heap.size w w2/\Zbi w2 by
   rw [hw2]
   have hb2:Below w.heap.size w (w0.setCell ⟨eb,0,none⟩ .nilIface):=HW.out.2.2.2.setCell (p:=⟨eb,0,none⟩) (by show w.heap.size<=eb;have:=HW.out.1;have:=HW.out.2.1;omega) _
   refine⟨HIN.out.2.2.2.2.2.2.2.2.1.at_ (hb2.block P hP),HR.out.2.1.setE HR.out.2.2 _,HR.out.2.2.set _,hb2,fun i hi=> ?_⟩
   have:=HIN.out.2.2.2.2.2.2.1 i hi
   exact cell_later hb2 this)
  obtain⟨y0,y1,y2⟩:=H2.out.2.2.1.cells
  have p2:=H2.out.1.c2
  obtain⟨B,hBB⟩:∃B,B=w2.heap.size:=⟨_,rfl⟩
  have hmk:=make8 w2 g.short hsh
  obtain⟨mk,hmkd⟩:∃mk,mk=w2.alloc (.cells (madeCells (.int .u8 0:Value).cells (g.short * 1)) 5):=⟨_,rfl⟩
  rw [<-hmkd,<-hBB] at hmk
  have HFR:=Hid.mk (show Calls Tryz.prog 111 #[.slice (some ⟨B,0,none⟩) g.short g.short, .slice (some ⟨rg,0,none⟩) n rc] mk fun x w'=>∃v',x= .returned v'/\ByteRow B w' v' (Zcq g.short l)/\Below B w2 w' by
   obtain⟨hn,hr,hl,_,_,_,_,hnn,_⟩:=HIN.out
   have hbm:Below w2.heap.size w2 mk:=by rw [hmkd];exact (Below.refl _ _).alloc (Nat.le_refl _) _
   have hr2:=(hr.below H2.out.2.2.2.1).below hbm
   have hrg:rg<B:=by
    rcases (hr.below H2.out.2.2.2.1).2 with⟨x,_⟩ | ⟨g',cap,cur,x,_,hh,_⟩
    ·simp at x
    ·obtain rfl:rg=g':=by simp only [Value.slice.injEq,Option.some.injEq,Addr.mk.injEq] at x;exact x.1.1
     rw [hBB];exact Zaa hh
   have hv:ByteRow B mk (.slice (some ⟨B,0,none⟩) g.short g.short) (List.replicate g.short 0):=by
    unfold ByteRow
    rw [List.length_replicate,<-made8]
    have:=World.ownsRow_lit (e:=5) (base:=w2.heap.size) (size:=1) w2 (madeCells (.int .u8 0:Value).cells (g.short * 1)) g.short (Nat.le_refl _) (by unfold maxLen;omega) (by
     have:=congrArg List.length (made8 g.short)
     rw [Array.length_toList,bv_length,List.length_replicate] at this
     omega)
    rw [hmkd,hBB]
    exact this
   have:=frame_any mk B B0 (.slice (some ⟨B,0,none⟩) g.short g.short) (List.replicate g.short 0) rg rc l hv (by rw [hBB];exact hbm.size) hr2 hrg hl (by rw [<-hnn];exact hlen) (by rw [<-hnn];exact hl1) (by rw [List.length_replicate];omega)
   rw [<-hnn] at this
   refine this.mono ?_
   rintro x w' ⟨v',rfl,h1,h2⟩
   refine⟨v',rfl,h1,?_⟩
   rw [hBB] at h2 ⊢
   exact hbm.trans h2.bl)
  have HB:=Hid.mk (And.intro hBB hmkd)
  have HW2:=Hid.mk hw2
  clear hBB hmkd hw2
  go_upto_region 6 with (go_at_call 111;refine HFR.out.mono ?_;rintro _ w3 ⟨vb,rfl,hrow,hb3⟩;have HR3:=Hid.mk (And.intro hrow hb3);clear hrow hb3)
  obtain⟨N,hN⟩:∃N,N=(Zcq g.short l).length:=⟨_,rfl⟩
  have hN2:N=g.short+n+6:=by rw [hN,wroteB_len,HIN.out.2.2.2.2.2.2.2.1]
  obtain⟨bg,bc,hvb,hbg⟩:∃bg bc,vb= .slice (some ⟨bg,0,none⟩) N bc/\B<=bg:=by
   rw [hN]
   have hr:=HR3.out.1
   obtain⟨a,c,e⟩:=Za3 hr
   rcases hr.2 with⟨x,y⟩ | ⟨g',cap,cur,x,hg,hh,_⟩
   ·omega
   ·exact⟨g',cap,x,hg⟩
  subst hvb
  have H3:=Hid.mk (show LogAt w3 P D g/\DkAt w3 R D bd bn d/\AddV w3 lb eb P .nilIface/\Below w.heap.size w w3/\Zbi w3 by
   obtain⟨h1,h2,h3,h4,h5⟩:=H2.out
   have hb:=HR3.out.2
   rw [HB.out.1] at hb
   have hP2:P<w2.heap.size:=Nat.lt_of_lt_of_le hP h4.size
   exact⟨h1.at_ (hb.block P hP2),h2.below hb,h3.at_ (hb.block lb (Zaa h3.l)) (hb.block eb (Zaa h3.e)),h4.trans (hb.mono h4.size),fun i hi=>cell_later hb (h5 i hi)⟩)
  obtain⟨nm,hnm⟩:∃nm,nm=nmB g.at_:=⟨_,rfl⟩
  have z0:=H3.out.2.2.1.cells.1
  have z1:=H3.out.1.c0
  unfold dkI at z1
  have z2:=H3.out.1.c1
  have z3:=H3.out.2.2.2.2 g.at_ hat
  rw [<-hnm] at z3
  have z4:=H3.out.2.2.1.cells.2.1
  have z5:=H3.out.2.2.1.cells.2.2
  have ia:(g.at_:Int)<3:=by omega
  have hmA:=m_append
  obtain⟨e1,he1⟩:∃e1,e1=d.tErr (g.op l):=⟨_,rfl⟩
  have HNM:=Hid.mk (And.intro hnm (And.intro he1 (And.intro hN hN2)))
  have hAP:∀wx,Below w3.heap.size w3 wx->Calls Tryz.prog 249 #[.pointer (some ⟨D,0,none⟩), .string nm, .slice (some ⟨bg,0,none⟩) N bc] wx fun x w'=>x= .returned (errV e1)/\DkAt w' R D bd bn (d.told (g.op l))/\LogAt w' P D g/\AddV w' lb eb P .nilIface/\LF w w' P R D bd bn/\w'.cell? ⟨1,g.at_,none⟩=some (.string nm):=fun wx hb=>by
   obtain⟨hn,hr,hl,hs1,hs2,hs3,hnmi,hnn,_⟩:=HIN.out
   obtain⟨h1,h2,h3,h4,h5⟩:=H3.out
   have h2x:=h2.below hb
   have hrow:ByteRow B wx (.slice (some ⟨bg,0,none⟩) (Zcq g.short l).length bc) (Zcq g.short l):=by rw [<-hN];exact HR3.out.1.below hb
   have:=dappend_any wx R D bd bn B bg bc d g.at_ (Zcq g.short l) h2x hpd hat (fun s hs=>by have:=hs2 _ _ hs;omega) hrow (by omega)
   rw [<-hN,<-hnm] at this
   refine this.mono ?_
   rintro x w' ⟨rfl,q1,q2⟩
   have hb4:Below w.heap.size w wx:=h4.trans (hb.mono h4.size)
   have hbgs:w.heap.size<=bg:=by have:=H2.out.2.2.2.1.size;have:=HB.out.1;omega
   have hPx:P<wx.heap.size:=Nat.lt_of_lt_of_le hP hb4.size
   have hPb:=q2.block P hPx hn.d hn.md hn.mn (by omega) (Or.inl hn.r)
   obtain⟨pa,pc,dk,_⟩:=h2x.c
   obtain⟨Dd,q3⟩:=h2x.fd
   obtain⟨Dn,q4⟩:=h2x.fn
   have h3x:AddV wx lb eb P .nilIface:=h3.at_ (hb.block lb (Zaa h3.l)) (hb.block eb (Zaa h3.e))
   have stay:∀(k:Nat) (cs:Array Value) (t:TypeId) (fr:Nat×Nat),wx.heap[k]? =some (Obj.cells cs t fr)->t≠101->t≠5->t≠147->w'.heap[k]? =wx.heap[k]? :=fun k cs t fr e t1 t2 t3=>by
    have hm:∀bm f Dx,FilAt wx bm f Dx->k≠bm:=fun bm f Dx hx e2=>by
     obtain⟨es,c,e3,_⟩:=hx.own
     rw [<-e2,e] at e3;cases e3
    have hbgb:∃cs fr,wx.heap[bg]? =some (.cells cs 5 fr):=by
     rcases hrow.2 with⟨x,_⟩ | ⟨g',cap,cur,x,_,hh,_⟩
     ·simp at x
     ·obtain rfl:bg=g':=by simp only [Value.slice.injEq,Option.some.injEq,Addr.mk.injEq] at x;exact x.1.1
      exact⟨_,_,hh⟩
    obtain⟨cs2,fr2,hbg2⟩:=hbgb
    exact q2.block k (Zaa e) (Zak e dk.blk t1) (hm _ _ _ q3) (hm _ _ _ q4) (Zak e hbg2 t2) (Or.inr (fun cs3 fr3 e3=>by rw [e] at e3;simp only [Option.some.injEq,Obj.cells.injEq] at e3;exact t3 e3.2.1))
   refine⟨by rw [he1];rfl,q1,(h1.at_ (hb.block P (Nat.lt_of_lt_of_le hP h4.size))).at_ hPb,h3x.at_ (stay lb _ _ _ h3x.l (by decide) (by decide) (by decide)) (stay eb _ _ _ h3x.e (by decide) (by decide) (by decide)),?_,?_⟩
   ·exact⟨q2.os.trans hb4.os,q2.tape.trans hb4.tape,q2.output.trans hb4.output,Nat.le_trans hb4.size q2.size,fun k hk h0 h1 h2 h3 h4=>(q2.block k (Nat.lt_of_lt_of_le hk hb4.size) h1 h2 h3 (by omega) (h4.imp id (fun h4 cs fr=>by rw [hb4.block k hk];exact h4 cs fr))).trans (hb4.block k hk),fun o _=>(World.cell?_of_block (a:=⟨P,o,none⟩) hPb).trans (World.cell?_of_block (a:=⟨P,o,none⟩) (hb4.block P hP)),fun o=>(World.frozen?_of_block (a:=⟨P,o,none⟩) hPb).trans (World.frozen?_of_block (a:=⟨P,o,none⟩) (hb4.block P hP))⟩
   ·obtain⟨g1,g2,g3,g4⟩:=hn.gl
    have hr:=hn.r
    have e:=q2.block 1 (by omega) (by omega) (by omega) (by omega) (by omega) (Or.inl (by omega))
    exact (World.cell?_of_block (a:=⟨1,g.at_,none⟩) e).trans (cell_later hb z3)
  have HAP:=Hid.mk hAP
  have hcases:e1=0\/e1≠0:=by omega
  have HAT:=Hid.mk (And.intro hat (And.intro hbg hP))
  have HM:=Hid.mk (And.intro hM (And.intro hM2 (And.intro hsh hlen)))
  clear hAP hN hN2 hnm he1 y0 y1 y2 p2 hmk hbg hat hsh hpd hM hM2 hl1 hlen
  have hle:eb≠lb:=by have:=HW.out.2.1;omega
  have hge:eb≠1:=by have:=HW.out.1;have:=HW.out.2.1;have:=HIN.out.1.gl;have:=HAT.out.2.2;omega
  rcases hcases with hE1 | hE1
  ·rw [hE1,Zay] at HAP
   have HE1:=Hid.mk hE1
   clear hE1
   go_region_held3 (fun w'=>((w'.cell? ⟨lb,0,none⟩=some (.pointer (some ⟨P,0,none⟩))/\w'.cell? ⟨P,0,none⟩=some (.iface 80 (.pointer (some ⟨D,0,none⟩))))/\w'.cell? ⟨P,1,none⟩=some (.int .i64 g.at_))/\w'.cell? ⟨1,g.at_,none⟩=some (.string nm)) (go_keep) ((go_at_call 249;refine (HAP.out w3.drew ((Below.refl _ _).drew)).mono ?_;rintro _ w4 ⟨rfl,q1,q2,q3,q4,q5⟩;have H4:=Hid.mk (And.intro q1 (And.intro q2 (And.intro q3 q4)));have x0:=q3.cells.1;have x1:w4.cell? ⟨P,0,none⟩=some (.iface 80 (.pointer (some ⟨D,0,none⟩))):=q2.c0;have x2:=q2.c1;have x3:=q3.cells.2.1;have x4:=q3.cells.2.2;clear q1 q2 q3 q4))
   clear x0 x1 x2 x3 x4 q5 z0 z1 z2 z3 z4 z5
   have H5:=Hid.mk (show LogAt (w4.setCell ⟨eb,0,none⟩ (Value.nilIface)) P D g/\DkAt (w4.setCell ⟨eb,0,none⟩ (Value.nilIface)) R D bd bn (d.told (g.op l))/\AddV (w4.setCell ⟨eb,0,none⟩ (Value.nilIface)) lb eb P (Value.nilIface)/\LF w (w4.setCell ⟨eb,0,none⟩ (Value.nilIface)) P R D bd bn by
    obtain⟨q1,q2,q3,q4⟩:=H4.out
    have hne:∀k,k≠eb->(w4.setCell ⟨eb,0,none⟩ (Value.nilIface)).heap[k]? =w4.heap[k]? :=fun k hk=>Below.heap_setCell w4 ⟨eb,0,none⟩ _ k hk
    have hew:w.heap.size<=eb:=by have:=HW.out.1;have:=HW.out.2.1;omega
    refine⟨q2.at_ (hne P (Ne.symm heP)),q1.setE q3 _,q3.set _,⟨q4.os,q4.tape,q4.output,by simpa [World.setCell] using q4.size,fun k hk h0 h1 h2 h3 h4=>(hne k (by omega)).trans (q4.block k hk h0 h1 h2 h3 h4),fun o ho=>(World.cell?_of_block (a:=⟨P,o,none⟩) (hne P (Ne.symm heP))).trans (q4.off o ho),fun o=>(World.frozen?_of_block (a:=⟨P,o,none⟩) (hne P (Ne.symm heP))).trans (q4.froz o)⟩⟩)
   generalize w4.setCell ⟨eb,0,none⟩ (Value.nilIface)=w5 at *
   have v0:=H5.out.2.2.1.cells.2.1
   have v1:=H5.out.2.2.1.cells.2.2
   have v2:=H5.out.2.2.1.cells.1
   have v3:w5.cell? ⟨P,2,none⟩=some (.int .i64 g.short):=H5.out.1.c2
   have v4:=H5.out.1.fz 2
   go_upto_region 10 with fail
   have H6:=Hid.mk (show LogAt (w5.setCell ⟨P,2,none⟩ (.int .i64 0)) P D { g with short:=0 }/\DkAt (w5.setCell ⟨P,2,none⟩ (.int .i64 0)) R D bd bn (d.told (g.op l))/\AddV (w5.setCell ⟨P,2,none⟩ (.int .i64 0)) lb eb P .nilIface/\LF w (w5.setCell ⟨P,2,none⟩ (.int .i64 0)) P R D bd bn by
    obtain⟨q1,q2,q3,q4⟩:=H5.out
    exact⟨q1.setS 0,q2.setP HIN.out.1 2 _ q1.c1,q3.at_ (Below.heap_setCell w5 ⟨P,2,none⟩ _ lb hlP) (Below.heap_setCell w5 ⟨P,2,none⟩ _ eb heP),q4.trans (LF.setP w5 P R D bd bn 2 _ (by omega))⟩)
   clear v0 v1 v2 v3 v4
   generalize w5.setCell ⟨P,2,none⟩ (.int .i64 0)=w6 at *
   obtain⟨e2,he2⟩:∃e2,e2=(d.told (g.op l)).wErr:=⟨_,rfl⟩
   have hSY:Calls Tryz.prog 253 #[.pointer (some ⟨D,0,none⟩)] w6 fun x w'=>x= .returned (errV e2)/\DkAt w' R D bd bn (d.told (g.op l)).synced/\LogAt w' P D { g with short:=0 }/\AddV w' lb eb P .nilIface/\LF w w' P R D bd bn:=by
    obtain⟨hn,_,_,hs1,hs2,hs3,_,hnn,_,_,hE⟩:=HIN.out
    obtain⟨q1,q2,q3,q4⟩:=H6.out
    obtain⟨hMa,hMb,hMc,hMd⟩:=HM.out
    obtain⟨t1,t2⟩:=told_of (d:=d) (o:=g.op l) (by rw [<-HNM.out.2.1];exact HE1.out)
    have hP6:P<w6.heap.size:=Nat.lt_of_lt_of_le HAT.out.2.2 q4.size
    refine (dsync_any w6 R D bd bn M (d.told (g.op l)) q2 (by rw [t1];exact hs1) (fun o ho=> ?_) (by omega)).mono ?_
    ·rw [t2] at ho
     rcases List.mem_append.1 ho with ho | ho
     ·exact hs3 o ho
     ·rw [List.mem_singleton.1 ho]
      show (Zcq g.short l).length<=M
      have:=HNM.out.2.2.1
      have:=HNM.out.2.2.2
      omega
    ·rintro x w' ⟨rfl,r1,r2⟩
     have hPb:=r2.block P hP6 hn.d hn.md hn.mn (Or.inl hn.r)
     obtain⟨pa,pc,dk,_⟩:=q2.c
     obtain⟨Dd,f3⟩:=q2.fd
     obtain⟨Dn,f4⟩:=q2.fn
     have stay:∀(k:Nat) (cs:Array Value) (t:TypeId) (fr:Nat×Nat),w6.heap[k]? =some (Obj.cells cs t fr)->t≠101->t≠147->w'.heap[k]? =w6.heap[k]? :=fun k cs t fr e t1 t3=>by
      have hm:∀bm f Dx,FilAt w6 bm f Dx->k≠bm:=fun bm f Dx hx e2=>by
       obtain⟨es,c,e3,_⟩:=hx.own
       rw [<-e2,e] at e3;cases e3
      exact r2.block k (Zaa e) (Zak e dk.blk t1) (hm _ _ _ f3) (hm _ _ _ f4) (Or.inr (fun cs3 fr3 e3=>by rw [e] at e3;simp only [Option.some.injEq,Obj.cells.injEq] at e3;exact t3 e3.2.1))
     exact⟨by rw [he2],r1,q1.at_ hPb,q3.at_ (stay lb _ _ _ q3.l (by decide) (by decide)) (stay eb _ _ _ q3.e (by decide) (by decide)),q4.trans (LF.of_df r2 hP6 hn)⟩
   have HSY:=Hid.mk hSY
   have HE2:=Hid.mk he2
   have hmS:=m_sync
   have z0:=H6.out.2.2.1.cells.1
   have z1:w6.cell? ⟨P,0,none⟩=some (.iface 80 (.pointer (some ⟨D,0,none⟩))):=H6.out.1.c0
   have hform:=errV_form e2
   obtain⟨ve,hve⟩:∃ve,ve=errV e2:=⟨_,rfl⟩
   rw [<-hve] at HSY hform
   have HVE:=Hid.mk hve
   clear hSY he2 hve
   rcases hform with rfl | ⟨ty,xv,rfl⟩
   all_goals
    go_wp2_with (go_at_call 253;refine HSY.out.mono ?_;rintro _ w7 ⟨rfl,r1,r2,r3,r4⟩;have H7:=Hid.mk (And.intro r1 (And.intro r2 (And.intro r3 r4)));have x1:=r3.cells.2.1;have x2:=r3.cells.2.2;clear r1 r2 r3 r4)
    have hE0:=HIN.out.2.2.2.2.2.2.2.2.2.2
    have a0:¬d.tErr (g.op l)≠0:=by rw [<-HNM.out.2.1];simpa using HE1.out
    have a1:addE g d l=e2:=by unfold addE;rw [if_neg (by rw [hE0];decide),if_neg a0];exact HE2.out.symm
    have a2:addG g d l={ g with short:=0,err:=e2 }:=by unfold addG;rw [if_neg (by rw [hE0];decide),if_neg a0,HE2.out]
    have a3:addD g d l=(d.told (g.op l)).synced:=by unfold addD;rw [if_neg (by rw [hE0];decide),if_neg a0]
    have hew:w.heap.size<=eb:=by have:=HW.out.1;have:=HW.out.2.1;omega
    have hn9:=HIN.out.1
    refine leaves_cons (f:=141) (args:=#[.pointer (some ⟨eb,0,none⟩), .pointer (some ⟨lb,0,none⟩)]) (by simp) (by simp [go_sem]) ?_
    have hend:=ladd_end (v:=e2) H7.out.1 H7.out.2.1 H7.out.2.2.1 H7.out.2.2.2 hn9 hlP heP hew
    rw [<-HVE.out] at hend
    refine hend.mono ?_
    rintro e u' w'' ⟨rfl,rfl,hz,hq⟩
    exact⟨_,by simp [results,Tryz.results91,go_sem,hz];rfl,by rw [a1,<-HVE.out],by rw [a2];exact hq.1,by rw [a3];exact hq.2.1,hq.2.2⟩
  ·rw [Zap hE1] at HAP
   have HE1:=Hid.mk hE1
   clear hE1
   go_region_held3 (fun w'=>((w'.cell? ⟨lb,0,none⟩=some (.pointer (some ⟨P,0,none⟩))/\w'.cell? ⟨P,0,none⟩=some (.iface 80 (.pointer (some ⟨D,0,none⟩))))/\w'.cell? ⟨P,1,none⟩=some (.int .i64 g.at_))/\w'.cell? ⟨1,g.at_,none⟩=some (.string nm)) (go_keep) ((go_at_call 249;refine (HAP.out w3.drew ((Below.refl _ _).drew)).mono ?_;rintro _ w4 ⟨rfl,q1,q2,q3,q4,q5⟩;have H4:=Hid.mk (And.intro q1 (And.intro q2 (And.intro q3 q4)));have x0:=q3.cells.1;have x1:w4.cell? ⟨P,0,none⟩=some (.iface 80 (.pointer (some ⟨D,0,none⟩))):=q2.c0;have x2:=q2.c1;have x3:=q3.cells.2.1;have x4:=q3.cells.2.2;clear q1 q2 q3 q4))
   clear x0 x1 x2 x3 x4 q5 z0 z1 z2 z3 z4 z5
   have H5:=Hid.mk (show LogAt (w4.setCell ⟨eb,0,none⟩ (Value.iface 36 (.int .i64 e1))) P D g/\DkAt (w4.setCell ⟨eb,0,none⟩ (Value.iface 36 (.int .i64 e1))) R D bd bn (d.told (g.op l))/\AddV (w4.setCell ⟨eb,0,none⟩ (Value.iface 36 (.int .i64 e1))) lb eb P (Value.iface 36 (.int .i64 e1))/\LF w (w4.setCell ⟨eb,0,none⟩ (Value.iface 36 (.int .i64 e1))) P R D bd bn by
    obtain⟨q1,q2,q3,q4⟩:=H4.out
    have hne:∀k,k≠eb->(w4.setCell ⟨eb,0,none⟩ (Value.iface 36 (.int .i64 e1))).heap[k]? =w4.heap[k]? :=fun k hk=>Below.heap_setCell w4 ⟨eb,0,none⟩ _ k hk
    have hew:w.heap.size<=eb:=by have:=HW.out.1;have:=HW.out.2.1;omega
    refine⟨q2.at_ (hne P (Ne.symm heP)),q1.setE q3 _,q3.set _,⟨q4.os,q4.tape,q4.output,by simpa [World.setCell] using q4.size,fun k hk h0 h1 h2 h3 h4=>(hne k (by omega)).trans (q4.block k hk h0 h1 h2 h3 h4),fun o ho=>(World.cell?_of_block (a:=⟨P,o,none⟩) (hne P (Ne.symm heP))).trans (q4.off o ho),fun o=>(World.frozen?_of_block (a:=⟨P,o,none⟩) (hne P (Ne.symm heP))).trans (q4.froz o)⟩⟩)
   generalize w4.setCell ⟨eb,0,none⟩ (Value.iface 36 (.int .i64 e1))=w5 at *
   have v0:=H5.out.2.2.1.cells.2.1
   have v1:=H5.out.2.2.1.cells.2.2
   go_wp2_with fail
   refine leaves_cons (f:=141) (args:=#[.pointer (some ⟨eb,0,none⟩), .pointer (some ⟨lb,0,none⟩)]) (by simp) (by simp [go_sem]) ?_
   have hV6:=H5.out.2.2.1.set (.iface 36 (.int .i64 e1))
   have hP6:∀v,((w5.setCell ⟨eb,0,none⟩ v).heap[P]? =w5.heap[P]?):=fun v=>Below.heap_setCell w5 ⟨eb,0,none⟩ v P (Ne.symm heP)
   have hL6:=H5.out.1.at_ (hP6 (.iface 36 (.int .i64 e1)))
   refine (ladd_close _ P eb lb (.iface 36 (.int .i64 e1)) hV6.cells.1 hV6.cells.2.1 (Or.inr ⟨_,_,rfl⟩) ⟨_,hL6.c3⟩ (hL6.fz 3)).mono ?_
   rintro e u' w'' ⟨rfl,rfl,rfl⟩
   have hE0:=HIN.out.2.2.2.2.2.2.2.2.2.2
   have hE1:=HE1.out
   have a1:addE g d l=e1:=by unfold addE;rw [if_neg (by rw [hE0];decide),if_pos (by rw [<-HNM.out.2.1];exact hE1)];exact HNM.out.2.1.symm
   have a2:addG g d l={ g with err:=e1 }:=by unfold addG;rw [if_neg (by rw [hE0];decide),if_pos (by rw [<-HNM.out.2.1];exact hE1),HNM.out.2.1]
   have a3:addD g d l=d.told (g.op l):=by unfold addD;rw [if_neg (by rw [hE0];decide),if_pos (by rw [<-HNM.out.2.1];exact hE1)]
   have hV7:AddV ((w5.setCell ⟨eb,0,none⟩ (.iface 36 (.int .i64 e1))).setCell ⟨P,3,none⟩ (.iface 36 (.int .i64 e1))) lb eb P (.iface 36 (.int .i64 e1)):=hV6.at_ (Below.heap_setCell _ ⟨P,3,none⟩ _ lb hlP) (Below.heap_setCell _ ⟨P,3,none⟩ _ eb heP)
   have hz:=hV7.cells.2.1
   refine⟨.iface 36 (.int .i64 e1),by simp [results,Tryz.results91,go_sem,hz],by rw [a1,Zap hE1],?_,?_,?_⟩
   ·have:=hL6.setE e1
    rw [Zap hE1] at this
    rw [a2]
    exact this
   ·rw [a3]
    exact (H5.out.2.1.setE H5.out.2.2.1 _).setP HIN.out.1 3 _ hL6.c1
   ·have q4:=H5.out.2.2.2
    have hew:w.heap.size<=eb:=by have:=HW.out.1;have:=HW.out.2.1;omega
    exact (LF.setNew q4 eb _ hew heP).trans (LF.setP _ P R D bd bn 3 _ (by omega))
 ·have e1:addE g d l=g.err:=if_pos hE
  have e2:addG g d l=g:=if_pos hE
  have e3:addD g d l=d:=if_pos hE
  rw [e1,e2,e3,<-hnn]
  rw [Zap hE] at HER ⊢
  have HR:=Hid.mk (And.intro hL0 (And.intro hD0 hV0))
  obtain⟨er,her⟩:∃er,er=g.err:=⟨_,rfl⟩
  rw [<-her] at HER ⊢
  clear hL hD hL0 hD0 hV0 hn hr hs1 hs2 hs3 hw0 hlb heb hb0 hnm hE e1 e2 e3 hc3 hf3 her
  go_enter_defers Tryz.func91,Tryz.ntmps91
  go_upto_region 1 with fail
  rw [<-HW.out.2.2.1,<-HW.out.1,<-HW.out.2.1]
  go_wp2_with (go_at_call 108;refine HER.out.mono ?_;rintro _ w1 ⟨rfl,hw1⟩;rw [hw1])
  have hV2:=(HR.out.2.2.set (.iface 36 (.int .i64 er))).set (.iface 36 (.int .i64 er))
  have hz:=hV2.cells.2.1
  refine⟨.iface 36 (.int .i64 er),by simp [results,Tryz.results91,go_sem,hz],rfl,?_,?_,?_⟩
  ·refine HR.out.1.at_ ((Below.heap_setCell _ ⟨eb,0,none⟩ _ P (Ne.symm heP)).trans (Below.heap_setCell _ ⟨eb,0,none⟩ _ P (Ne.symm heP)))
  ·exact (HR.out.2.1.setE HR.out.2.2 _).setE (HR.out.2.2.set _) _
  ·have hq:=HW.out.2.2.2
   have hb2:Below w.heap.size w ((w0.setCell ⟨eb,0,none⟩ (.iface 36 (.int .i64 er))).setCell ⟨eb,0,none⟩ (.iface 36 (.int .i64 er))):=(hq.setCell (p:=⟨eb,0,none⟩) (by show w.heap.size<=eb;have:=HW.out.1;have:=HW.out.2.1;omega) _).setCell (p:=⟨eb,0,none⟩) (by show w.heap.size<=eb;have:=HW.out.1;have:=HW.out.2.1;omega) _
   exact LF.of_below R D bd bn hb2 hP
end Go.Proofs.YtgdcjccbdmcebabGreatDoor
