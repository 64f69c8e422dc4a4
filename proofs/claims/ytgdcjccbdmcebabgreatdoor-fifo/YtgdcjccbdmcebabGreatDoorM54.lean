import Derived.Test.YtgdcjccbdmcebabGreatDoorM53
set_option linter.unusedSimpArgs false
set_option linter.unusedVariables false
namespace Go.Proofs.YtgdcjccbdmcebabGreatDoor
open Go.RowKit
set_option maxRecDepth 100000
attribute [local go_sem ↓] Go.wp_at_zero Go.wp_at_succ
structure OW (w wx:World)(hb P B R D bd bn:Nat)(ob:Option Nat)(N:Nat)(e:EngD):Prop where
 host:HostAt wx hb P B R D bd bn ob N e
 bel:Below w.heap.size w wx
 far:(w.heap.size<=hb/\w.heap.size<=P/\w.heap.size<=D/\w.heap.size<=bd/\w.heap.size<=bn)/\w.heap.size<=B/\w.heap.size<=R
theorem OW.below {w wx wy:World}{hb P B R D bd bn N:Nat}{ob:Option Nat}{e:EngD}(h:OW w wx hb P B R D bd bn ob N e)(hb1:Below wx.heap.size wx wy):OW w wy hb P B R D bd bn ob N e :=
 ⟨h.host.below hb1,h.bel.trans (hb1.mono h.bel.size),h.far⟩
theorem OW.call {w wx wy:World}{hb P B R D bd bn N N':Nat}{ob ob':Option Nat}{e e':EngD}(h:OW w wx hb P B R D bd bn ob N e)(h2:HostAt wy hb P B R D bd bn ob' N' e')(hf:EF wx wy P B R D bd bn ob):OW w wy hb P B R D bd bn ob' N' e':=by
 refine⟨h2,?_,h.far⟩
 obtain⟨⟨f1,f2,f3,f4,f5⟩,f6,f7⟩:=h.far
 have hs:=h.bel.size
 exact⟨hf.os.trans h.bel.os,hf.tape.trans h.bel.tape,hf.output.trans h.bel.output,Nat.le_trans h.bel.size hf.size,fun k hk=>(hf.block k (by omega) (by omega) (by omega) (by omega) (by omega) (Or.inl (by omega)) (Or.inl (by omega))).trans (h.bel.block k hk)⟩
theorem HostAt.box {w w':World}{hb P B R D bd bn N k:Nat}{ob:Option Nat}{e:EngD}{cs:Array Value}{t:TypeId}{fr:Nat×Nat}(h:HostAt w hb P B R D bd bn ob N e)(hf:EF w w' P B R D bd bn ob)(hk:w.heap[k]? =some (.cells cs t fr))(h0:∃q x,cs[0]? =some (.int q x))(ht:t≠147/\t≠183/\t≠180/\t≠173/\t≠178/\t≠189/\t≠39)(hd:t≠101):w'.heap[k]? =some (.cells cs t fr):=by
 obtain⟨g,d,h1,_⟩:=h.ex
 obtain⟨pa,pc,dk,_⟩:=h1.dk.c
 obtain⟨Dd,f3⟩:=h1.dk.fd
 obtain⟨Dn,f4⟩:=h1.dk.fn
 have hm:∀bm f Dx,FilAt w bm f Dx->k≠bm:=fun bm f Dx hx e2=>by
  obtain⟨es,c,e3,_⟩:=hx.own
  rw [<-e2,hk] at e3;cases e3
 refine hf.keepT hk ⟨fun x=> ?_,Zak hk dk.blk hd,hm _ _ _ f3,hm _ _ _ f4⟩ ht
 subst x
 have c0:=h1.log.c0
 rw [Zam hk 0] at c0
 obtain⟨q,x,hx⟩:=h0
 rw [hx] at c0
 unfold dkI at c0
 cases c0
theorem PollW.some_ {e e' e2:EngD}{a b c f t tk:Int}{y:Bool}{p:PlD}(h:PollW e a b c f y e')(he:e.poll=some (p,t,tk,e2)):a=p.run/\b=p.node/\c=t/\f=tk/\y=true/\e'=e2:=by
 rcases h with⟨h,_⟩ | ⟨p',t',tk',h,rfl,rfl,rfl,rfl,rfl⟩
 ·rw [he] at h;cases h
 ·rw [he] at h
  simp only [Option.some.injEq,Prod.mk.injEq] at h
  obtain⟨rfl,rfl,rfl,rfl⟩:=h
  exact⟨rfl,rfl,rfl,rfl,rfl,rfl⟩
theorem PollW.none_ {e e':EngD}{a b c f:Int}{y:Bool}(h:PollW e a b c f y e')(he:e.poll=none):a=0/\b=0/\c=0/\f=0/\y=false/\e'=e:=by
 rcases h with⟨_,h⟩ | ⟨p',t',tk',h,_⟩
 ·exact h
 ·rw [he] at h;cases h
set_option maxHeartbeats 400000 in
theorem pwell_any (w:World):Calls Tryz.prog 6 #[] w fun x w'=>x= .returned (Zbq (-1) (-1) 0 0)/\Below w.heap.size w w':=by
 unfold Zbq
 go_enter Tryz.func6,Tryz.ntmps6
 go_wp2_with fail
 refine bodyPost_ret (results_cell_row rfl _ _ w.heap.size 26 #[.int .i64 (-1), .int .i64 (-1), .int .i64 0, .int .i64 0] (0,0) _ rfl (heap_alloc_new w _) Tryz.underlying26 rfl rfl) rfl ⟨rfl,(Below.refl _ _).alloc (Nat.le_refl _) _⟩
theorem fl2_flowIn {w:World}{nb ab:Nat}(hT:TabIn w)(hg:2<w.heap.size)
  (hn:w.heap[nb]? =some (.cells #[.int .i64 2, .int .i64 9, .int .i64 0, .int .i64 3, .int .i64 9, .int .i64 0, .slice none 0 0, .int .i64 1, .int .i64 9, .int .i64 0, .int .i64 1, .int .i64 1, .int .i64 0, .slice (some ⟨ab,0,none⟩) 1 1] 34 (0,0)))
  (ha:w.heap[ab]? =some (.cells #[.int .i64 0] 3 (0,0))):FlowIn w fl2 (some ⟨nb,0,none⟩) 2 (fun i=>if i=0 then none else some ⟨ab,0,none⟩) (fun i=>if i=0 then 0 else 1):=by
 have h01:∀j,j<fl2.n->j=0\/j=1:=fun j hj=>by
  have:fl2.n=2:=rfl
  omega
 have hc:=fun j=>Zam hn j
 have ha0:=Zam ha 0
 refine⟨Or.inr ⟨nb,0,rfl,Nat.le_refl _,by decide,Zaa hn,fun i hi=> ?_⟩,by decide,by decide,fun i hi h=> ?_,fun i hi=> ?_,hT,hg⟩
 ·rcases h01 i hi with rfl | rfl
  ·exact⟨hc 0,hc 1,hc 2,hc 3,hc 4,hc 5,hc 6,Or.inl rfl⟩
  ·refine⟨hc 7,hc 8,hc 9,hc 10,hc 11,hc 12,hc 13,Or.inr ⟨ab,0,rfl,Nat.le_refl _,by decide,Zaa ha,fun k hk=> ?_⟩⟩
   obtain rfl:k=0:=by replace hk:k<1:=hk;omega
   exact ha0
 ·rcases h01 i hi with rfl | rfl
  ·rfl
  ·simp at h
 ·rcases h01 i hi with rfl | rfl<;>decide
structure OX (w wx:World)(hb P B R D bd bn wb:Nat)(ob:Option Nat)(N:Nat)(e:EngD):Prop where
 ow:OW w wx hb P B R D bd bn ob N e
 wb:wx.heap[wb]? =some (.cells #[.int .i64 (-1), .int .i64 (-1), .int .i64 0, .int .i64 0] 26 (0,0))
theorem OX.below {w wx wy:World}{hb P B R D bd bn wb N:Nat}{ob:Option Nat}{e:EngD}(h:OX w wx hb P B R D bd bn wb ob N e)(hb1:Below wx.heap.size wx wy):OX w wy hb P B R D bd bn wb ob N e :=
 ⟨h.ow.below hb1,(hb1.block wb (Zaa h.wb)).trans h.wb⟩
theorem OX.call {w wx wy:World}{hb P B R D bd bn wb N N':Nat}{ob ob':Option Nat}{e e':EngD}(h:OX w wx hb P B R D bd bn wb ob N e)(h2:HostAt wy hb P B R D bd bn ob' N' e')(hf:EF wx wy P B R D bd bn ob):OX w wy hb P B R D bd bn wb ob' N' e' :=
 ⟨h.ow.call h2 hf,h.ow.host.box hf h.wb ⟨_,_,rfl⟩ (by decide) (by decide)⟩
theorem OX.cells {w wx:World}{hb P B R D bd bn wb N:Nat}{ob:Option Nat}{e:EngD}(h:OX w wx hb P B R D bd bn wb ob N e):((wx.cell? ⟨wb,0,none⟩=some (.int .i64 (-1))/\wx.cell? ⟨wb,1,none⟩=some (.int .i64 (-1)))/\wx.cell? ⟨wb,2,none⟩=some (.int .i64 0))/\wx.cell? ⟨wb,3,none⟩=some (.int .i64 0):=by
 refine⟨⟨⟨?_,?_⟩,?_⟩,?_⟩<;>(rw [Zam h.wb];rfl)
theorem TkC.call {w wx wy:World}{hb P B R D bd bn wb N tb:Nat}{ob:Option Nat}{e:EngD}{a b c f:Int}(t:TkC wx tb a b c f)(h:OX w wx hb P B R D bd bn wb ob N e)(hf:EF wx wy P B R D bd bn ob):TkC wy tb a b c f :=
 ⟨h.ow.host.box hf t.blk ⟨_,_,rfl⟩ (by decide) (by decide)⟩
theorem TkC.belowC {wx wy:World}{tb:Nat}{a b c f:Int}(t:TkC wx tb a b c f)(hb:Below wx.heap.size wx wy):TkC wy tb a b c f:=⟨(hb.block tb (Zaa t.blk)).trans t.blk⟩
theorem lim_of {e:EngD}(h1:e.lastRun<=100)(h2:e.lastTok<=1000000)(h3:e.seed=0):EngLim e:=⟨Int.lt_of_le_of_lt h1 (by decide),Int.lt_of_le_of_lt h2 (by decide),by rw [h3];decide,by rw [h3];decide⟩
theorem ox_poll {w wx:World}{hb P B R D bd bn wb N:Nat}{ob:Option Nat}{e e2:EngD}{pr pn t tk:Int}{p:PlD}(h:OX w wx hb P B R D bd bn wb ob N e)(ok:EngOk e)(lim:EngLim e)(hN:N<=1000000000000)(he:e.poll=some (p,t,tk,e2))(hr:p.run=pr)(hn:(p.node:Int)=pn) :
  Calls Tryz.prog 12 #[.pointer (some ⟨hb,0,none⟩), .agg #[.int .i64 (-1), .int .i64 (-1), .int .i64 0, .int .i64 0]] wx fun x w'=>x= .returned (.tuple #[.agg #[.int .u64 pr, .int .i64 pn, .int .i64 t, .int .u64 tk], .bool true, .int .i64 0])/\∃ob',OX w w' hb P B R D bd bn wb ob' (N+1000000) e2/\EF wx w' P B R D bd bn ob:=by
 refine (hpoll_any wx hb P B R D bd bn N ob e h.ow.host ok lim hN).mono ?_
 rintro x w' ⟨ob',a,b,c,f,y,e',rfl,q1,q2,q3,q4⟩
 obtain⟨rfl,rfl,rfl,rfl,rfl,rfl⟩:=q1.some_ he
 subst hr hn
 exact⟨rfl,ob',h.call q2 q4,q4⟩
theorem ox_pollN {w wx:World}{hb P B R D bd bn wb N:Nat}{ob:Option Nat}{e:EngD}(h:OX w wx hb P B R D bd bn wb ob N e)(ok:EngOk e)(lim:EngLim e)(hN:N<=1000000000000)(he:e.poll=none) :
  Calls Tryz.prog 12 #[.pointer (some ⟨hb,0,none⟩), .agg #[.int .i64 (-1), .int .i64 (-1), .int .i64 0, .int .i64 0]] wx fun x w'=>x= .returned (.tuple #[.agg #[.int .u64 0, .int .i64 0, .int .i64 0, .int .u64 0], .bool false, .int .i64 0])/\∃ob',OX w w' hb P B R D bd bn wb ob' (N+1000000) e/\EF wx w' P B R D bd bn ob:=by
 refine (hpoll_any wx hb P B R D bd bn N ob e h.ow.host ok lim hN).mono ?_
 rintro x w' ⟨ob',a,b,c,f,y,e',rfl,q1,q2,q3,q4⟩
 obtain⟨rfl,rfl,rfl,rfl,rfl,rfl⟩:=q1.none_ he
 exact⟨rfl,ob',h.call q2 q4,q4⟩
theorem ox_complete {w wx:World}{hb P B R D bd bn wb N:Nat}{ob:Option Nat}{e e2:EngD}{n:Nat}{m:Int}(h:OX w wx hb P B R D bd bn wb ob N e)(ok:EngOk e)(lim:EngLim e)(hN:N<=1000000000000)(hn:n<18446744073709551616)(hm:(n:Int)=m)(he:e.complete m=some e2) :
  Calls Tryz.prog 13 #[.pointer (some ⟨hb,0,none⟩), .int .i64 4, .int .u64 m, .agg #[.int .i64 (-1), .int .i64 (-1), .int .i64 0, .int .i64 0]] wx fun x w'=>x= .returned (.int .i64 0)/\∃ob',OX w w' hb P B R D bd bn wb ob' (N+1000000) e2/\EF wx w' P B R D bd bn ob:=by
 subst hm
 have:=hdo4_any wx hb P B R D bd bn N ob e n h.ow.host ok lim hN hn
 rw [he] at this
 refine this.mono ?_
 rintro x w' ⟨ob',rfl,q2,q3,q4⟩
 exact⟨rfl,ob',h.call q2 q4,q4⟩
theorem ox_fail {w wx:World}{hb P B R D bd bn wb N:Nat}{ob:Option Nat}{e e2:EngD}{n:Nat}{m:Int}(h:OX w wx hb P B R D bd bn wb ob N e)(ok:EngOk e)(lim:EngLim e)(hN:N<=1000000000000)(hn:n<18446744073709551616)(hm:(n:Int)=m)(he:e.fail m=some e2) :
  Calls Tryz.prog 13 #[.pointer (some ⟨hb,0,none⟩), .int .i64 5, .int .u64 m, .agg #[.int .i64 (-1), .int .i64 (-1), .int .i64 0, .int .i64 0]] wx fun x w'=>x= .returned (.int .i64 0)/\∃ob',OX w w' hb P B R D bd bn wb ob' (N+1000000) e2/\EF wx w' P B R D bd bn ob:=by
 subst hm
 have:=hdo5_any wx hb P B R D bd bn N ob e n h.ow.host ok lim hN hn
 rw [he] at this
 refine this.mono ?_
 rintro x w' ⟨ob',rfl,q2,q3,q4⟩
 exact⟨rfl,ob',h.call q2 q4,q4⟩
theorem ox_tick {w wx:World}{hb P B R D bd bn wb N:Nat}{ob:Option Nat}{e:EngD}{n:Nat}{m:Int}(h:OX w wx hb P B R D bd bn wb ob N e)(ok:EngOk e)(lim:EngLim e)(hN:N<=1000000000000)(hn:n<18446744073709551616)(hm:(n:Int)=m) :
  Calls Tryz.prog 13 #[.pointer (some ⟨hb,0,none⟩), .int .i64 7, .int .u64 m, .agg #[.int .i64 (-1), .int .i64 (-1), .int .i64 0, .int .i64 0]] wx fun x w'=>x= .returned (.int .i64 0)/\∃ob' e2,TickR e m e2/\OX w w' hb P B R D bd bn wb ob' (N+1000000) e2/\EF wx w' P B R D bd bn ob:=by
 subst hm
 refine (hdo7_any wx hb P B R D bd bn N ob e n h.ow.host ok lim hN hn).mono ?_
 rintro x w' ⟨ob',e2,rfl,q1,q2,q3,q4⟩
 exact⟨rfl,ob',e2,q1,h.call q2 q4,q4⟩
theorem ox_submit {w wx:World}{hb P B R D bd bn wb N B0 bg c:Nat}{ob:Option Nat}{e:EngD}{F:FlowD}{L:Nat}(h:OX w wx hb P B R D bd bn wb ob N e)(ok:EngOk e)(lim:EngLim e)(hN:N<=1000000000000)(hF:FlOk F)(hL:L=(Zat F).length)(hr:ByteRow B0 wx (.slice (some ⟨bg,0,none⟩) L c) (Zat F)) :
  Calls Tryz.prog 9 #[.pointer (some ⟨hb,0,none⟩), .slice (some ⟨bg,0,none⟩) L c, .agg #[.int .i64 (-1), .int .i64 (-1), .int .i64 0, .int .i64 0]] wx fun x w'=>∃G n er e2 ob',x= .returned (.tuple #[.int .u64 n, .int .i64 er, .int .i64 (-1)])/\(FlOk G/\G.dl=F.dl/\G.n=F.n/\SameTo F G F.n)/\er=resV 5 (e.submit G)/\n=(if er=0 then e.lastRun+1 else 0)/\e2=(e.submit G).getD e/\OX w w' hb P B R D bd bn wb ob' (N+1000000) e2/\EF wx w' P B R D bd bn ob:=by
 have h9:1<=(Zat F).length:=by have:=flowB_nine (F:=F) hF.top.n1;omega
 have h4:=flowB_len hF.top hF.nat
 subst hL
 refine (hsubmit_any wx hb P B R D bd bn N B0 bg c ob e (Zat F) h.ow.host ok lim hN hr (flowB_byte F) h9 (by omega)).mono ?_
 rintro x w' ⟨ob',n,er,at_,e',rfl,q1,q2,q3,q4⟩
 rcases q1 with⟨h1,h2,_⟩ | ⟨y,h1,rfl,rfl,rfl,rfl⟩
 ·exact absurd (dec_fl hF h2).1 h1
 ·obtain⟨_,r2,r3,r4,r5,r6⟩:=dec_fl hF h1
  exact⟨_,_,_,_,ob',rfl,⟨r3,r4,r5,r6⟩,rfl,rfl,rfl,h.call q2 q4,q4⟩
theorem o1_lim (f:FlowD):EngLim (o1 f):=lim_of (by show (1:Int)<=100;decide) (by show (0:Int)<=1000000;decide) rfl
theorem o2_lim (f:FlowD):EngLim (o2 f):=lim_of (by show (1:Int)<=100;decide) (by show (1:Int)<=1000000;decide) rfl
theorem o3_lim (f:FlowD):EngLim (o3 f):=lim_of (by show (1:Int)<=100;decide) (by show (1:Int)<=1000000;decide) rfl
theorem o4_lim (f:FlowD):EngLim (o4 f):=lim_of (by show (1:Int)<=100;decide) (by show (1:Int)<=1000000;decide) rfl
theorem o5_lim (f:FlowD):EngLim (o5 f):=lim_of (by show (1:Int)<=100;decide) (by show (2:Int)<=1000000;decide) rfl
theorem o6_lim (f:FlowD):EngLim (o6 f):=lim_of (by show (1:Int)<=100;decide) (by show (2:Int)<=1000000;decide) rfl
theorem o7_lim (f:FlowD):EngLim (o7 f):=lim_of (by show (1:Int)<=100;decide) (by show (3:Int)<=1000000;decide) rfl
theorem lim_new:EngLim Za5:=lim_of (by show (0:Int)<=100;decide) (by show (0:Int)<=1000000;decide) rfl
theorem open_enc {w4 wx:World}{nb ab:Nat}(hT:TabIn w4)(hE:ErrTypeIn w4)(hg:2<w4.heap.size)(hb:Below w4.heap.size w4 wx)
  (hn:wx.heap[nb]? =some (.cells #[.int .i64 2, .int .i64 9, .int .i64 0, .int .i64 3, .int .i64 9, .int .i64 0, .slice none 0 0, .int .i64 1, .int .i64 9, .int .i64 0, .int .i64 1, .int .i64 1, .int .i64 0, .slice (some ⟨ab,0,none⟩) 1 1] 34 (0,0))) (ha:wx.heap[ab]? =some (.cells #[.int .i64 0] 3 (0,0))) :
  Calls Tryz.prog 8 #[.agg #[.int .i64 100, .slice (some ⟨nb,0,none⟩) 2 2]] wx fun x w'=>∃bg c,x= .returned (.tuple #[.slice (some ⟨bg,0,none⟩) (Zat fl2).length c, .int .i64 0, .int .i64 (-1)])/\ByteRow wx.heap.size w' (.slice (some ⟨bg,0,none⟩) (Zat fl2).length c) (Zat fl2)/\Below w4.heap.size w4 w':=by
 refine (pencode_any fl2 (some ⟨nb,0,none⟩) 2 _ _ wx (fl2_flowIn (hT.keep hg hb) (Nat.lt_of_lt_of_le hg hb.size) hn ha) (hE.keep hb)).mono ?_
 rintro e w2 ⟨⟨v,x,y,l,rfl,hchk,hrow,hl0,hl1⟩,hb2⟩
 obtain⟨rfl,rfl⟩:=hchk.one fl2_ok.chk
 obtain rfl:=hl0 rfl
 have h9:1<=(Zat fl2).length:=by have:=flowB_nine (F:=fl2) (by decide);omega
 rcases hrow.2 with⟨_,x2⟩ | ⟨g,cap,cur,rfl,_⟩
 ·omega
 ·exact⟨g,cap,rfl,hrow,hb.trans (hb2.mono hb.size)⟩
theorem open_open {w w1 w3:World}{hb D bd bn wb:Nat}(h:HostN w1 hb D bd bn)(hb1:Below w.heap.size w w1)(hl:w.heap.size<=hb/\w.heap.size<=D/\w.heap.size<=bd/\w.heap.size<=bn)(hne:hb≠D/\hb≠bd/\hb≠bn)(hb3:Below w1.heap.size w1 w3)(hw:w1.heap.size<=wb)(hwb:w3.heap[wb]? =some (.cells #[.int .i64 (-1), .int .i64 (-1), .int .i64 0, .int .i64 0] 26 (0,0)))(he:ErrTypeIn w)(hnm:Zbi w)(ht:TabIn w)(hg:4<w.heap.size)(hgt:2<w.heap.size)(hge:0<w.heap.size) :
  Calls Tryz.prog 22 #[.pointer (some ⟨hb,0,none⟩), .agg #[.int .i64 (-1), .int .i64 (-1), .int .i64 0, .int .i64 0]] w3 fun x w'=>x= .returned (.int .i64 0)/\∃P B,OX w w' hb P B B D bd bn wb none 2000000 Za5:=by
 have hw3:=hb1.trans (hb3.mono hb1.size)
 obtain⟨Dd,hfd⟩:=h.fd
 obtain⟨Dn,hfn⟩:=h.fn
 have l1:=Zaa h.host.blk
 have l2:=Zaa h.dk.blk
 have l3:=hfd.lt
 have l4:=hfn.lt
 have h3:HostN w3 hb D bd bn:=⟨h.host.at_ (hb3.block hb l1),h.dk.at_ (hb3.block D l2),⟨Dd,hfd.below hb3⟩,⟨Dn,hfn.below hb3⟩,h.ne⟩
 have hs3:=hb3.size
 refine (hopen_none w3 hb D bd bn 2000000 h3 (he.keep hw3) (fun i hi=>cell_later hw3 (hnm i hi)) (ht.keep hgt hw3) ⟨by omega,by omega,by omega,by omega⟩ hne (Nat.le_refl _)).mono ?_
 rintro x w' ⟨rfl,P,B,q1,q2,q3,q4⟩
 have hs1:=hb1.size
 refine⟨rfl,P,B,⟨q1,⟨q4.os.trans hw3.os,q4.tape.trans hw3.tape,q4.output.trans hw3.output,Nat.le_trans hw3.size q4.size,fun k hk=>(q4.block k (by omega) (by omega) (by omega) (by omega) (by omega)).trans (hw3.block k hk)⟩,⟨by omega,by omega,by omega,by omega,by omega⟩,by omega,by omega⟩,(q4.block wb (Zaa hwb) (by omega) (by omega) (by omega) (by omega)).trans hwb⟩
theorem o8_query {w:World}{hb P B R D bd bn N:Nat}{ob:Option Nat}{f:FlowD}(h:HostAt w hb P B R D bd bn ob N (o8 f)) :
  Calls Tryz.prog 14 #[.pointer (some ⟨hb,0,none⟩), .int .u64 1] w fun x w'=>∃a1 n1 c1 a2 n2 c2,x= .returned (.tuple #[.agg #[.int .u64 1, .int .i64 2, .slice a1 n1 c1, .slice a2 n2 c2], .int .i64 0])/\Below w.heap.size w w':=by
 have hf:(o8 f).find 1=some 0:=rfl
 refine (hquery_any w hb P B R D bd bn N ob (o8 f) 1 h).mono ?_
 rintro x w' ⟨v,er,rfl,q,hb⟩
 rcases q with⟨q,_⟩ | ⟨i,a1,a2,c1,c2,q1,rfl,rfl,_⟩
 ·rw [hf] at q;cases q
 ·rw [hf] at q1
  cases q1
  exact⟨_,_,_,_,_,_,rfl,hb⟩
set_option maxHeartbeats 16000000 in
theorem opened_any (w:World)(he:ErrTypeIn w)(hnm:Zbi w)(ht:TabIn w)(hg:4<w.heap.size)(hgt:2<w.heap.size)(hge:0<w.heap.size) :
  Calls Tryz.prog 5 #[] w fun x w'=>∃hb P B R D bd bn ob f,x= .returned (.pointer (some ⟨hb,0,none⟩))/\OW w w' hb P B R D bd bn ob 11000000 (o8 f)/\OpChain f:=by
 have HE:=Hid.mk (And.intro he (And.intro hnm (And.intro ht (And.intro hg (And.intro hgt hge)))))
 have HW:=Hid.mk (fun wx=>pwell_any wx)
 unfold Zbq at HW
 clear he hnm ht hg hgt hge
 go_enter Tryz.func5,Tryz.ntmps5
 go_upto_region 2 with (go_at_call 23;go_loud (refine (newhost_any w).mono ?_;rintro _ w1 ⟨hb,D,bd,bn,rfl,h1,h2,h3,h4,h5,h6⟩;have H1:=Hid.mk (And.intro h1 (And.intro h2 (And.intro (And.intro h3 (And.intro h4 h5)) h6)));clear h1 h2 h3 h4 h5 h6))
 go_upto_region 3 with (go_at_call 6;refine (HW.out w1).mono ?_;rintro _ w2 ⟨rfl,hb2⟩;have H2:=Hid.mk hb2;clear hb2)
 obtain⟨wb,hwb⟩:∃wb,wb=w2.heap.size:=⟨_,rfl⟩
 obtain⟨w3,hw3⟩:∃w3,w3=w2.alloc (.cells #[.int .i64 (-1), .int .i64 (-1), .int .i64 0, .int .i64 0] 26):=⟨_,rfl⟩
 rw [<-hw3,<-hwb]
 have hb3:Below w1.heap.size w1 w3:=by rw [hw3];exact H2.out.alloc H2.out.size _
 have hwk:w3.heap[wb]? =some (.cells #[.int .i64 (-1), .int .i64 (-1), .int .i64 0, .int .i64 0] 26 (0,0)):=by rw [hw3,hwb];exact heap_alloc_new w2 _
 have hwl:w1.heap.size<=wb:=by rw [hwb];exact H2.out.size
 have HOP:=Hid.mk (open_open H1.out.1 H1.out.2.2.2 H1.out.2.1 H1.out.2.2.1 hb3 hwl hwk HE.out.1 HE.out.2.1 HE.out.2.2.1 HE.out.2.2.2.1 HE.out.2.2.2.2.1 HE.out.2.2.2.2.2)
 have z0:w3.cell? ⟨wb,0,none⟩=some (.int .i64 (-1)):=Zam hwk 0
 have z1:w3.cell? ⟨wb,1,none⟩=some (.int .i64 (-1)):=Zam hwk 1
 have z2:w3.cell? ⟨wb,2,none⟩=some (.int .i64 0):=Zam hwk 2
 have z3:w3.cell? ⟨wb,3,none⟩=some (.int .i64 0):=Zam hwk 3
 clear hb3 hwk hwl hw3 hwb
 go_upto_region 4 with (go_at_call 22;refine HOP.out.mono ?_;rintro _ w4 ⟨rfl,P,B,q⟩;have X4:=Hid.mk q;clear q)
 have HEN:=Hid.mk (fun (wx:World) (nb ab:Nat)=>open_enc (w4:=w4) (wx:=wx) (nb:=nb) (ab:=ab) (HE.out.2.2.1.keep HE.out.2.2.2.2.1 X4.out.ow.bel) X4.out.ow.host.err (Nat.lt_of_lt_of_le HE.out.2.2.2.2.1 X4.out.ow.bel.size))
 obtain⟨L,hL⟩:∃L,L=(Zat fl2).length:=⟨_,rfl⟩
 rw [<-hL] at HEN
 have HL:=Hid.mk hL
 clear z0 z1 z2 z3 hL
 go_upto_region 5 with (go_at_call 8;refine (HEN.out _ (w4.heap.size+1) w4.heap.size (((Below.refl _ _).alloc (Nat.le_refl _) _).alloc (by simp) _) (Zbd _ _ _ _ (by simp)) (by rw [Zaj _ _ _ (by simp)];exact heap_alloc_new _ _)).mono ?_;rintro _ w5 ⟨bg,c,rfl,q1,q2⟩;have X5:=Hid.mk (And.intro (X4.out.below q2) q1);clear q1 q2)
 have z:=X5.out.1.cells
 obtain⟨⟨⟨z0,z1⟩,z2⟩,z3⟩:=z
 have HSU:=Hid.mk (ox_submit X5.out.1 engNew_ok lim_new (by omega) fl2_ok HL.out X5.out.2)
 clear HEN
 go_upto_region 6 with (go_at_call 9;refine HSU.out.mono ?_;rintro _ w6 ⟨f,n,er,e2,ob6,rfl,hf,h1,h2,h3,h4,h5⟩;have X6:=Hid.mk (And.intro hf (And.intro h1 (And.intro h2 (And.intro h3 h4))));clear hf h1 h2 h3 h4 h5)
 obtain⟨⟨hf1,hf2,hf3,hf4⟩,h1,h2,h3,h4⟩:=X6.out
 have hF:=f2_is hf2 hf3 hf4
 have hC:=opChain hF hf1
 rw [o1_is hF] at h1 h3
 replace h1:er=0:=h1
 replace h3:e2=o1 f:=h3
 subst h1 h3
 replace h2:n=1:=h2
 subst h2
 have HF:=Hid.mk (And.intro hF hC)
 have X6':=Hid.mk h4
 obtain⟨⟨⟨z0,z1⟩,z2⟩,z3⟩:=h4.cells
 clear hf1 hf2 hf3 hf4 h4 hF hC X5 HSU HOP
 have HP1:=Hid.mk (ox_poll X6'.out HF.out.2.k1 (o1_lim f) (by omega) (o2_is HF.out.1) rfl rfl)
 go_upto_region 7 with (go_at_call 12;refine HP1.out.mono ?_;rintro _ w7 ⟨rfl,ob7,q1,q2⟩;have X7:=Hid.mk q1;clear q1 q2)
 obtain⟨ta,hta⟩:∃ta,ta=w7.heap.size:=⟨_,rfl⟩
 obtain⟨y7,hy7⟩:∃y7,y7=w7.alloc (.cells #[.int .u64 1, .int .i64 0, .int .i64 1, .int .u64 1] 43):=⟨_,rfl⟩
 rw [<-hy7,<-hta]
 have hx:=X7.out.below (show Below w7.heap.size w7 y7 from by rw [hy7];exact (Below.refl _ _).alloc (Nat.le_refl _) _)
 have ht:TkC y7 ta 1 0 1 1:=⟨by rw [hy7,hta];exact heap_alloc_new _ _⟩
 have Y7:=Hid.mk (And.intro hx ht)
 obtain⟨⟨⟨z0,z1⟩,z2⟩,z3⟩:=hx.cells
 clear hx ht hy7 hta X7 HP1 X6
 have HP2:=Hid.mk (ox_pollN Y7.out.1 HF.out.2.k2 (o2_lim f) (by omega) (o2_poll f))
 go_upto_region 8 with (go_at_call 12;refine HP2.out.mono ?_;rintro _ w8 ⟨rfl,ob8,q1,q2⟩;have X8:=Hid.mk (And.intro q1 (Y7.out.2.call Y7.out.1 q2));clear q1 q2)
 obtain⟨y8,hy8⟩:∃y8,y8=w8.alloc (.cells #[.int .u64 0, .int .i64 0, .int .i64 0, .int .u64 0] 43):=⟨_,rfl⟩
 obtain⟨tx,htx⟩:∃tx,tx=w8.heap.size:=⟨_,rfl⟩
 rw [<-hy8,<-htx]
 have hb8:Below w8.heap.size w8 y8:=by rw [hy8];exact (Below.refl _ _).alloc (Nat.le_refl _) _
 have hx:=X8.out.1.below hb8
 have ht:=X8.out.2.belowC hb8
 have Y8:=Hid.mk (And.intro hx ht)
 obtain⟨⟨⟨z0,z1⟩,z2⟩,z3⟩:=hx.cells
 obtain⟨⟨⟨_,_⟩,_⟩,k3⟩:=ht.cells
 clear hx ht hy8 htx hb8 X8 HP2 Y7
 have HP3:=Hid.mk (ox_fail (n:=1) (m:=1) Y8.out.1 HF.out.2.k2 (o2_lim f) (by omega) (by omega) rfl (o3_is HF.out.1))
 go_upto_region 9 with (go_at_call 13;refine HP3.out.mono ?_;rintro _ w9 ⟨rfl,ob9,q1,q2⟩;have X9:=Hid.mk (And.intro q1 (Y8.out.2.call Y8.out.1 q2));clear q1 q2)
 obtain⟨⟨⟨z0,z1⟩,z2⟩,z3⟩:=X9.out.1.cells
 clear k3 Y8 HP3
 have HP4:=Hid.mk (ox_tick (n:=3) (m:=3) X9.out.1 HF.out.2.k3 (o3_lim f) (by omega) (by omega) rfl)
 go_upto_region 10 with (go_at_call 13;refine HP4.out.mono ?_;rintro _ w10 ⟨rfl,ob10,e4,q0,q1,q2⟩;have X10:=Hid.mk (And.intro q0 (And.intro q1 (X9.out.2.call X9.out.1 q2)));clear q0 q1 q2)
 obtain⟨q0,q1,q2⟩:=X10.out
 obtain rfl:=o4_uniq q0
 have Y10:=Hid.mk (And.intro q1 q2)
 obtain⟨⟨⟨z0,z1⟩,z2⟩,z3⟩:=q1.cells
 clear q0 q1 q2 X9 HP4 X10
 have HP5:=Hid.mk (ox_poll Y10.out.1 HF.out.2.k4 (o4_lim f) (by omega) (o5_is HF.out.1) rfl rfl)
 go_upto_region 11 with (go_at_call 12;refine HP5.out.mono ?_;rintro _ w11 ⟨rfl,ob11,q1,q2⟩;have X11:=Hid.mk (And.intro q1 (Y10.out.2.call Y10.out.1 q2));clear q1 q2)
 obtain⟨y11,hy11⟩:∃y,y=w11.alloc (.cells #[.int .u64 1, .int .i64 0, .int .i64 2, .int .u64 2] 43):=⟨_,rfl⟩
 obtain⟨tb,htb⟩:∃tb,tb=w11.heap.size:=⟨_,rfl⟩
 rw [<-hy11,<-htb]
 have hb11:Below w11.heap.size w11 y11:=by rw [hy11];exact (Below.refl _ _).alloc (Nat.le_refl _) _
 have hx:=X11.out.1.below hb11
 have ht:=X11.out.2.belowC hb11
 have ht2:TkC y11 tb 1 0 2 2:=⟨by rw [hy11,htb];exact heap_alloc_new _ _⟩
 have Y11:=Hid.mk (And.intro hx (And.intro ht ht2))
 obtain⟨⟨⟨z0,z1⟩,z2⟩,z3⟩:=hx.cells
 obtain⟨⟨⟨_,_⟩,_⟩,k3⟩:=ht2.cells
 clear hx ht ht2 hy11 htb hb11 X11 HP5 Y10
 have HP6:=Hid.mk (ox_complete (n:=2) (m:=2) Y11.out.1 HF.out.2.k5 (o5_lim f) (by omega) (by omega) rfl (o6_is HF.out.1))
 go_upto_region 12 with (go_at_call 13;refine HP6.out.mono ?_;rintro _ w12 ⟨rfl,ob12,q1,q2⟩;have X12:=Hid.mk (And.intro q1 (And.intro (Y11.out.2.1.call Y11.out.1 q2) (Y11.out.2.2.call Y11.out.1 q2)));clear q1 q2)
 obtain⟨⟨⟨z0,z1⟩,z2⟩,z3⟩:=X12.out.1.cells
 clear k3 Y11 HP6
 have HP7:=Hid.mk (ox_poll X12.out.1 HF.out.2.k6 (o6_lim f) (by omega) (o7_is HF.out.1) rfl rfl)
 go_upto_region 13 with (go_at_call 12;refine HP7.out.mono ?_;rintro _ w13 ⟨rfl,ob13,q1,q2⟩;have X13:=Hid.mk (And.intro q1 (And.intro (X12.out.2.1.call X12.out.1 q2) (X12.out.2.2.call X12.out.1 q2)));clear q1 q2)
 obtain⟨y13,hy13⟩:∃y,y=w13.alloc (.cells #[.int .u64 1, .int .i64 1, .int .i64 1, .int .u64 3] 43):=⟨_,rfl⟩
 obtain⟨tc,htc⟩:∃tc,tc=w13.heap.size:=⟨_,rfl⟩
 rw [<-hy13,<-htc]
 have hb13:Below w13.heap.size w13 y13:=by rw [hy13];exact (Below.refl _ _).alloc (Nat.le_refl _) _
 have hx:=X13.out.1.below hb13
 have ht:=X13.out.2.1.belowC hb13
 have ht2:=X13.out.2.2.belowC hb13
 have ht3:TkC y13 tc 1 1 1 3:=⟨by rw [hy13,htc];exact heap_alloc_new _ _⟩
 have Y13:=Hid.mk (And.intro hx (And.intro ht (And.intro ht2 ht3)))
 obtain⟨⟨⟨z0,z1⟩,z2⟩,z3⟩:=hx.cells
 obtain⟨⟨⟨_,_⟩,_⟩,k3⟩:=ht3.cells
 clear hx ht ht2 ht3 hy13 htc hb13 X12 X13 HP7
 have HP8:=Hid.mk (ox_complete (n:=3) (m:=3) Y13.out.1 HF.out.2.k7 (o7_lim f) (by omega) (by omega) rfl (o8_is HF.out.1))
 go_upto_region 14 with (go_at_call 13;refine HP8.out.mono ?_;rintro _ w14 ⟨rfl,ob14,q1,q2⟩;have X14:=Hid.mk (And.intro q1 (And.intro (Y13.out.2.1.call Y13.out.1 q2) (And.intro (Y13.out.2.2.1.call Y13.out.1 q2) (Y13.out.2.2.2.call Y13.out.1 q2))));clear q1 q2)
 clear k3 z0 z1 z2 z3 Y13 HP8
 have HQ:=Hid.mk (o8_query X14.out.1.ow.host)
 go_upto_region 15 with (go_at_call 14;refine HQ.out.mono ?_;rintro _ w15 ⟨u1,u2,u3,u4,u5,u6,rfl,hb⟩;have hx:=X14.out.1.below hb;have h1:=X14.out.2.1.belowC hb;have h2:=X14.out.2.2.1.belowC hb;have h3:=X14.out.2.2.2.belowC hb;have X15:=Hid.mk (And.intro hx (And.intro h1 (And.intro h2 h3)));clear hx h1 h2 h3 hb)
 obtain⟨y15,hy15⟩:∃y,y=w15.alloc (.cells #[.int .u64 1, .int .i64 2, .slice u1 u2 u3, .slice u4 u5 u6] 50):=⟨_,rfl⟩
 obtain⟨ti,hti⟩:∃ti,ti=w15.heap.size:=⟨_,rfl⟩
 rw [<-hy15,<-hti]
 have hb15:Below w15.heap.size w15 y15:=by rw [hy15];exact (Below.refl _ _).alloc (Nat.le_refl _) _
 have hx:=X15.out.1.below hb15
 obtain⟨⟨⟨_,a1⟩,a2⟩,a3⟩:=(X15.out.2.1.belowC hb15).cells
 obtain⟨⟨⟨_,b1⟩,b2⟩,b3⟩:=(X15.out.2.2.1.belowC hb15).cells
 obtain⟨⟨⟨_,c1⟩,_⟩,_⟩:=(X15.out.2.2.2.belowC hb15).cells
 have i1:y15.cell? ⟨ti,1,none⟩=some (.int .i64 2):=by rw [hy15,hti,Zam (heap_alloc_new _ _)];rfl
 have Y15:=Hid.mk hx
 clear hx hy15 hti hb15 HQ X14 X15
 go_wp2_with fail
 go_ret
 exact⟨hb,P,B,B,D,bd,bn,_,f,rfl,Y15.out.ow,HF.out.2⟩
theorem task_held:Tryz.prog.stoodInHeld 43=false:=by kernel_rfl
theorem task_fields:Tryz.prog.underlying 43=some (.struct (Tryz.prog.fieldsOf 43)):=by kernel_rfl
theorem neq_task (w:World)(a b c d:Int):(binOp .neq 43 (.agg #[.int .u64 a, .int .i64 b, .int .i64 c, .int .u64 d]) (.agg #[.int .u64 a, .int .i64 b, .int .i64 c, .int .u64 d])).run Tryz.prog w= .ok (.bool false) w:=by
 rw [run_neq_struct,show (10000:Nat)=9999+1 from rfl,run_equalIn_agg _ _ _ _ _ task_fields task_held]
 have h1:=Tryz.underlying43
 have h2:=Tryz.underlying39
 have h3:=Tryz.underlying3
 go_simp
def wtV (p:PlD):List Value:=[.int .u64 p.run, .int .i64 p.node, .int .i64 1, .int .u64 0]
theorem wtV_len (p:PlD):(wtV p).length=4:=rfl
theorem OX.want {w wx wy:World}{hb P B R D bd bn wb N:Nat}{ob:Option Nat}{e:EngD}{row:Option Nat}(h:OX w wx hb P B R D bd bn wb ob N e)(hg:wx.grownBy wy row)(hr:∀g,row=some g->(∃cur,wx.heap[g]? =some (.cells cur 43 (0,0)))/\hb<g/\P<g/\4<g)(hrow:∀g,row=some g->w.heap.size<=g):OX w wy hb P B R D bd bn wb ob N e:=by
 have hwb:wy.heap[wb]? =wx.heap[wb]? :=hg.block wb (Zaa h.wb) fun x=>by
  obtain⟨⟨cur,hc⟩,_⟩:=hr wb x.symm
  rw [h.wb] at hc
  simp only [Option.some.injEq,Obj.cells.injEq] at hc
  exact absurd hc.2.1 (by decide)
 obtain⟨g,d,h1,ws⟩:=h.ow.host.ex
 have hbe:0<wx.heap.size:=World.block_lt_of_cell? _ _ h.ow.host.err
 have hgl:=h1.ne.l.gl
 have hE:EngAt wy P B R D bd bn ob g d e:=by
  cases row with
  | none=>exact h1.below ⟨hg.os,hg.tape,hg.output,hg.size,fun k hk=>hg.block k hk (by simp)⟩
  | some rg =>
   obtain⟨⟨cur,hc⟩,r1,r2,r3⟩:=hr rg rfl
   exact h1.one ⟨hg.os,hg.tape,hg.output,hg.size,fun k hk hne=>hg.block k hk (fun x=>hne (Option.some.inj x))⟩ (by omega) ⟨cur,(0,0),hc⟩ r3
 have hne:∀k,k<=hb\/k<=P\/k<=4->some k≠row:=fun k hk x=>by
  obtain⟨_,r1,r2,r3⟩:=hr k x.symm
  omega
 refine⟨⟨⟨⟨g,d,hE,ws⟩,h.ow.host.host.at_ (hg.block hb (Zaa h.ow.host.host.blk) (hne hb (Or.inl (Nat.le_refl _)))),(World.cell?_of_block (a:=⟨0,0,none⟩) (hg.block 0 hbe (hne _ (Or.inr (Or.inr (by omega)))))).trans h.ow.host.err,h.ow.host.ne⟩,?_,h.ow.far⟩,hwb.trans h.wb⟩
 exact⟨hg.os.trans h.ow.bel.os,hg.tape.trans h.ow.bel.tape,hg.output.trans h.ow.bel.output,Nat.le_trans h.ow.bel.size hg.size,fun k hk=>(hg.block k (Nat.lt_of_lt_of_le hk h.ow.bel.size) (fun x=>by have:=hrow k x.symm;omega)).trans (h.ow.bel.block k hk)⟩
theorem wRow.call {w wx wy:World}{hb P B R D bd bn wb N Bw n:Nat}{ob:Option Nat}{e:EngD}{v:Value}{xs:List Value}(t:wRow wx Bw 43 4 v n xs)(h:OX w wx hb P B R D bd bn wb ob N e)(hf:EF wx wy P B R D bd bn ob)(hB:P<Bw/\D<Bw/\bd<Bw/\bn<Bw):wRow wy Bw 43 4 v n xs :=
 t.kept fun g cur hg hc _=>(hf.keepT hc ⟨by omega,by omega,by omega,by omega⟩ (by decide)).trans hc.symm
theorem fi_qtask {e:EngD}{r:Nat}{q:List PlD}{T:Int}(h:FI e r q T):e.queue.flatMap e.qtask=q.flatMap wtV/\e.queue.length=q.length:=by
 have hq:=h.q
 refine⟨?_,by rw [hq]⟩
 rw [hq]
 have:∀p∈q,e.qtask p=wtV p:=fun p hp=>by
  obtain⟨i,q1,q2,q3,q4⟩:=(h.ok.wk.qm p).1 (by rw [hq];exact hp)
  have hst1:=h.ok.wk.runs_of q1 q3 (by omega)
  have hi1:1<=i:=by
   rcases Nat.eq_zero_or_pos i with c | c
   ·subst c;exact absurd hst1 h.old
   ·exact c
  have hR:=h.ok.wk.runs i q1
  have hff:=h.ff i hi1 q1
  have hs:=hR.steps p.node q3
  have htr:((e.at_ i).at_ p.node).tries=0:=by
   have:=hs.more (Or.inl q4)
   rw [hff.bu p.node (by rw [<-hR.len];exact q3)] at this
   have:=hs.tr0
   omega
  have hfd:e.find p.run=some i:=by rw [<-q2];exact h.ok.wk.find_at q1
  unfold EngD.qtask tkC wtV EngD.tryOf
  rw [hfd]
  simp [htr]
 have key:∀l:List PlD,(∀p∈l,e.qtask p=wtV p)->l.flatMap e.qtask=l.flatMap wtV:=fun l=>by
  induction l with
  | nil=>intro _;rfl
  | cons p l ih=>intro hl;rw [List.flatMap_cons,List.flatMap_cons,hl p (List.mem_cons_self ..),ih (fun x hx=>hl x (List.mem_cons_of_mem _ hx))]
 exact key q this
end Go.Proofs.YtgdcjccbdmcebabGreatDoor
namespace Go.Proofs.YtgdcjccbdmcebabGreatDoor
open Go.RowKit
set_option maxRecDepth 100000
def FE (w wx:World)(hb P B R D bd bn wb r K Z:Nat)(q:List PlD):Prop:=∃ob N e,OX w wx hb P B R D bd bn wb ob N e/\FI e r q (3+(K:Int))/\N<=Z
structure FC (w:World)(hb P D bd bn Bw:Nat):Prop where
 hb:hb<Bw
 p:P<Bw
 d:D<Bw
 md:bd<Bw
 mn:bn<Bw
 ws:w.heap.size<=Bw
 gl:4<w.heap.size
def Stay (wx wy:World)(Bw:Nat):Prop:=wx.heap.size<=wy.heap.size/\∀v n xs,wRow wx Bw 43 4 v n xs->wRow wy Bw 43 4 v n xs
theorem FE.below {w wx wy:World}{hb P B R D bd bn wb r K Z:Nat}{q:List PlD}(h:FE w wx hb P B R D bd bn wb r K Z q)(hb1:Below wx.heap.size wx wy):FE w wy hb P B R D bd bn wb r K Z q:=by
 obtain⟨ob,N,e,h1,h2,h3⟩:=h
 exact⟨ob,N,e,h1.below hb1,h2,h3⟩
theorem FE.mono {w wx:World}{hb P B R D bd bn wb r K Z K' Z':Nat}{q:List PlD}(h:FE w wx hb P B R D bd bn wb r K Z q)(hK:K<=K')(hZ:Z<=Z'):FE w wx hb P B R D bd bn wb r K' Z' q:=by
 obtain⟨ob,N,e,h1,h2,h3⟩:=h
 exact⟨ob,N,e,h1,{ h2 with tok:=by have:=h2.tok;omega },by omega⟩
theorem FE.bel {w wx:World}{hb P B R D bd bn wb r K Z:Nat}{q:List PlD}(h:FE w wx hb P B R D bd bn wb r K Z q):Below w.heap.size w wx:=by
 obtain⟨ob,N,e,h1,_⟩:=h
 exact h1.ow.bel
theorem FE.err {w wx:World}{hb P B R D bd bn wb r K Z:Nat}{q:List PlD}(h:FE w wx hb P B R D bd bn wb r K Z q):ErrTypeIn wx:=by
 obtain⟨ob,N,e,h1,_⟩:=h
 exact h1.ow.host.err
theorem FE.cells {w wx:World}{hb P B R D bd bn wb r K Z:Nat}{q:List PlD}(h:FE w wx hb P B R D bd bn wb r K Z q):((wx.cell? ⟨wb,0,none⟩=some (.int .i64 (-1))/\wx.cell? ⟨wb,1,none⟩=some (.int .i64 (-1)))/\wx.cell? ⟨wb,2,none⟩=some (.int .i64 0))/\wx.cell? ⟨wb,3,none⟩=some (.int .i64 0):=by
 obtain⟨ob,N,e,h1,_⟩:=h
 exact h1.cells
theorem FI.lim {e:EngD}{r:Nat}{q:List PlD}{K:Nat}(h:FI e r q (3+(K:Int)))(hr:r<=6)(hK:K<=1000):EngLim e :=
 lim_of (by rw [h.lr];omega) (by have:=h.tok;omega) h.sd
theorem FE.want {w wx wy:World}{hb P B R D bd bn wb r K Z Bw:Nat}{q:List PlD}(h:FE w wx hb P B R D bd bn wb r K Z q)(c:FC w hb P D bd bn Bw){v:Value}{n:Nat}{xs:List Value}(t:wRow wx Bw 43 4 v n xs)(hg:wx.grownBy wy v.ownBlock):FE w wy hb P B R D bd bn wb r K Z q:=by
 obtain⟨ob,N,e,h1,h2,h3⟩:=h
 have hc1:=c.hb;have hc2:=c.p;have hc3:=c.ws;have hc4:=c.gl
 refine⟨ob,N,e,h1.want hg (fun g hgv=> ?_) (fun g hgv=>by have:=(t.lt g hgv).1;omega),h2,h3⟩
 have hlt:=(t.lt g hgv).1
 rcases t.2 with⟨rfl,_⟩ | ⟨g',o,cap,cur,rfl,_,hh,_⟩
 ·simp [Value.ownBlock] at hgv
 ·simp [Value.ownBlock] at hgv
  subst hgv
  exact⟨⟨cur,hh⟩,by omega,by omega,by omega⟩
theorem fe_submit {w wx:World}{hb P B R D bd bn wb r K Z Bw B0 bg c n L:Nat}{q:List PlD}(h:FE w wx hb P B R D bd bn wb r K Z q)(fc:FC w hb P D bd bn Bw)(hr:r<5)(hK:K<=1000)(hZ:Z<=1000000000)(h1:1<=n)(h2:n<=12)(hL:L=(Zat (flF n)).length)(hrow:ByteRow B0 wx (.slice (some ⟨bg,0,none⟩) L c) (Zat (flF n))) :
  Calls Tryz.prog 9 #[.pointer (some ⟨hb,0,none⟩), .slice (some ⟨bg,0,none⟩) L c, .agg #[.int .i64 (-1), .int .i64 (-1), .int .i64 0, .int .i64 0]] wx fun x w'=>∃run,x= .returned (.tuple #[.int .u64 run, .int .i64 0, .int .i64 (-1)])/\FE w w' hb P B R D bd bn wb (r+1) K (Z+1000000) (q++Zcp run n)/\Stay wx w' Bw:=by
 obtain⟨ob,N,e,x1,x2,x3⟩:=h
 refine (ox_submit x1 x2.ok (x2.lim (by omega) hK) (by omega) (flF_ok h1 h2) hL hrow).mono ?_
 rintro x w' ⟨G,m,er,e2,ob',rfl,⟨g1,g2,g3,g4⟩,rfl,rfl,rfl,hx,hf⟩
 obtain⟨e',s1,s2⟩:=fi_submit x2 hr (ff_is (n:=n) g1 g3 g4)
 rw [s1] at hx ⊢
 have hGn:G.n=n:=g3
 rw [hGn] at s2
 exact⟨e.lastRun+1,rfl,⟨ob',_,e',hx,s2,by omega⟩,hf.size,fun v k xs t=>t.call x1 hf ⟨fc.p,fc.d,fc.md,fc.mn⟩⟩
theorem fe_queue {w wx:World}{hb P B R D bd bn wb r K Z:Nat}{q:List PlD}(h:FE w wx hb P B R D bd bn wb r K Z q) :
  Calls Tryz.prog 10 #[.pointer (some ⟨hb,0,none⟩)] wx fun x w'=>∃a c,x= .returned (.slice a q.length c)/\w'.ownsRow wx.heap.size 43 4 (.slice a q.length c) q.length (q.flatMap wtV)/\Below wx.heap.size wx w':=by
 obtain⟨ob,N,e,x1,x2,x3⟩:=h
 obtain⟨y1,y2⟩:=fi_qtask x2
 have:=hqueue_any wx hb P B R D bd bn N ob e x1.ow.host x2.ok.wk
 rw [y1,y2] at this
 refine this.mono ?_
 rintro x w' ⟨a,c,rfl,_,z2,z3⟩
 exact⟨a,c,rfl,z2,z3⟩
def FP (w wx:World)(hb P B R D bd bn wb r K Z:Nat)(p:PlD)(q:List PlD)(tok:Int)(m:Nat):Prop:=∃ob N e1 e2 i,OX w wx hb P B R D bd bn wb ob N e1/\EngOk e1/\EngLim e1/\e1.complete tok=some e2/\0<=tok/\tok<=2000/\FI e2 r (q++moreL p m) (3+((K+1:Nat):Int))/\e2.find p.run=some i/\(e2.at_ i).steps.length=m/\p.node<m/\m<=12/\N<=Z
theorem FP.below {w wx wy:World}{hb P B R D bd bn wb r K Z:Nat}{p:PlD}{q:List PlD}{tok:Int}{m:Nat}(h:FP w wx hb P B R D bd bn wb r K Z p q tok m)(hb1:Below wx.heap.size wx wy):FP w wy hb P B R D bd bn wb r K Z p q tok m:=by
 obtain⟨ob,N,e1,e2,i,h1,h2⟩:=h
 exact⟨ob,N,e1,e2,i,h1.below hb1,h2⟩
theorem FP.cells {w wx:World}{hb P B R D bd bn wb r K Z:Nat}{p:PlD}{q:List PlD}{tok:Int}{m:Nat}(h:FP w wx hb P B R D bd bn wb r K Z p q tok m):((wx.cell? ⟨wb,0,none⟩=some (.int .i64 (-1))/\wx.cell? ⟨wb,1,none⟩=some (.int .i64 (-1)))/\wx.cell? ⟨wb,2,none⟩=some (.int .i64 0))/\wx.cell? ⟨wb,3,none⟩=some (.int .i64 0):=by
 obtain⟨ob,N,e1,e2,i,h1,_⟩:=h
 exact h1.cells
theorem FP.small {w wx:World}{hb P B R D bd bn wb r K Z:Nat}{p:PlD}{q:List PlD}{tok:Int}{m:Nat}(h:FP w wx hb P B R D bd bn wb r K Z p q tok m):p.node<m/\m<=12:=by
 obtain⟨ob,N,e1,e2,i,_,_,_,_,_,_,_,_,_,h1,h2,_⟩:=h
 exact⟨h1,h2⟩
theorem fe_poll {w wx:World}{hb P B R D bd bn wb r K Z Bw:Nat}{p:PlD}{q:List PlD}(h:FE w wx hb P B R D bd bn wb r K Z (p::q))(fc:FC w hb P D bd bn Bw)(hr:r<=5)(hK:K<=1000)(hZ:Z<=1000000000) :
  Calls Tryz.prog 12 #[.pointer (some ⟨hb,0,none⟩), .agg #[.int .i64 (-1), .int .i64 (-1), .int .i64 0, .int .i64 0]] wx fun x w'=>∃tok m,x= .returned (.tuple #[.agg #[.int .u64 p.run, .int .i64 p.node, .int .i64 1, .int .u64 tok], .bool true, .int .i64 0])/\FP w w' hb P B R D bd bn wb r K (Z+1000000) p q tok m/\Stay wx w' Bw:=by
 obtain⟨ob,N,e,x1,x2,x3⟩:=h
 obtain⟨e1,e2,i,s1,s2,s3,s4,s5,s6,s7,s8,s9,s10,s11,s12,s13⟩:=fi_step x2
 have htk:=x2.tok
 have hl:=x2.lr
 refine (ox_poll x1 x2.ok (x2.lim (by omega) hK) (by omega) s1 rfl rfl).mono ?_
 rintro x w' ⟨rfl,ob',hx,hf⟩
 refine⟨e.lastTok+1,_,rfl,⟨ob',_,e1,e2,i,hx,s3,lim_of (by rw [s6,hl];omega) (by rw [s5];omega) s4,s2,by omega,by omega,?_,s8,rfl,s10,s11,by omega⟩,hf.size,fun v k xs t=>t.call x1 hf ⟨fc.p,fc.d,fc.md,fc.mn⟩⟩
 exact { s13 with tok:=by have:=s13.tok;push_cast;omega }
theorem fe_pollN {w wx:World}{hb P B R D bd bn wb r K Z Bw:Nat}(h:FE w wx hb P B R D bd bn wb r K Z [])(fc:FC w hb P D bd bn Bw)(hr:r<=5)(hK:K<=1000)(hZ:Z<=1000000000) :
  Calls Tryz.prog 12 #[.pointer (some ⟨hb,0,none⟩), .agg #[.int .i64 (-1), .int .i64 (-1), .int .i64 0, .int .i64 0]] wx fun x w'=>x= .returned (.tuple #[.agg #[.int .u64 0, .int .i64 0, .int .i64 0, .int .u64 0], .bool false, .int .i64 0])/\FE w w' hb P B R D bd bn wb r K (Z+1000000) []/\Stay wx w' Bw:=by
 obtain⟨ob,N,e,x1,x2,x3⟩:=h
 refine (ox_pollN x1 x2.ok (x2.lim (by omega) hK) (by omega) (by unfold EngD.poll;rw [x2.q])).mono ?_
 rintro x w' ⟨rfl,ob',hx,hf⟩
 exact⟨rfl,⟨ob',_,e,hx,x2,by omega⟩,hf.size,fun v k xs t=>t.call x1 hf ⟨fc.p,fc.d,fc.md,fc.mn⟩⟩
def FQ (w wx:World)(hb P B R D bd bn wb r K Z:Nat)(p:PlD)(q:List PlD)(m:Nat):Prop:=∃ob N e2 i,OX w wx hb P B R D bd bn wb ob N e2/\FI e2 r (q++moreL p m) (3+((K+1:Nat):Int))/\e2.find p.run=some i/\(e2.at_ i).steps.length=m/\N<=Z
theorem FQ.fe {w wx:World}{hb P B R D bd bn wb r K Z:Nat}{p:PlD}{q:List PlD}{m:Nat}(h:FQ w wx hb P B R D bd bn wb r K Z p q m):FE w wx hb P B R D bd bn wb r (K+1) Z (q++moreL p m):=by
 obtain⟨ob,N,e2,i,h1,h2,h3,h4,h5⟩:=h
 exact⟨ob,N,e2,h1,h2,h5⟩
theorem fp_complete {w wx:World}{hb P B R D bd bn wb r K Z Bw:Nat}{p:PlD}{q:List PlD}{tok:Int}{m:Nat}(h:FP w wx hb P B R D bd bn wb r K Z p q tok m)(fc:FC w hb P D bd bn Bw)(hZ:Z<=1000000000) :
  Calls Tryz.prog 13 #[.pointer (some ⟨hb,0,none⟩), .int .i64 4, .int .u64 tok, .agg #[.int .i64 (-1), .int .i64 (-1), .int .i64 0, .int .i64 0]] wx fun x w'=>x= .returned (.int .i64 0)/\FQ w w' hb P B R D bd bn wb r K (Z+1000000) p q m/\Stay wx w' Bw/\∀tb a b c f,TkC wx tb a b c f->TkC w' tb a b c f:=by
 obtain⟨ob,N,e1,e2,i,x1,x2,x3,x4,x5,x6,x7,x8,x9,x10,x11,x12⟩:=h
 refine (ox_complete (n:=tok.toNat) x1 x2 x3 (by omega) (by omega) (by omega) x4).mono ?_
 rintro x w' ⟨rfl,ob',hx,hf⟩
 exact⟨rfl,⟨ob',_,e2,i,hx,x7,x8,x9,by omega⟩,⟨hf.size,fun v k xs t=>t.call x1 hf ⟨fc.p,fc.d,fc.md,fc.mn⟩⟩,fun tb a b c f t=>t.call x1 hf⟩
theorem fq_query {w wx:World}{hb P B R D bd bn wb r K Z:Nat}{p:PlD}{q:List PlD}{m:Nat}(h:FQ w wx hb P B R D bd bn wb r K Z p q m) :
  Calls Tryz.prog 14 #[.pointer (some ⟨hb,0,none⟩), .int .u64 p.run] wx fun x w'=>∃st a1 c1 a2 c2,x= .returned (.tuple #[.agg #[.int .u64 p.run, .int .i64 st, .slice a1 m c1, .slice a2 m c2], .int .i64 0])/\Below wx.heap.size wx w':=by
 obtain⟨ob,N,e2,i,x1,x2,x3,x4,x5⟩:=h
 refine (hquery_any wx hb P B R D bd bn N ob e2 p.run x1.ow.host).mono ?_
 rintro x w' ⟨v,er,rfl,q1,hb1⟩
 rcases q1 with⟨q1,_⟩ | ⟨i',a1,a2,c1,c2,q1,rfl,rfl,_⟩
 ·rw [x3] at q1;cases q1
 ·rw [x3] at q1
  cases q1
  rw [x4]
  exact⟨_,a1,c1,a2,c2,rfl,hb1⟩
end Go.Proofs.YtgdcjccbdmcebabGreatDoor
