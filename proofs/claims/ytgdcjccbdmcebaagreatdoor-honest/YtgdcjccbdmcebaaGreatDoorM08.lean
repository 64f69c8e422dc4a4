import Derived.Test.YtgdcjccbdmcebaaGreatDoorM07
set_option linter.all false
set_option maxHeartbeats 8000000
set_option maxRecDepth 100000
open Go renaming plainElem->QGl,plainElem_int->QGm,heap_alloc_new->QFm
open Go.Maps renaming Tidy->QDp,atKey_put_same->QGn,has->QDr,size->QDq
open Go.World renaming ownsMap.len->QGo,cell?->QEk,ownsMap.update->QGp,cell?_of_block->QEc
open List renaming mem_append->QCn,length_singleton->QGq,getElem_of_mem->QEt,getElem_mem->QAi
namespace Go.Proofs.YtgdcjccbdmcebaaGreatDoor
open Tryz
open Go.RowKit
attribute [local go_sem ↓] Go.wp_at_zero Go.wp_at_succ
variable {l l':List Tm}{w w':World}{K:Nat->Prop}{D:DataW Unit}{b n P B bm vb:Nat}{nd id r q x:Int}{wd:Nat->Nat}{qs:List Int}{t:Tm}{cs:Array Value}
structure Bh (w:World)(P B:Nat)(K:Nat->Prop)(now:Nat)(l:List Tm):Prop where
 mem:∃dm BF wd,Bw w P B K now dm BF (Zai now l) wd/\NB w B dm l/\Words wd (Zai now l)
 MU:now<=4611686018427387904
 Br:l.length<=200
 later:CR now l
 ids:ED l
 apart:Bk l
theorem nil_eq (w:World):(binOp .eql 155 (.map none) (.map none)).run prog w=.ok (.bool true) w:=by kernel_rfl
theorem nil_ne (bm:Nat)(w:World):(binOp .eql 155 (.map (some bm)) (.map none)).run prog w=.ok (.bool false) w:=by kernel_rfl
def AK (x:Int):Value:=if x=0 then .nilIface else .iface 32 (.int .i64 x)
theorem Lv (now:Nat)(tm:Int)(a:0<=tm)(hn:now<=4611686018427387904):min (max tm ((now:Int)+1)) 4611686018427387904=Za2 now tm:=by
 unfold Za2
 split<;>split<;>omega
theorem UC (now:Nat)(tm:Int)(a:0<=tm)(hn:now<=4611686018427387904):(now:Int)<=Za2 now tm/\Za2 now tm<=4611686018427387904:=by
 rw[<-Lv now tm a hn];omega
theorem CR.snoc (h:CR n l)(c:(n:Int)<=t.tm/\t.tm<=4611686018427387904):CR n (l++[t]):=by
 intro x d;rcases List.mem_append.1 d with a | a
 .exact h x a
 .simp at a;subst a;exact c
theorem ED.snoc (h:ED l)(c:FB t.id):ED (l++[t]):=by
 intro i hi;rw[ZX,QGq] at hi;rw[Zdr l t i hi];by_cases a:i<l.length
 .rw[if_pos a];exact h i a
 .rw[if_neg a];exact c
theorem Bk.snoc (h:Bk l)(hn:¬CD l t.id l.length):Bk (l++[t]):=by
 intro i j c d;rw[ZX,QGq] at d;rw[Zdr _ _ i (by omega),Zdr _ _ j d,if_pos (by omega:i<l.length)];by_cases a:j<l.length
 .rw[if_pos a];exact h i j c a
 .rw[if_neg a];exact fun e=>hn ⟨i,by omega,e⟩
theorem CR.cut (h:CR n l):CR n (l.take b++l.drop (b+1)):=by
 intro x c;rcases List.mem_append.1 c with a | a
 .exact h x (List.mem_of_mem_take a)
 .exact h x (List.mem_of_mem_drop a)
theorem ED.cut (h:ED l)(hb:b<l.length):ED (l.take b++l.drop (b+1)):=by
 intro i hi;have hl:=Zcl l b hb;rw[Zc9 l b i hb];exact h _ (by split<;>omega)
theorem Xm {now:Nat}{g:Nat->Value}{tn o:Nat}(m:t.tm=(tn:Int))(c:now<=4611686018427387904)(hlen:l.length<200)(s:CR now l)(a:ED l)(i:Bk l)(f:¬CD l t.id l.length)(d:FB t.id)(v:(now:Int)<=t.tm/\t.tm<=4611686018427387904)(p:TY D l)(u:QDp D)(k:B<=bm)(hw:Words wd (Zai now l))
  (hp:Bw w' P B K now (.map (some bm)) g (BK (Zai now l) (pl now tn) (Zai now l (pl now tn)++[t.id])) (BK wd (CE now tn) o)) (hx:o=wd (CE now tn) ||| 2 ^ slt (CE now tn) tn) (hm:Zbe (D.put (Cf t.id) (.lit (.int .u64 t.tm))) w' bm (QDq (D.put (Cf t.id) (.lit (.int .u64 t.tm))))):Bh w' P B K now (l++[t]):=by
 have e0:t.tm.toNat=tn:=by rw[m];rfl
 have e:Zai now (l++[t])=BK (Zai now l) (pl now tn) (Zai now l (pl now tn)++[t.id]):=by
  funext j
  rw[Ja,e0];by_cases h:pl now tn=j
  .subst h;rw[if_pos rfl,Zbh]
  .rw[if_neg h,Za3 _ _ _ (Ne.symm h)]
 refine⟨⟨_,g,_,by rw[e];exact hp,Zj ⟨bm,_,rfl,k,hm,p.put u t f d a⟩,?_⟩,c,by simp;omega,s.snoc v,a.snoc d,i.snoc f⟩;rw[e,hx];exact hw.put (by have:=Fp now tn c (by omega);omega) (Zec _ _) t.id
def Dj (w:World)(b:Nat)(r nd q:Int):Prop:=(w.cell? ⟨b,0,none⟩=some (.int .u64 r)/\w.cell? ⟨b,1,none⟩=some (.int .i64 nd))/\w.cell? ⟨b,2,none⟩=some (.int .i64 q)
theorem Dj.at_ (h:Dj w b r nd q)(e:w'.heap[b]? =w.heap[b]?):Dj w' b r nd q :=
 ⟨⟨(QEc (a:=⟨b,0,none⟩) e).trans h.1.1,(QEc (a:=⟨b,1,none⟩) e).trans h.1.2⟩,(QEc (a:=⟨b,2,none⟩) e).trans h.2⟩
theorem Dj.lt (h:Dj w b r nd q):b<w.heap.size:=by
 rcases Nat.lt_or_ge b w.heap.size with a | a
 .exact a
 .have:=h.1.1;simp[QEk,Array.getElem?_eq_none a] at this
theorem Dj.below (h:Dj w b r nd q)(e:ZY w w'):Dj w' b r nd q:=h.at_ (e.block b h.lt)
theorem Dj.setCell (h:Dj w b r nd q){a:Addr}(v:Value)(e:b≠a.block):Dj (w.setCell a v) b r nd q:=h.at_ (Zl w a v b e)
theorem Dj.grown (h:Dj w b r nd q){o:Option Nat}(g:w.grownBy w' o)(e:some b≠o):Dj w' b r nd q:=h.at_ (g.block b h.lt e)
theorem GA (w:World)(r nd q:Int):Dj (w.alloc (.cells #[.int .u64 r,.int .i64 nd,.int .i64 q] 288)) w.heap.size r nd q:=boxed w r nd q _ rfl
theorem pe_inj {v v':Value}{d:DataW Unit}{p e:List MemPlace}(h:QGl prog 27 v=some (d,p))(c:QGl prog 27 v'=some (d,e)):v=v':=by
 unfold QGl at h c;rw[underlying27] at h c
 cases v<;>simp at h
 cases v'<;>simp at c
 obtain⟨⟨rfl,_⟩,rfl,_⟩:=h;obtain⟨⟨rfl,_⟩,a,_⟩:=c
 injection a with a
 injection a with _ a
 rw[a]
theorem NT {m:Nat}(h:Zbe D w bm n):Zbe D (w.drewN m) bm n:=h
theorem below_drewN (w:World)(m:Nat):ZY w (w.drewN m):=⟨rfl,rfl,rfl,Zx _,fun _ _=>rfl⟩
theorem IQ (h:Zbe D w bm n)(hb:ZY w w'):Zbe D w' bm n:=by
 obtain⟨es,clock,m1,m2⟩:=h;exact⟨es,clock,(hb.block bm (Array.getElem?_eq_some_iff.1 m1).1).trans m1,m2⟩
theorem GW (h:Zbe D w bm n)(hk:BL r nd q id):∃v0,∀m,(Instr.lookup 155 (.map (some bm)) (.agg #[.int .u64 r,.int .i64 nd,.int .i64 q]) true).run prog (w.drewN m)=.ok (.tuple #[v0,.bool (QDr D (Cf id))]) (w.drewN m):=by
 have a:Gi id=.agg #[.int .u64 r,.int .i64 nd,.int .i64 q]:=by unfold Gi;rw[Zc2 hk]
 have one:∀m,∃v ps,(Instr.lookup 155 (.map (some bm)) (.agg #[.int .u64 r,.int .i64 nd,.int .i64 q]) true).run prog (w.drewN m)=.ok (.tuple #[v,.bool (QDr D (Cf id))]) (w.drewN m)/\QGl prog 27 v=some (D.atKey (Cf id) u0,ps):=fun m=>by
  rw[<-a];exact World.ownsMap.look_ok (NT (m:=m) h) Ij underlying155 (RX _) (QGm underlying27 (by decide)) (Zde hk.ok)
 obtain⟨v0,e,_,e0⟩:=one 0;refine⟨v0,fun m=> ?_⟩;obtain⟨v,p,c,d⟩:=one m;rw[c,pe_inj d e0]
theorem Rt (w:World)(hk:BL r nd q id):∀m,(Instr.lookup 155 (.map none) (.agg #[.int .u64 r,.int .i64 nd,.int .i64 q]) true).run prog (w.drewN m)=.ok (.tuple #[.int .u64 0,.bool false]) (w.drewN m):=fun m=>by
 have a:Gi id=.agg #[.int .u64 r,.int .i64 nd,.int .i64 q]:=by unfold Gi;rw[Zc2 hk]
 have c:=Maps.look_nil (w:=w.drewN m) true Ij underlying155 (RX _) (Zde hk.ok);rw[if_pos rfl,a] at c;exact c
theorem Xo (w:World)(P B:Nat)(K:Nat->Prop)(now:Nat)(l:List Tm)(id r nd q tm sq:Int)(h:Bh w P B K now l)(Y:BL r nd q id)(h0:0<=tm)(cz:tm<18446744073709551616) :
  Calls prog 193 #[.pointer (some ⟨P,11,none⟩),.agg #[.int .u64 r,.int .i64 nd,.int .i64 q],.int .u64 tm] w fun e w'=>∃x l' cy,e=.returned (AK x)/\Uj l now sq id tm x l' cy/\Bh w' P B K now l'/\PF w w' P B K:=by
 have ck:Gi id=.agg #[.int .u64 r,.int .i64 nd,.int .i64 q]:=by unfold Gi;rw[Zc2 Y]
 have bo:=Zz (ck▸Zde Y.ok);have v:=Zz Y;obtain⟨f,Z⟩:∃f,f=w.alloc (.cells #[.int .u64 r,.int .i64 nd,.int .i64 q] 288):=⟨_,rfl⟩;obtain⟨bx,az⟩:∃bx,bx=w.heap.size:=⟨_,rfl⟩;have G:=Zz (show Dj f bx r nd q by rw[Z,az];exact GA w r nd q);have N:ZY w f:=by rw[Z];exact ZV.alloc ZU _
 obtain⟨⟨dm,BF,wd,hp,br,hw⟩,F,bw,ag,ae,bp⟩:=h;have a:=Zz (Zq F (Zq bw (Zq ag (Zq ae (Zq bp hw)))));have U:=Zz (UC now tm h0 F);have e1:IntKind.u64.wrap ((now:Int)+1)=(now:Int)+1:=by rw[IntKind.wrap_u64];omega
 have e2:=Lv now tm h0 F;have da:=@run_makeMap prog;have cq:Hid (bx≠P):=Zz (by have:=hp.pb;have:=hp.bs;omega);have I:=Zz (hp.Ak N);have V:=Zz (PF.Ae (P:=P) (B:=B) (K:=K) N);have c1:=I.o.c1;have s:=Zz (Zq az Z);clear F ag ae bp hw hp ck Y az Z;obtain⟨⟨z0,z1⟩,z2⟩:=G.o;rcases br with⟨rfl,cm⟩ | ⟨bm,D,rfl,u,hm,hD⟩
 .have lk:=Rt f v.o
  clear N
  go_enter func193,ntmps193
  go_upto_region 1 with fail
  rw[<-s.o.1,<-s.o.2]
  go_quiet (fail)
  have c:=Zz (I.o.Ak (below_drewN f nq));have m:=Zz (V.o.trans (PF.Ae (P:=P) (B:=B) (K:=K) (below_drewN f nq)));have y:=Zz (G.o.below (below_drewN f nq));have ln:=Maps.len_nil (w:=f.drewN nq) underlying155 3;have aw:=Zz (Zq c.o.pb c.o.bs);clear c1 z0 z1 z2 lk
  generalize f.drewN nq=w1 at *
  have c1:=c.o.c1;have f1:=c.o.fz 12;have cr:=cell_later (ZV.alloc ZU (.map #[] 0)) c1;have cu:=(((Zk w1.heap.size w1).alloc ZU (.map #[] 0)).frozen (p:=⟨P,12,none⟩) (by simp;have:=aw.o;omega)).trans f1;have T:=nil_eq
  go_upto_region 8 with fail
  have k:=Zz ((c.o.Ak (ZV.alloc ZU (.map #[] 0))).setDue (.map (some w1.heap.size)));have i:Hid (Zbe (.map []) ((w1.alloc (.map #[] 0)).setCell ⟨P,12,none⟩ (.map (some w1.heap.size))) w1.heap.size (QDq (.map []:DataW Unit))):=Zz (World.ownsMap.setCell (World.ownsMap_made w1 _ _ _) (by simp;have:=aw.o;omega) _);have H:Hid (PF w ((w1.alloc (.map #[] 0)).setCell ⟨P,12,none⟩ (.map (some w1.heap.size))) P B K):=Zz (m.o.trans ((PF.Ae (ZV.alloc ZU (.map #[] 0))).trans (PF.Bv _ P B K 12 _ (by omega))));have A:Hid (Dj ((w1.alloc (.map #[] 0)).setCell ⟨P,12,none⟩ (.map (some w1.heap.size))) bx r nd q):=Zz ((y.o.below (ZV.alloc ZU (.map #[] 0))).setCell _ cq.o);have aj:Hid (bx≠w1.heap.size):=Zz (by have:=y.o.lt;omega);have u:B<=w1.heap.size:=aw.o.2;have d:Hid (TY (.map []) l/\¬CD l id l.length/\l.length≠200):=Zz (by subst cm;exact⟨Yh,(fun ⟨j,hj,_⟩=>by simp at hj),by simp⟩);clear cr cu c1 f1 ln T c m y
  generalize (DataW.map []:DataW Unit)=D at *
  clear cm
  generalize (w1.alloc (.map #[] 0)).setCell ⟨P,12,none⟩ (.map (some w1.heap.size))=w2 at *
  generalize w1.heap.size=bm at *
  have c0:=k.o.c0;have c1:=k.o.c1;obtain⟨⟨z0,z1⟩,z2⟩:=A.o;obtain⟨w3,bj,g,C⟩:=QGp (w:=w2.drew) i.o Ij underlying155 (by have:=d.o.1.size;have:=a.o.2.1;unfold maxLen;omega) bo.o (QGm underlying27 (wf_u64 (x:=Za2 now tm) (by have:=U.o;omega) (by have:=U.o;omega)));have h3:=k.o.Ak ((Zk w2.heap.size w2).drew);obtain⟨k1,k2⟩:=h3.mapped (i.o:Zbe D w2.drew bm (QDq D)) u C;have J:=Zz k1;have al:=Zz (H.o.trans ((PF.Ae ((Zk w2.heap.size w2).drew)).trans k2));have au:=Zz (Zcr g);have ay:=Zz ((A.o.below ((Zk w2.heap.size w2).drew)).grown C (by simpa using aj.o));clear h3 k1 k2 g C
  go_region
  have HT:=Zz (i.o.tidy Ij);clear bj k i c0 c1 H z0 z1 z2 A;have c1:=J.o.c1;obtain⟨⟨z0,z1⟩,z2⟩:=ay.o;obtain⟨tn,E⟩:∃tn:Nat,Za2 now tm=(tn:Int):=⟨(Za2 now tm).toNat,by have:=U.o;omega⟩;have z:=Nh w3 P B K now tn BF (Zai now l) wd bm (D.put (Cf id) (.lit (.int .u64 (Za2 now tm)))) id r nd q J.o au.o u v.o (by rw[QGn HT.o.isMap (Qg id),E]) a.o.1 (by have:=U.o;omega) (fun j hj=>(a.o.2.2.2.2.2 j hj).1) (by have:=Zc0 now l (pl now tn);have:=a.o.2.1;omega);have L:=Zz z;have ax:=Zz E;clear z E;go_wp2_with (go_at_call 259;refine L.o.mono ?_;rintro e w4 ⟨rfl,v',x',R,hx,Q,O,bh⟩;have X:=Zz (Zq R (Zq hx (Zq Q O)));clear R hx Q O bh)
  go_ret
  refine⟨0,l++[⟨id,Za2 now tm,sq+1⟩],sq+1,rfl,Zj (Zj ⟨d.o.2.1,d.o.2.2,rfl,rfl,rfl⟩),?_,al.o.trans X.o.2.2.2⟩;exact Xm (t:=⟨id,Za2 now tm,sq+1⟩) ax.o a.o.1 (by have:=a.o.2.1;have:=d.o.2.2;omega) a.o.2.2.1 a.o.2.2.2.1 a.o.2.2.2.2.1 d.o.2.1 v.o.ok U.o d.o.1 HT.o u a.o.2.2.2.2.2 X.o.1 X.o.2.1 X.o.2.2.1
 .have bf:Zbe D f bm (QDq D):=IQ hm N
  obtain⟨v0,lk⟩:=GW bf v.o;have ar:=Zz bf;have aj:Hid (bx≠bm):=Zz (by have:=hm.lt;have:=s.o.1;omega);have HD:=Zz hD;clear N hm bf;by_cases hh:CD l id l.length
  .have eh:QDr D (Cf id)=true:=(hD.has id v.o.ok).2 hh
   rw[eh] at lk;have HH:=Zz hh;clear hD eh hh
   go_enter func193,ntmps193
   go_upto_region 1 with fail
   rw[<-s.o.1,<-s.o.2]
   go_quiet (fail)
   have c:=Zz (I.o.Ak (below_drewN f nq));have m:=Zz (V.o.trans (PF.Ae (P:=P) (B:=B) (K:=K) (below_drewN f nq)));have y:=Zz (G.o.below (below_drewN f nq));have W:Hid (Zbe D (f.drewN nq) bm (QDq D)):=ar;go_wp2_with fail
   go_ret
   exact⟨8,l,sq,rfl,Zu ⟨HH.o,rfl,rfl,rfl⟩,⟨⟨_,BF,wd,c.o,Zj ⟨bm,D,rfl,u,W.o,HD.o⟩,a.o.2.2.2.2.2⟩,a.o.1,a.o.2.1,a.o.2.2.1,a.o.2.2.2.1,a.o.2.2.2.2.1⟩,m.o⟩
  .have eh:QDr D (Cf id)=false:=by
    cases e:QDr D (Cf id)
    .rfl
    .exact absurd ((hD.has id v.o.ok).1 e) hh
   rw[eh] at lk;have HH:=Zz hh;clear eh hh;by_cases M:l.length=200
   .have S:=hD.size
    clear hD
    go_enter func193,ntmps193
    go_upto_region 1 with fail
    rw[<-s.o.1,<-s.o.2]
    go_quiet (fail)
    have c:=Zz (I.o.Ak (below_drewN f nq));have m:=Zz (V.o.trans (PF.Ae (P:=P) (B:=B) (K:=K) (below_drewN f nq)));have y:=Zz (G.o.below (below_drewN f nq));have W:Hid (Zbe D (f.drewN nq) bm (QDq D)):=ar;have ln:=QGo W.o underlying155 3;rw[S,M] at ln;clear lk S z0 z1 z2
    generalize f.drewN nq=w1 at *
    have c1:=c.o.c1;go_wp2_with fail
    go_ret
    exact⟨5,l,sq,rfl,Zj (Zu ⟨HH.o,M,rfl,rfl,rfl⟩),⟨⟨_,BF,wd,c.o,Zj ⟨bm,D,rfl,u,W.o,HD.o⟩,a.o.2.2.2.2.2⟩,a.o.1,a.o.2.1,a.o.2.2.1,a.o.2.2.2.1,a.o.2.2.2.2.1⟩,m.o⟩
   .have S:=hD.size
    have g3:decide ((200:Int)<=(l.length:Int))=false:=decide_eq_false (by have:=a.o.2.1;omega);have d:Hid (TY D l/\¬CD l id l.length/\l.length≠200):=Zz ⟨HD.o,HH.o,M⟩;clear hD
    go_enter func193,ntmps193
    go_upto_region 1 with fail
    rw[<-s.o.1,<-s.o.2]
    go_quiet (fail)
    have c:=Zz (I.o.Ak (below_drewN f nq));have m:=Zz (V.o.trans (PF.Ae (P:=P) (B:=B) (K:=K) (below_drewN f nq)));have y:=Zz (G.o.below (below_drewN f nq));have i:Hid (Zbe D (f.drewN nq) bm (QDq D)):=ar;have ln:=QGo i.o underlying155 3;rw[S] at ln;have k:=c;have H:=m;have A:=y;clear lk S z0 z1 z2 c m y
    generalize f.drewN nq=w2 at *
    have c1:=k.o.c1;have T:=nil_ne bm
    go_upto_region 8 with fail
    clear c1 ln T;have c0:=k.o.c0;have c1:=k.o.c1;obtain⟨⟨z0,z1⟩,z2⟩:=A.o;obtain⟨w3,bj,g,C⟩:=QGp (w:=w2.drew) i.o Ij underlying155 (by have:=d.o.1.size;have:=a.o.2.1;unfold maxLen;omega) bo.o (QGm underlying27 (wf_u64 (x:=Za2 now tm) (by have:=U.o;omega) (by have:=U.o;omega)));have h3:=k.o.Ak ((Zk w2.heap.size w2).drew);obtain⟨k1,k2⟩:=h3.mapped (i.o:Zbe D w2.drew bm (QDq D)) u C;have J:=Zz k1;have al:=Zz (H.o.trans ((PF.Ae ((Zk w2.heap.size w2).drew)).trans k2));have au:=Zz (Zcr g);have ay:=Zz ((A.o.below ((Zk w2.heap.size w2).drew)).grown C (by simpa using aj.o));clear h3 k1 k2 g C
    go_region
    have HT:=Zz (i.o.tidy Ij);clear bj k i c0 c1 H z0 z1 z2 A;have c1:=J.o.c1;obtain⟨⟨z0,z1⟩,z2⟩:=ay.o;obtain⟨tn,E⟩:∃tn:Nat,Za2 now tm=(tn:Int):=⟨(Za2 now tm).toNat,by have:=U.o;omega⟩;have z:=Nh w3 P B K now tn BF (Zai now l) wd bm (D.put (Cf id) (.lit (.int .u64 (Za2 now tm)))) id r nd q J.o au.o u v.o (by rw[QGn HT.o.isMap (Qg id),E]) a.o.1 (by have:=U.o;omega) (fun j hj=>(a.o.2.2.2.2.2 j hj).1) (by have:=Zc0 now l (pl now tn);have:=a.o.2.1;omega);have L:=Zz z;have ax:=Zz E;clear z E;go_wp2_with (go_at_call 259;refine L.o.mono ?_;rintro e w4 ⟨rfl,v',x',R,hx,Q,O,bh⟩;have X:=Zz (Zq R (Zq hx (Zq Q O)));clear R hx Q O bh)
    go_ret
    refine⟨0,l++[⟨id,Za2 now tm,sq+1⟩],sq+1,rfl,Zj (Zj ⟨d.o.2.1,d.o.2.2,rfl,rfl,rfl⟩),?_,al.o.trans X.o.2.2.2⟩;exact Xm (t:=⟨id,Za2 now tm,sq+1⟩) ax.o a.o.1 (by have:=a.o.2.1;have:=d.o.2.2;omega) a.o.2.2.1 a.o.2.2.2.1 a.o.2.2.2.2.1 d.o.2.1 v.o.ok U.o d.o.1 HT.o u a.o.2.2.2.2.2 X.o.1 X.o.2.1 X.o.2.2.1
theorem Fc {tn:Nat}(hb:b<l.length)(h:Bk l)(a:(l.getD b .z).tm.toNat=tn):∃i,i<(Zai n l (pl n tn)).length/\(Zai n l (pl n tn)).getD i 0=(l.getD b .z).id/\(∀j,j<i->(Zai n l (pl n tn)).getD j 0≠(l.getD b .z).id)/\Zai n (l.take b++l.drop (b+1))=BK (Zai n l) (pl n tn) ((Zai n l (pl n tn)).take i++(Zai n l (pl n tn)).drop (i+1)):=by
 subst a;obtain⟨i,c,d,f,g⟩:=QC n l b hb h;refine⟨i,c,d,f,?_⟩
 funext j
 by_cases e:j=pl n (l.getD b .z).tm.toNat
 .rw[e,Zbh];exact g
 .rw[Za3 _ _ _ e];exact Ku n l b j hb (Ne.symm e)
theorem RV {now i tn j:Nat}{e:Nat->Value}(hb:b<l.length)(p:(l.getD b .z).tm.toNat=tn)(c:now<=4611686018427387904)(hlen:l.length<=200)(g:CR now l)(a:ED l)(d:Bk l)(k:TY D l)(m:QDp D)(f:B<=bm)(hw:Words wd (Zai now l))(hi:i<(Zai now l (pl now tn)).length)
  (hcut:Zai now (l.take b++l.drop (b+1))=BK (Zai now l) (pl now tn) ((Zai now l (pl now tn)).take i++(Zai now l (pl now tn)).drop (i+1)))
  (hp:Bw w' P B K now (.map (some bm)) e (BK (Zai now l) (pl now tn) ((Zai now l (pl now tn)).take i++(Zai now l (pl now tn)).drop (i+1))) (BK wd (CE now tn) j)) (hx:Ue j (wd (CE now tn)) (slt (CE now tn) tn) (Zai now l (pl now tn)).length) (hm:Zbe (D.del (Cf (l.getD b .z).id)) w' bm (QDq (D.del (Cf (l.getD b .z).id)))):Bh w' P B K now (l.take b++l.drop (b+1)):=by
 have o:=Zcl l b hb;have h:=g _ (Zcf hb);refine⟨⟨_,e,_,by rw[hcut];exact hp,Zj ⟨bm,_,rfl,f,hm,k.cut m d a hb⟩,?_⟩,c,by omega,g.cut,a.cut hb,d.cut hb⟩;rw[hcut];exact hw.drop (by have:=Fp now tn c (by omega);omega) (Zec _ _) hi hx
theorem Jg (w:World)(P B:Nat)(K:Nat->Prop)(now:Nat)(l:List Tm)(id r nd q:Int)(h:Bh w P B K now l)(X:BL r nd q id) :
  Calls prog 225 #[.pointer (some ⟨P,11,none⟩),.agg #[.int .u64 r,.int .i64 nd,.int .i64 q]] w fun e w'=>∃x l',e=.returned (AK x)/\BZ l id x l'/\Bh w' P B K now l'/\PF w w' P B K:=by
 have k:=Zz X;obtain⟨d,v⟩:∃d,d=w.alloc (.cells #[.int .u64 r,.int .i64 nd,.int .i64 q] 288):=⟨_,rfl⟩;obtain⟨bx,H⟩:∃bx,bx=w.heap.size:=⟨_,rfl⟩;have O:=Zz (show Dj d bx r nd q by rw[v,H];exact GA w r nd q);have p:ZY w d:=by rw[v];exact ZV.alloc ZU _
 obtain⟨⟨dm,BF,wd,hp,U,hw⟩,C,W,A,y,T⟩:=h;have c:=Zz (Zq C (Zq W (Zq A (Zq y (Zq T hw)))));have u:=Zz (hp.Ak p);have F:=Zz (PF.Ae (P:=P) (B:=B) (K:=K) p);have c1:=u.o.c1;have f:=Zz (Zq H v);clear C A y T hw hp X H v;obtain⟨⟨z0,z1⟩,z2⟩:=O.o;rcases U with⟨rfl,Y⟩ | ⟨bm,D,rfl,G,hm,S⟩
 .have lk:=Rt d k.o
  have HL:=Zz Y;clear p Y
  go_enter func225,ntmps225
  go_upto_region 1 with fail
  rw[<-f.o.1,<-f.o.2]
  go_quiet (fail)
  have m:=Zz (u.o.Ak (below_drewN d nq));have g:=Zz (F.o.trans (PF.Ae (P:=P) (B:=B) (K:=K) (below_drewN d nq)));go_wp2_with fail
  go_ret
  exact⟨8,l,rfl,Zj ⟨(fun ⟨j,N,_⟩=>by rw[HL.o] at N;simp at N),rfl,rfl⟩,⟨⟨_,BF,wd,m.o,Zu ⟨rfl,HL.o⟩,c.o.2.2.2.2.2⟩,c.o.1,c.o.2.1,c.o.2.2.1,c.o.2.2.2.1,c.o.2.2.2.2.1⟩,g.o⟩
 .have L:Zbe D d bm (QDq D):=IQ hm p
  obtain⟨v0,lk⟩:=GW L k.o;have Q:=Zz L;have HD:=Zz S;clear p hm L;by_cases hh:CD l id l.length
  .have R:QDr D (Cf id)=true:=(S.has id k.o.ok).2 hh
   rw[R] at lk;obtain⟨b,hb,he⟩:=hh;obtain⟨tn,M⟩:∃tn,(l.getD b .z).tm.toNat=tn:=⟨_,rfl⟩;have Z:=c.o.2.2.1 _ (Zcf hb);have aj:(l.getD b .z).tm=(tn:Int):=by omega
   obtain⟨i,hi,I,J,hcut⟩:=Fc (n:=now) hb c.o.2.2.2.2.1 M;rw[he] at I J;have a:=Zz (Zq hb (Zq he (Zq M (Zq hi (Zq hcut (Zq I (Zq J (Zq aj Z))))))));clear S R hb he M Z aj hi I J hcut
   go_enter func225,ntmps225
   go_upto_region 1 with fail
   rw[<-f.o.1,<-f.o.2]
   go_quiet (fail)
   have m:=Zz (u.o.Ak (below_drewN d nq));have g:=Zz (F.o.trans (PF.Ae (P:=P) (B:=B) (K:=K) (below_drewN d nq)));have al:=Zz (O.o.below (below_drewN d nq));have s:Hid (Zbe D (d.drewN nq) bm (QDq D)):=Q;clear lk z0 z1 z2 c1
   generalize d.drewN nq=w1 at *
   obtain⟨⟨z0,z1⟩,z2⟩:=al.o;have E:=Zz (NU w1 P B K now tn BF (Zai now l) wd bm i D id r nd q m.o s.o G k.o (by rw[<-a.o.2.1,<-a.o.2.2.2.2.2.2.2.1];exact HD.o.tm b a.o.1) c.o.1 (by have:=a.o.2.2.2.2.2.2.2;omega) (fun j N=>(c.o.2.2.2.2.2 j N).1) (by have:=Zc0 now l (pl now tn);omega) a.o.2.2.2.1 a.o.2.2.2.2.2.1 a.o.2.2.2.2.2.2.1);go_wp2_with (go_at_call 234;refine E.o.mono ?_;rintro e w4 ⟨rfl,v',x',ag,hx,ae,V⟩;have HN:=Zz (Zq ag (Zq hx (Zq ae V)));clear ag hx ae V)
   go_ret
   obtain⟨a1,a2,a3,a4,a5,a6,a7,a8,a9⟩:=a.o;obtain⟨b1,b2,b3,b4,b5,b6⟩:=c.o;obtain⟨n1,n2,n3,n4⟩:=HN.o;refine⟨0,_,rfl,Zu ⟨b,a1,a2,(fun j N e=>b5 j b N a1 (by rw[e,a2])),rfl,rfl⟩,?_,g.o.trans n4⟩;exact RV a1 a3 b1 b2 b3 b4 b5 HD.o (s.o.tidy Ij) G b6 a4 a5 n1 n2 (by rw[a2];exact n3)
  .have R:QDr D (Cf id)=false:=by
    cases e:QDr D (Cf id)
    .rfl
    .exact absurd ((S.has id k.o.ok).1 e) hh
   rw[R] at lk;have HH:=Zz hh;clear S R hh
   go_enter func225,ntmps225
   go_upto_region 1 with fail
   rw[<-f.o.1,<-f.o.2]
   go_quiet (fail)
   have m:=Zz (u.o.Ak (below_drewN d nq));have g:=Zz (F.o.trans (PF.Ae (P:=P) (B:=B) (K:=K) (below_drewN d nq)));have s:Hid (Zbe D (d.drewN nq) bm (QDq D)):=Q;go_wp2_with fail
   go_ret
   exact⟨8,l,rfl,Zj ⟨HH.o,rfl,rfl⟩,⟨⟨_,BF,wd,m.o,Zj ⟨bm,D,rfl,G,s.o,HD.o⟩,c.o.2.2.2.2.2⟩,c.o.1,c.o.2.1,c.o.2.2.1,c.o.2.2.2.1,c.o.2.2.2.2.1⟩,g.o⟩
theorem Bh.Cv (h:Bh w P B K n l)(v:w.heap.size<=w'.heap.size)(d:∀o,11<=o->o<728->w'.cell? ⟨P,o,none⟩=w.cell? ⟨P,o,none⟩)(hf:∀o,w'.frozen? ⟨P,o,none⟩=w.frozen? ⟨P,o,none⟩)
  (hb:∀k cs fr,B<=k->w.heap[k]? =some (.cells cs 288 fr)->w'.heap[k]? =w.heap[k]?) (hm:∀k es c,B<=k->w.heap[k]? =some (.map es c)->w'.heap[k]? =w.heap[k]?):Bh w' P B K n l:=by
 obtain⟨⟨i,BF,wd,hp,a,hw⟩,j,m,p,s,u⟩:=h;refine⟨⟨i,BF,wd,⟨?_,?_,fun k hk=> ?_,fun k hk=> ?_,fun o=>(hf o).trans (hp.fz o),fun k hk=>Ha (hp.own k hk) (fun z f he _=> ?_),hp.apart,hp.pb,Zv hp.bs v,hp.sp,fun z f=> ?_⟩,a.kept hm,hw⟩,j,m,p,s,u⟩
 .exact (d 11 (by omega) (by omega)).trans hp.c0
 .exact (d 12 (by omega) (by omega)).trans hp.c1
 .exact (d (13+k) (by omega) (by omega)).trans (hp.cs k hk)
 .exact (d (717+k) (by omega) (by omega)).trans (hp.cw k hk)
 .obtain⟨cs,fr,e⟩:=he
  exact hb z cs fr f e
 .obtain⟨q1,cs,fr,g⟩:=hp.kb z f
  exact⟨q1,cs,fr,(hb z cs fr q1 g).trans g⟩
theorem Bh.pb (h:Bh w P B K n l):P<B/\B<=w.heap.size:=by
 obtain⟨a,BF,wd,hp,_⟩:=h.mem;exact⟨hp.pb,hp.bs⟩
theorem Bh.Ak (h:Bh w P B K n l)(hb:ZY w w'):Bh w' P B K n l:=by
 have c:P<w.heap.size:=by have:=h.pb;omega
 exact h.Cv hb.size (fun o _ _=>QEc (a:=⟨P,o,none⟩) (hb.block P c)) (fun o=>World.frozen?_of_block (a:=⟨P,o,none⟩) (hb.block P c)) (fun k _ _ _ e=>hb.block k (Zaa e)) (fun k _ _ _ e=>hb.block k (Zaa e))
theorem Bh.VR (h:Bh w P B K n l):w.cell? ⟨P,11,none⟩=some (.int .u64 n):=by
 obtain⟨a,BF,wd,hp,_⟩:=h.mem;exact hp.c0
def Ck:Nat->Prop:=fun _=>False
theorem Bh.TW (h:Bh w P B K n l):Bh w P B Ck n l:=by
 obtain⟨⟨c,BF,wd,hp,a,hw⟩,d,e,f,g,i⟩:=h;exact⟨⟨c,BF,wd,⟨hp.c0,hp.c1,hp.cs,hp.cw,hp.fz,hp.own,hp.apart,hp.pb,hp.bs,fun _ _ _ _ h=>h,fun _ h=>h.elim⟩,a,hw⟩,d,e,f,g,i⟩
theorem PF.TW (h:PF w w' P B K):PF w w' P B Ck :=
 ⟨h.os,h.tape,h.output,h.size,fun k hk c a=>h.block k hk c (by
  rcases a with (a | a) | a
  .exact Zu (Zu a)
  .exact a.elim
  .exact Zj a),h.off,h.AD⟩
theorem Bh.boxes (h:Bh w P B Ck n l)(hb:ZY w w')(hk:∀z,K z->w.heap.size<=z/\∃cs fr,w'.heap[z]? =some (.cells cs 288 fr)):Bh w' P B K n l:=by
 obtain⟨⟨m,BF,wd,hp,f,hw⟩,p,s,u,v,y⟩:=h.Ak hb;refine⟨⟨m,BF,wd,⟨hp.c0,hp.c1,hp.cs,hp.cw,hp.fz,hp.own,hp.apart,hp.pb,hp.bs,fun k d z g i=> ?_,fun z g=>⟨Zv h.pb.2 (hk z g).1,(hk z g).2⟩⟩,f,hw⟩,p,s,u,v,y⟩;obtain⟨⟨o,j,A,c,_,_⟩,_⟩:=h
 have e:BF k=j k:=by
  have a:=hp.cs k d;have b:=(QEc (a:=⟨P,13+k,none⟩) (hb.block P (by have:=c.pb;have:=c.bs;omega))).trans (c.cs k d);rw[a] at b;exact Option.some.inj b
 rw[e] at g;have:=((c.own k d).lt z g).2;have:=(hk z i).1;omega
theorem Ry (w:World)(P now:Nat)(h:w.cell? ⟨P,11,none⟩=some (.int .u64 now)) :
  Calls prog 208 #[.pointer (some ⟨P,11,none⟩)] w fun e w'=>e=.returned (.int .u64 now)/\w'=w:=by
 go_enter func208,ntmps208
 go_wp2_with fail
 go_ret
 exact⟨rfl,rfl⟩
theorem BZ.len (h:BZ l id x l'):l'.length<=l.length:=by
 rcases h with⟨i,hi,_,_,_,rfl⟩ | ⟨_,_,rfl⟩
 .have:=Zcl l i hi;omega
 .exact Zx _
theorem Rl (hb:b<l.length)(d:Bk l)(t:Tm):t∈l.take b++l.drop (b+1)↔t∈l/\t.id≠(l.getD b .z).id:=by
 have hl:=Zcl l b hb;constructor
 .intro h
  obtain⟨i,hi,rfl⟩:=QEt h;have e:=Zc9 l b i hb;rw[ZQ,ZZ hi] at e;simp only[Option.getD_some] at e;rw[e];by_cases c:i<b
  .rw[if_pos c]
   refine⟨?_,d i b c hb⟩;rw[ZQ,ZZ (by omega)];exact QAi _
  .rw[if_neg c]
   refine⟨?_,fun x=>d b (i+1) (by omega) (by omega) x.symm⟩;rw[ZQ,ZZ (by omega)];exact QAi _
 .rintro⟨h,a⟩
  obtain⟨i,hi,rfl⟩:=QEt h
  have f:i≠b:=by
   intro e;subst e;rw[ZQ,ZZ hi] at a;exact a rfl
  rw[QCn];by_cases c:i<b
  .left
   rw[List.mem_take_iff_getElem];exact⟨i,by omega,rfl⟩
  .right
   rw[List.mem_drop_iff_getElem];exact⟨i - (b+1),by omega,by congr 1;omega⟩
theorem BZ.gone (h:BZ l id x l')(a:Bk l):∀t,t∈l'↔t∈l/\t.id≠id:=by
 intro t;rcases h with⟨i,hi,he,_,_,rfl⟩ | ⟨hn,_,rfl⟩
 .rw[Rl hi a,he]
 .refine⟨fun h=>⟨h,fun e=>hn ?_⟩,fun h=>h.1⟩
  obtain⟨i,hi,rfl⟩:=QEt h;exact⟨i,hi,by rw[ZQ,ZZ hi];exact e⟩
theorem BZ.rising (h:BZ l id x l')(a:Bo l):Bo l':=by
 rcases h with⟨i,hi,_,_,_,rfl⟩ | ⟨_,_,rfl⟩
 .exact a.cut hi
 .exact a
theorem BZ.apart (h:BZ l id x l')(a:Bk l):Bk l':=by
 rcases h with⟨i,hi,_,_,_,rfl⟩ | ⟨_,_,rfl⟩
 .exact a.cut hi
 .exact a
theorem Uj.after {a:List Tm}{now sq tm y c:Int}(d:BZ l id y a)(i:Bk l)(hl:l.length<200)(h:Uj a now sq id tm x l' c):l'=a++[⟨id,Za2 now tm,sq+1⟩]:=by
 have hn:¬CD a id a.length:=by
  rintro⟨j,k,e⟩;have hm:a.getD j .z∈a:=by rw[ZQ,ZZ k];exact QAi _
  exact ((d.gone i _).1 hm).2 e
 rcases h with⟨f,_⟩ | ⟨_,m,_⟩ | ⟨_,_,_,g,_⟩
 .exact absurd f hn
 .have:=d.len;omega
 .exact g
theorem XS (w:World)(r nd q:Int):(w.alloc (.cells #[.int .u64 r,.int .i64 nd,.int .i64 q] 288)).heap[w.heap.size]? =some (.cells #[.int .u64 r,.int .i64 nd,.int .i64 q] 288 (0,0)):=QFm w _
theorem ES (w:World)(P B now:Nat)(l:List Tm)(id r nd q c sq:Int)(h:Bh w P B Ck now l)(v:BL r nd q id)(h0:0<=c)(h1:c<=4611686018427387904)(hl:l.length<200) :
  Calls prog 198 #[.pointer (some ⟨P,4,none⟩),.agg #[.int .u64 r,.int .i64 nd,.int .i64 q],.int .i64 c] w fun e w'=>e=.returned (.tuple #[])/\∃x I,BZ l id x I/\Bh w' P B Ck now (I++[⟨id,Za2 now (now+c),sq+1⟩])/\PF w w' P B Ck:=by
 obtain⟨A,m⟩:∃A,A=w.alloc (.cells #[.int .u64 r,.int .i64 nd,.int .i64 q] 288):=⟨_,rfl⟩;obtain⟨d,s⟩:∃d,d=w.heap.size:=⟨_,rfl⟩;have L:=Zz (show Dj A d r nd q by rw[m,s];exact GA w r nd q);have u:ZY w A:=by rw[m];exact ZV.alloc ZU _
 have i:A.heap[d]? =some (.cells #[.int .u64 r,.int .i64 nd,.int .i64 q] 288 (0,0)):=by rw[m,s];exact XS w r nd q
 obtain⟨K,R⟩:∃K:Nat->Prop,K=(fun z=>z=d):=⟨_,rfl⟩;have E:Bh A.drew P B K now l:=h.boxes (u.drew) (fun z W=>by rw[R] at W;subst W;exact⟨by omega,_,_,i⟩);have V:=Zz (Zq h.apart (Zq hl (Zq h.MU h.pb)));have M:=Zz (PF.Ae (P:=P) (B:=B) (K:=Ck) u.drew);have C:=Zz (Zq s m);have N:=Zz v;have p:=Zz (Zq R i);have g:d≠P:=by have:=h.pb;omega
 obtain⟨⟨z0,z1⟩,z2⟩:=L.o;have e1:IntKind.u64.wrap c=c:=by rw[IntKind.wrap_u64];omega
 have e2:IntKind.u64.wrap ((now:Int)+c)=(now:Int)+c:=by have:=h.MU;rw[IntKind.wrap_u64];omega
 have S:(0:Int)<=(now:Int)+c:=by omega
 have T:(now:Int)+c<18446744073709551616:=by have:=h.MU;omega
 have Z:=Zz (Jg A.drew P B K now l id r nd q E v);clear h v s m u hl i R E
 go_enter func198,ntmps198
 go_upto_region 1 with fail
 rw[<-C.o.1,<-C.o.2]
 go_region_held3 (fun w'=>(w'.cell? ⟨d,0,none⟩=some (.int .u64 r)/\w'.cell? ⟨d,1,none⟩=some (.int .i64 nd))/\w'.cell? ⟨d,2,none⟩=some (.int .i64 q)) (go_keep) ((go_at_call 225;refine Z.o.mono ?_;rintro e U ⟨x,I,rfl,F,H,j⟩;have J:=Zz (Zq F (Zq H j));have y0:=(QEc (a:=⟨d,0,none⟩) (j.block d (Zaa p.o.2) g (Zu (Zj (by rw[p.o.1]))))).trans z0;have y1:=(QEc (a:=⟨d,1,none⟩) (j.block d (Zaa p.o.2) g (Zu (Zj (by rw[p.o.1]))))).trans z1;have y2:=(QEc (a:=⟨d,2,none⟩) (j.block d (Zaa p.o.2) g (Zu (Zj (by rw[p.o.1]))))).trans z2;clear F H j))
 go_upto_region 2 with fail
 have n0:=J.o.2.1.VR;have HS:=Zz (Xo U.drew P B K now I id r nd q ((now:Int)+c) sq (J.o.2.1.Ak (ZV.drew)) N.o S T);have Q:=Zz (Ry U.drew P now n0)
 go_region_held3 (fun w'=>((w'.cell? ⟨d,0,none⟩=some (.int .u64 r)/\w'.cell? ⟨d,1,none⟩=some (.int .i64 nd))/\w'.cell? ⟨d,2,none⟩=some (.int .i64 q))/\w'.cell? ⟨P,11,none⟩=some (.int .u64 now)) (go_keep) ((first | (go_at_call 208;refine Q.o.mono ?_;rintro e w3 ⟨rfl,rfl⟩) | (go_at_call 193;refine HS.o.mono ?_;rintro e w3 ⟨x3,l3,ae,rfl,G,y,k⟩;have O:=Zz (Zq G (Zq y k));have f:d<U.drew.heap.size:=Zy (Zaa p.o.2) J.o.2.2.size;have v0:=(QEc (a:=⟨d,0,none⟩) (k.block d f g (Zu (Zj (by rw[p.o.1]))))).trans y0;have v1:=(QEc (a:=⟨d,1,none⟩) (k.block d f g (Zu (Zj (by rw[p.o.1]))))).trans y1;have v2:=(QEc (a:=⟨d,2,none⟩) (k.block d f g (Zu (Zj (by rw[p.o.1]))))).trans y2;have v3:=y.VR;clear G y k f)))
 all_goals
  go_wp2_with fail
  go_end0
  obtain⟨q1,X,q3⟩:=O.o;obtain⟨Y,u2,u3⟩:=J.o;have e:=q1.after Y V.o.1 V.o.2.1;rw[e] at X;exact⟨rfl,x,I,Y,X.TW,(M.o.trans u3.TW).trans ((PF.Ae (ZV.drew)).trans q3.TW)⟩
inductive FJ (l:List Tm):List Int->List Tm->Prop
 | nil:FJ l [] l
 | snoc (ids:List Int) (l1 l2:List Tm) (id x:Int):FJ l ids l1->BZ l1 id x l2->FJ l (ids++[id]) l2
theorem FJ.all {ids:List Int}(h:FJ l ids l')(c:Bk l):Bk l'/\l'.length<=l.length/\(Bo l->Bo l')/\∀t,t∈l'↔t∈l/\t.id ∉ ids:=by
 induction h with
 | nil=>exact⟨c,Zx _,fun h=>h,fun t=>by simp⟩
 | snoc ids f g id x _ a e =>
  obtain⟨i1,i2,i3,i4⟩:=e;refine⟨a.apart i1,Zv a.len i2,fun d=>a.rising (i3 d),fun t=> ?_⟩;rw[a.gone i1,i4];simp only[QCn,List.mem_singleton,not_or,and_assoc]
def Jm (r nd:Int)(qs:List Int):List Int:=qs.map (fun q=>Bc r nd q)
def Dc (w:World)(vb:Nat)(qs:List Int):Prop:=∃cur,w.heap[vb]? =some (.cells cur 280 (0,0))/\∀i,i<qs.length->cur[i]? =some (.int .i64 (qs.getD i 0))
theorem Dc.cell (h:Dc w vb qs){i:Nat}(hi:i<qs.length):w.cell? ⟨vb,i,none⟩=some (.int .i64 (qs.getD i 0)):=by
 obtain⟨cur,a,c⟩:=h;unfold QEk;rw[a];exact c i hi
theorem Dc.at_ (h:Dc w vb qs)(e:w'.heap[vb]? =w.heap[vb]?):Dc w' vb qs:=by
 obtain⟨cur,a,c⟩:=h;exact⟨cur,e.trans a,c⟩
def Bx (w:World)(sb:Nat)(r nd:Int):Prop:=w.heap[sb]? =some (.cells #[.int .u64 r,.int .i64 nd] 274 (0,0))
theorem Bx.cells {sb:Nat}(h:Bx w sb r nd):w.cell? ⟨sb,0,none⟩=some (.int .u64 r)/\w.cell? ⟨sb,1,none⟩=some (.int .i64 nd):=by
 unfold QEk;rw[h];exact⟨rfl,rfl⟩
theorem PF.other (h:PF w w' P B K){k:Nat}{t:TypeId}{fr:Nat×Nat}(e:w.heap[k]? =some (.cells cs t fr))(c:t≠288)(a:k≠P):w'.heap[k]? =w.heap[k]? :=h.block k (Zaa e) a (Zj ⟨cs,t,fr,e,c⟩)
theorem Hl (w:World)(P B now vb:Nat)(l:List Tm)(r nd:Int)(qs:List Int)(h:Bh w P B Ck now l)(hk:∀q,q∈qs->BL r nd q (Bc r nd q))(O:Dc w vb qs)(R:vb≠P)(hn:qs.length<=10) :
  Calls prog 152 #[.pointer (some ⟨P,4,none⟩),.agg #[.int .u64 r,.int .i64 nd],.slice (some ⟨vb,0,none⟩) qs.length qs.length] w fun e w'=>e=.returned (.tuple #[])/\∃l',FJ l (Jm r nd qs) l'/\Bh w' P B Ck now l'/\PF w w' P B Ck:=by
 obtain⟨n,j⟩:∃n,n=qs.length:=⟨_,rfl⟩;rw[<-j] at hn ⊢;obtain⟨L,d⟩:∃L,L=w.alloc (.cells #[.int .u64 r,.int .i64 nd] 274):=⟨_,rfl⟩;obtain⟨sb,k⟩:∃sb,sb=w.heap.size:=⟨_,rfl⟩;have a:ZY w L:=by rw[d];exact ZV.alloc ZU _
 have C:Bx L sb r nd:=by rw[d,k];exact QFm w _
 obtain⟨G,Q⟩:=(show vb<w.heap.size/\True from⟨by obtain⟨cur,q,_⟩:=O;exact Zaa q,trivial⟩);have N:=h.pb;have E:sb≠P:=by omega
 have H:=Zz (Zq a (Zq C (Zq (O.at_ (a.block vb G)) (Zq (h.Ak a) (Zq hk (Zq j h.apart))))));have u:=Zz (Zq k d);clear h hk O a C G Q N k d j
 go_enter func152,ntmps152
 go_upto_region 2 with fail
 rw[<-u.o.1,<-u.o.2]
 go_loopw [10] (fun S wr=>∃(i:Nat) (li:List Tm),S=.int .i64 i/\i<=n/\FJ l (Jm r nd (qs.take i)) li/\Bh wr P B Ck now li/\PF L wr P B Ck) (fun S _=>n - (intOf S).toNat)
 case atStart=>exact⟨0,l,rfl,by omega,.nil,H.o.2.2.2.1,PF.refl _ _ _ _⟩
 case round =>
  obtain⟨i,li,rfl,hi,F,p,c⟩:=hrel;have V:=Zz (Zq F (Zq p c));by_cases Z:i<n
  .have m:Bx wr sb r nd:=(c.other H.o.2.1 (by decide) E).trans H.o.2.1
   obtain⟨cv,z,_⟩:=H.o.2.2.1;have I:Dc wr vb qs:=H.o.2.2.1.at_ (c.other z (by decide) R);obtain⟨z0,z1⟩:=m.cells;have v0:=I.cell (i:=i) (by have:=H.o.2.2.2.2.2.1;omega);obtain⟨q,M⟩:∃q,q=qs.getD i 0:=⟨_,rfl⟩;rw[<-M] at v0
   have A:q∈qs:=by
    rw[M,ZQ,ZZ (by have:=H.o.2.2.2.2.2.1;omega)];exact QAi _
   have Y:=Zz M;have W:=Zz (Jg wr.drew P B Ck now li _ r nd q (p.Ak (ZV.drew)) (H.o.2.2.2.2.1 q A));have f:Bx wr.drew sb r nd:=m;have s:=Zz f;have i1:(i:Int)<(n:Int):=by omega
   clear F p c m z I M A f
   go_upto_region 4 with fail
   go_region_held3 (fun w'=>w'.cell? ⟨sb,0,none⟩=some (.int .u64 r)/\w'.cell? ⟨sb,1,none⟩=some (.int .i64 nd)) (go_keep) ((go_at_call 225;refine W.o.mono ?_;rintro e w3 ⟨x,l1,rfl,v,J,g⟩;have X:=Zz (Zq v (Zq J g));have y:=(show Bx w3 sb r nd from (g.other s.o (by decide) E).trans s.o).cells;have y0:=y.1;have y1:=y.2;clear v J g y))
   all_goals
    go_wp2_with fail
    go_roundw
    case rel =>
     obtain⟨q1,T,U⟩:=X.o;obtain⟨u1,u2,u3⟩:=V.o
     have ht:Jm r nd (qs.take (i+1))=Jm r nd (qs.take i)++[Bc r nd q]:=by
      unfold Jm;rw[List.take_add_one,List.map_append,Y.o,ZQ];rw[ZZ (by have:=H.o.2.2.2.2.2.1;omega)]
      rfl
     refine⟨i+1,l1,by go_num,by omega,?_,T,(u3.trans (PF.Ae (ZV.drew))).trans U⟩;rw[ht];exact .snoc _ _ _ _ x u1 q1
    case measure=>simp[intOf];omega
  .have e:i=n:=by omega
   subst e;have i1:¬(i:Int)<(i:Int):=by omega
   clear Z;go_wp2_with fail
   go_end0
   obtain⟨q1,T,U⟩:=V.o;refine⟨rfl,li,?_,T,(PF.Ae H.o.1).trans U⟩;rw[List.take_of_length_le (by have:=H.o.2.2.2.2.2.1;omega)] at q1;exact q1
theorem Ls (w:World)(P B now:Nat)(l:List Tm)(r nd a sq:Int)(h:Bh w P B Ck now l)(p:BL r nd 2 (Bc r nd 2))(F:0<=a)(G:a<=4611686018427387904)(hl:l.length<200) :
  Calls prog 148 #[.pointer (some ⟨P,4,none⟩),.agg #[.int .u64 r,.int .i64 nd],.int .i64 a] w fun e w'=>e=.returned (.tuple #[])/\(∃l',((a=0/\l'=l)\/(a≠0/\∃x y,BZ l (Bc r nd 2) x y/\l'=y++[⟨Bc r nd 2,Za2 now (now+a),sq+1⟩]))/\Bh w' P B Ck now l')/\PF w w' P B Ck:=by
 obtain⟨u,f⟩:∃u,u=w.alloc (.cells #[.int .u64 r,.int .i64 nd] 274):=⟨_,rfl⟩;obtain⟨sb,j⟩:∃sb,sb=w.heap.size:=⟨_,rfl⟩;have i:ZY w u:=by rw[f];exact ZV.alloc ZU _
 have s:Bx u sb r nd:=by rw[f,j];exact QFm w _
 have z:=h.pb;have I:sb≠P:=by omega
 obtain⟨z0,N⟩:=s.cells;have c:=h.Ak i;have g:=ES u P B now l (Bc r nd 2) r nd 2 a sq c p F G hl;have H:=Zz (Zq i (Zq c g));have d:=Zz (Zq j f);clear h p i s z j f g c;by_cases v:a=0
 .subst v
  go_enter func148,ntmps148
  go_wp2_with fail
  try rw[<-d.o.1,<-d.o.2]
  go_end0
  exact⟨rfl,⟨l,Zu ⟨by first | rfl | trivial,rfl⟩,H.o.2.1⟩,PF.Ae H.o.1⟩
 .have g1:(a != 0)=true:=by simpa using v
  have E:decide (a=0)=false:=decide_eq_false v;have C:=Zz v
  go_enter func148,ntmps148
  go_upto_region 2 with fail
  rw[<-d.o.1,<-d.o.2];go_wp2_with (go_at_call 198;refine H.o.2.2.mono ?_;rintro e M ⟨rfl,x,y,k,c,m⟩;have A:=Zz (Zq k (Zq c m));clear k c m)
  go_end0
  obtain⟨q1,J,L⟩:=A.o;exact⟨rfl,⟨_,Zj ⟨C.o,x,y,q1,rfl⟩,J⟩,(PF.Ae H.o.1).trans L⟩
