import Derived.Test.YtgdcjccbdmcebaaGreatDoorM07
set_option linter.unusedSimpArgs false
set_option linter.unusedVariables false
set_option maxHeartbeats 8000000
set_option maxRecDepth 100000
namespace Go.Proofs.YtgdcjccbdmcebaaGreatDoor
open Tryz
open Go.RowKit
attribute [local go_sem ↓] Go.wp_at_zero Go.wp_at_succ
variable {l l':List Tm}{K:Nat->Prop}{w w':World}{D:DataW Unit}{b n P B bm:Nat}{id nd r q x:Int}{wd:Nat->Nat}{t:Tm}
structure Bf (w:World)(P B:Nat)(K:Nat->Prop)(now:Nat)(l:List Tm):Prop where
 mem:∃dm Bz wd,Bu w P B K now dm Bz (Zag now l) wd/\NK w B dm l/\Words wd (Zag now l)
 MV:now<=4611686018427387904
 Bs:l.length<=200
 later:CR now l
 ids:EC l
 apart:Bj l
theorem nil_eq (w:World):(binOp .eql 155 (.map none) (.map none)).run prog w= .ok (.bool true) w:=by kernel_rfl
theorem nil_ne (bm:Nat)(w:World):(binOp .eql 155 (.map (some bm)) (.map none)).run prog w= .ok (.bool false) w:=by kernel_rfl
def AH (x:Int):Value:=if x=0 then .nilIface else .iface 32 (.int .i64 x)
theorem Lx (now:Nat)(tm:Int)(a:0<=tm)(hn:now<=4611686018427387904):min (max tm ((now:Int)+1)) 4611686018427387904=Za2 now tm:=by
 unfold Za2
 split<;>split<;>omega
theorem UJ (now:Nat)(tm:Int)(a:0<=tm)(hn:now<=4611686018427387904):(now:Int)<=Za2 now tm/\Za2 now tm<=4611686018427387904:=by
 rw[<-Lx now tm a hn];omega
theorem CR.snoc (h:CR n l)(c:(n:Int)<=t.tm/\t.tm<=4611686018427387904):CR n (l++[t]):=by
 intro x d;rcases List.mem_append.1 d with a | a
 ·exact h x a
 ·simp at a;subst a;exact c
theorem EC.snoc (h:EC l)(c:FF t.id):EC (l++[t]):=by
 intro i hi;rw[ZX,List.length_singleton] at hi;rw[Zdn l t i hi];by_cases a:i<l.length
 ·rw[if_pos a];exact h i a
 ·rw[if_neg a];exact c
theorem Bj.snoc (h:Bj l)(hn:¬CC l t.id l.length):Bj (l++[t]):=by
 intro i j c d;rw[ZX,List.length_singleton] at d;rw[Zdn _ _ i (by omega),Zdn _ _ j d,if_pos (by omega:i<l.length)];by_cases a:j<l.length
 ·rw[if_pos a];exact h i j c a
 ·rw[if_neg a];exact fun e=>hn ⟨i,by omega,e⟩
theorem CR.cut (h:CR n l):CR n (l.take b++l.drop (b+1)):=by
 intro x c;rcases List.mem_append.1 c with a | a
 ·exact h x (List.mem_of_mem_take a)
 ·exact h x (List.mem_of_mem_drop a)
theorem EC.cut (h:EC l)(a:b<l.length):EC (l.take b++l.drop (b+1)):=by
 intro i hi;have hl:=Zcl l b a;rw[Zc8 l b i a];exact h _ (by split<;>omega)
theorem Xy {now:Nat}{g:Nat->Value}{tn o:Nat}(m:t.tm=(tn:Int))(c:now<=4611686018427387904)(hlen:l.length<200)(s:CR now l)(a:EC l)(i:Bj l)(f:¬CC l t.id l.length)(d:FF t.id)(v:(now:Int)<=t.tm/\t.tm<=4611686018427387904)(p:Ug D l)(u:Maps.Tidy D)(k:B<=bm)(hw:Words wd (Zag now l))
  (hp:Bu w' P B K now (.map (some bm)) g (BJ (Zag now l) (pl now tn) (Zag now l (pl now tn)++[t.id])) (BJ wd (CD now tn) o)) (hx:o=wd (CD now tn) ||| 2 ^ slt (CD now tn) tn) (hm:Zbd (D.put (Ch t.id) (.lit (.int .u64 t.tm))) w' bm (Maps.size (D.put (Ch t.id) (.lit (.int .u64 t.tm))))):Bf w' P B K now (l++[t]):=by
 have e0:t.tm.toNat=tn:=by rw[m];rfl
 have e:Zag now (l++[t])=BJ (Zag now l) (pl now tn) (Zag now l (pl now tn)++[t.id]):=by
  funext j
  rw[IZ,e0];by_cases h:pl now tn=j
  ·subst h;rw[if_pos rfl,Zbf]
  ·rw[if_neg h,Za3 _ _ _ (Ne.symm h)]
 refine⟨⟨_,g,_,by rw[e];exact hp,Zj ⟨bm,_,rfl,k,hm,p.put u t f d a⟩,?_⟩,c,by simp;omega,s.snoc v,a.snoc d,i.snoc f⟩;rw[e,hx];exact hw.put (by have:=Fq now tn c (by omega);omega) (Zea _ _) t.id
def Dr (w:World)(b:Nat)(r nd q:Int):Prop:=(w.cell? ⟨b,0,none⟩=some (.int .u64 r)/\w.cell? ⟨b,1,none⟩=some (.int .i64 nd))/\w.cell? ⟨b,2,none⟩=some (.int .i64 q)
theorem Dr.at_ (h:Dr w b r nd q)(e:w'.heap[b]? =w.heap[b]?):Dr w' b r nd q :=
 ⟨⟨(World.cell?_of_block (a:=⟨b,0,none⟩) e).trans h.1.1,(World.cell?_of_block (a:=⟨b,1,none⟩) e).trans h.1.2⟩,(World.cell?_of_block (a:=⟨b,2,none⟩) e).trans h.2⟩
theorem Dr.lt (h:Dr w b r nd q):b<w.heap.size:=by
 rcases Nat.lt_or_ge b w.heap.size with a | a
 ·exact a
 ·have:=h.1.1;simp[World.cell?,Array.getElem?_eq_none a] at this
theorem Dr.below (h:Dr w b r nd q)(e:Below w.heap.size w w'):Dr w' b r nd q:=h.at_ (e.block b h.lt)
theorem Dr.setCell (h:Dr w b r nd q){a:Addr}(v:Value)(e:b≠a.block):Dr (w.setCell a v) b r nd q:=h.at_ (Zl w a v b e)
theorem Dr.grown (h:Dr w b r nd q){o:Option Nat}(g:w.grownBy w' o)(e:some b≠o):Dr w' b r nd q:=h.at_ (g.block b h.lt e)
theorem GB (w:World)(r nd q:Int):Dr (w.alloc (.cells #[.int .u64 r, .int .i64 nd, .int .i64 q] 288)) w.heap.size r nd q:=boxed w r nd q _ rfl
theorem pe_inj {v v':Value}{d:DataW Unit}{p e:List MemPlace}(h:plainElem prog 27 v=some (d,p))(c:plainElem prog 27 v'=some (d,e)):v=v':=by
 unfold plainElem at h c;rw[underlying27] at h c
 cases v<;>simp at h
 cases v'<;>simp at c
 obtain⟨⟨rfl,_⟩,rfl,_⟩:=h;obtain⟨⟨rfl,_⟩,a,_⟩:=c
 injection a with a
 injection a with _ a
 rw[a]
theorem Oc {m:Nat}(h:Zbd D w bm n):Zbd D (w.drewN m) bm n:=h
theorem below_drewN (w:World)(m:Nat):Below w.heap.size w (w.drewN m):=⟨rfl,rfl,rfl,Zx _,fun _ _=>rfl⟩
theorem IP (h:Zbd D w bm n)(a:Below w.heap.size w w'):Zbd D w' bm n:=by
 obtain⟨es,clock,m1,m2⟩:=h;exact⟨es,clock,(a.block bm (Array.getElem?_eq_some_iff.1 m1).1).trans m1,m2⟩
theorem GW (h:Zbd D w bm n)(c:BM r nd q id):∃v0,∀m,(Instr.lookup 155 (.map (some bm)) (.agg #[.int .u64 r, .int .i64 nd, .int .i64 q]) true).run prog (w.drewN m)= .ok (.tuple #[v0, .bool (Maps.has D (Ch id))]) (w.drewN m):=by
 have a:Gj id= .agg #[.int .u64 r, .int .i64 nd, .int .i64 q]:=by unfold Gj;rw[Zc3 c]
 have one:∀m,∃v ps,(Instr.lookup 155 (.map (some bm)) (.agg #[.int .u64 r, .int .i64 nd, .int .i64 q]) true).run prog (w.drewN m)= .ok (.tuple #[v, .bool (Maps.has D (Ch id))]) (w.drewN m)/\plainElem prog 27 v=some (D.atKey (Ch id) u0,ps):=fun m=>by
  rw[<-a];exact World.ownsMap.look_ok (Oc (m:=m) h) Ih underlying155 (Sj _) (plainElem_int underlying27 (by decide)) (Zdc c.ok)
 obtain⟨v0,f,_,e0⟩:=one 0;refine⟨v0,fun m=> ?_⟩;obtain⟨v,p,d,e⟩:=one m;rw[d,pe_inj e e0]
theorem RG (w:World)(c:BM r nd q id):∀m,(Instr.lookup 155 (.map none) (.agg #[.int .u64 r, .int .i64 nd, .int .i64 q]) true).run prog (w.drewN m)= .ok (.tuple #[.int .u64 0, .bool false]) (w.drewN m):=fun m=>by
 have a:Gj id= .agg #[.int .u64 r, .int .i64 nd, .int .i64 q]:=by unfold Gj;rw[Zc3 c]
 have d:=Maps.look_nil (w:=w.drewN m) true Ih underlying155 (Sj _) (Zdc c.ok);rw[if_pos rfl,a] at d;exact d
theorem XA (w:World)(P B:Nat)(K:Nat->Prop)(now:Nat)(l:List Tm)(id r nd q tm sq:Int)(h:Bf w P B K now l)(Y:BM r nd q id)(h0:0<=tm)(ct:tm<18446744073709551616) :
  Calls prog 193 #[.pointer (some ⟨P,11,none⟩), .agg #[.int .u64 r, .int .i64 nd, .int .i64 q], .int .u64 tm] w fun e w'=>∃x l' cr,e= .returned (AH x)/\Uo l now sq id tm x l' cr/\Bf w' P B K now l'/\PF w w' P B K:=by
 have br:Gj id= .agg #[.int .u64 r, .int .i64 nd, .int .i64 q]:=by unfold Gj;rw[Zc3 Y]
 have bh:=Zz (br▸Zdc Y.ok);have v:=Zz Y;obtain⟨f,Z⟩:∃f,f=w.alloc (.cells #[.int .u64 r, .int .i64 nd, .int .i64 q] 288):=⟨_,rfl⟩;obtain⟨bx,ay⟩:∃bx,bx=w.heap.size:=⟨_,rfl⟩;have G:=Zz (show Dr f bx r nd q by rw[Z,ay];exact GB w r nd q);have N:Below w.heap.size w f:=by rw[Z];exact (Zk _ _).alloc (Zx _) _
 obtain⟨⟨dm,Bz,wd,hp,bo,hw⟩,F,bp,ag,ae,bj⟩:=h;have a:=Zz (Zq F (Zq bp (Zq ag (Zq ae (Zq bj hw)))));have U:=Zz (UJ now tm h0 F);have e1:IntKind.u64.wrap ((now:Int)+1)=(now:Int)+1:=by rw[IntKind.wrap_u64];omega
 have e2:=Lx now tm h0 F;have cu:=@run_makeMap prog;have ck:Hid (bx≠P):=Zz (by have:=hp.pb;have:=hp.bs;omega);have I:=Zz (hp.Aj N);have V:=Zz (PF.Ae (P:=P) (B:=B) (K:=K) N);have c1:=I.o.c1;have s:=Zz (Zq ay Z);clear F ag ae bj hw hp br Y ay Z;obtain⟨⟨z0,z1⟩,z2⟩:=G.o;rcases bo with⟨rfl,bw⟩ | ⟨bm,D,rfl,u,hm,hD⟩
 ·have lk:=RG f v.o
  clear N
  go_enter func193,ntmps193
  go_upto_region 1 with fail
  rw[<-s.o.1,<-s.o.2]
  go_quiet (fail)
  have c:=Zz (I.o.Aj (below_drewN f nq));have m:=Zz (V.o.trans (PF.Ae (P:=P) (B:=B) (K:=K) (below_drewN f nq)));have y:=Zz (G.o.below (below_drewN f nq));have ln:=Maps.len_nil (w:=f.drewN nq) underlying155 3;have av:=Zz (Zq c.o.pb c.o.bs);clear c1 z0 z1 z2 lk
  generalize f.drewN nq=w1 at *
  have c1:=c.o.c1;have f1:=c.o.fz 12;have cm:=cell_later ((Zk _ _).alloc (Zx _) (.map #[] 0)) c1;have cq:=(((Zk w1.heap.size w1).alloc (Zx _) (.map #[] 0)).frozen (p:=⟨P,12,none⟩) (by simp;have:=av.o;omega)).trans f1;have T:=nil_eq
  go_upto_region 8 with fail
  have k:=Zz ((c.o.Aj ((Zk _ _).alloc (Zx _) (.map #[] 0))).setDue (.map (some w1.heap.size)));have i:Hid (Zbd (.map []) ((w1.alloc (.map #[] 0)).setCell ⟨P,12,none⟩ (.map (some w1.heap.size))) w1.heap.size (Maps.size (.map []:DataW Unit))):=Zz (World.ownsMap.setCell (World.ownsMap_made w1 _ _ _) (by simp;have:=av.o;omega) _);have H:Hid (PF w ((w1.alloc (.map #[] 0)).setCell ⟨P,12,none⟩ (.map (some w1.heap.size))) P B K):=Zz (m.o.trans ((PF.Ae ((Zk _ _).alloc (Zx _) (.map #[] 0))).trans (PF.Bt _ P B K 12 _ (by omega))));have A:Hid (Dr ((w1.alloc (.map #[] 0)).setCell ⟨P,12,none⟩ (.map (some w1.heap.size))) bx r nd q):=Zz ((y.o.below ((Zk _ _).alloc (Zx _) (.map #[] 0))).setCell _ ck.o);have aj:Hid (bx≠w1.heap.size):=Zz (by have:=y.o.lt;omega);have u:B<=w1.heap.size:=av.o.2;have d:Hid (Ug (.map []) l/\¬CC l id l.length/\l.length≠200):=Zz (by subst bw;exact⟨Yv,(fun ⟨j,hj,_⟩=>by simp at hj),by simp⟩);clear cm cq c1 f1 ln T c m y
  generalize (DataW.map []:DataW Unit)=D at *
  clear bw
  generalize (w1.alloc (.map #[] 0)).setCell ⟨P,12,none⟩ (.map (some w1.heap.size))=w2 at *
  generalize w1.heap.size=bm at *
  have c0:=k.o.c0;have c1:=k.o.c1;obtain⟨⟨z0,z1⟩,z2⟩:=A.o;obtain⟨w3,bf,g,C⟩:=World.ownsMap.update (w:=w2.drew) i.o Ih underlying155 (by have:=d.o.1.size;have:=a.o.2.1;unfold maxLen;omega) bh.o (plainElem_int underlying27 (wf_u64 (x:=Za2 now tm) (by have:=U.o;omega) (by have:=U.o;omega)));have h3:=k.o.Aj ((Zk w2.heap.size w2).drew);obtain⟨k1,k2⟩:=h3.mapped (i.o:Zbd D w2.drew bm (Maps.size D)) u C;have J:=Zz k1;have al:=Zz (H.o.trans ((PF.Ae ((Zk w2.heap.size w2).drew)).trans k2));have au:=Zz (Zcq g);have ax:=Zz ((A.o.below ((Zk w2.heap.size w2).drew)).grown C (by simpa using aj.o));clear h3 k1 k2 g C
  go_region
  have HT:=Zz (i.o.tidy Ih);clear bf k i c0 c1 H z0 z1 z2 A;have c1:=J.o.c1;obtain⟨⟨z0,z1⟩,z2⟩:=ax.o;obtain⟨tn,E⟩:∃tn:Nat,Za2 now tm=(tn:Int):=⟨(Za2 now tm).toNat,by have:=U.o;omega⟩;have z:=Ni w3 P B K now tn Bz (Zag now l) wd bm (D.put (Ch id) (.lit (.int .u64 (Za2 now tm)))) id r nd q J.o au.o u v.o (by rw[Maps.atKey_put_same HT.o.isMap (Qm id),E]) a.o.1 (by have:=U.o;omega) (fun j hj=>(a.o.2.2.2.2.2 j hj).1) (by have:=Zc1 now l (pl now tn);have:=a.o.2.1;omega);have L:=Zz z;have aw:=Zz E;clear z E;go_wp2_with (go_at_call 259;refine L.o.mono ?_;rintro e w4 ⟨rfl,v',x',R,hx,Q,O,b9⟩;have X:=Zz (Zq R (Zq hx (Zq Q O)));clear R hx Q O b9)
  go_ret
  refine⟨0,l++[⟨id,Za2 now tm,sq+1⟩],sq+1,rfl,Zj (Zj ⟨d.o.2.1,d.o.2.2,rfl,rfl,rfl⟩),?_,al.o.trans X.o.2.2.2⟩;exact Xy (t:=⟨id,Za2 now tm,sq+1⟩) aw.o a.o.1 (by have:=a.o.2.1;have:=d.o.2.2;omega) a.o.2.2.1 a.o.2.2.2.1 a.o.2.2.2.2.1 d.o.2.1 v.o.ok U.o d.o.1 HT.o u a.o.2.2.2.2.2 X.o.1 X.o.2.1 X.o.2.2.1
 ·have az:Zbd D f bm (Maps.size D):=IP hm N
  obtain⟨v0,lk⟩:=GW az v.o;have ar:=Zz az;have aj:Hid (bx≠bm):=Zz (by have:=hm.lt;have:=s.o.1;omega);have HD:=Zz hD;clear N hm az;by_cases hh:CC l id l.length
  ·have eh:Maps.has D (Ch id)=true:=(hD.has id v.o.ok).2 hh
   rw[eh] at lk;have HH:=Zz hh;clear hD eh hh
   go_enter func193,ntmps193
   go_upto_region 1 with fail
   rw[<-s.o.1,<-s.o.2]
   go_quiet (fail)
   have c:=Zz (I.o.Aj (below_drewN f nq));have m:=Zz (V.o.trans (PF.Ae (P:=P) (B:=B) (K:=K) (below_drewN f nq)));have y:=Zz (G.o.below (below_drewN f nq));have W:Hid (Zbd D (f.drewN nq) bm (Maps.size D)):=ar;go_wp2_with fail
   go_ret
   exact⟨8,l,sq,rfl,Zu ⟨HH.o,rfl,rfl,rfl⟩,⟨⟨_,Bz,wd,c.o,Zj ⟨bm,D,rfl,u,W.o,HD.o⟩,a.o.2.2.2.2.2⟩,a.o.1,a.o.2.1,a.o.2.2.1,a.o.2.2.2.1,a.o.2.2.2.2.1⟩,m.o⟩
  ·have eh:Maps.has D (Ch id)=false:=by
    cases e:Maps.has D (Ch id)
    ·rfl
    ·exact absurd ((hD.has id v.o.ok).1 e) hh
   rw[eh] at lk;have HH:=Zz hh;clear eh hh;by_cases M:l.length=200
   ·have S:=hD.size
    clear hD
    go_enter func193,ntmps193
    go_upto_region 1 with fail
    rw[<-s.o.1,<-s.o.2]
    go_quiet (fail)
    have c:=Zz (I.o.Aj (below_drewN f nq));have m:=Zz (V.o.trans (PF.Ae (P:=P) (B:=B) (K:=K) (below_drewN f nq)));have y:=Zz (G.o.below (below_drewN f nq));have W:Hid (Zbd D (f.drewN nq) bm (Maps.size D)):=ar;have ln:=World.ownsMap.len W.o underlying155 3;rw[S,M] at ln;clear lk S z0 z1 z2
    generalize f.drewN nq=w1 at *
    have c1:=c.o.c1;go_wp2_with fail
    go_ret
    exact⟨5,l,sq,rfl,Zj (Zu ⟨HH.o,M,rfl,rfl,rfl⟩),⟨⟨_,Bz,wd,c.o,Zj ⟨bm,D,rfl,u,W.o,HD.o⟩,a.o.2.2.2.2.2⟩,a.o.1,a.o.2.1,a.o.2.2.1,a.o.2.2.2.1,a.o.2.2.2.2.1⟩,m.o⟩
   ·have S:=hD.size
    have g3:decide ((200:Int)<=(l.length:Int))=false:=decide_eq_false (by have:=a.o.2.1;omega);have d:Hid (Ug D l/\¬CC l id l.length/\l.length≠200):=Zz ⟨HD.o,HH.o,M⟩;clear hD
    go_enter func193,ntmps193
    go_upto_region 1 with fail
    rw[<-s.o.1,<-s.o.2]
    go_quiet (fail)
    have c:=Zz (I.o.Aj (below_drewN f nq));have m:=Zz (V.o.trans (PF.Ae (P:=P) (B:=B) (K:=K) (below_drewN f nq)));have y:=Zz (G.o.below (below_drewN f nq));have i:Hid (Zbd D (f.drewN nq) bm (Maps.size D)):=ar;have ln:=World.ownsMap.len i.o underlying155 3;rw[S] at ln;have k:=c;have H:=m;have A:=y;clear lk S z0 z1 z2 c m y
    generalize f.drewN nq=w2 at *
    have c1:=k.o.c1;have T:=nil_ne bm
    go_upto_region 8 with fail
    clear c1 ln T;have c0:=k.o.c0;have c1:=k.o.c1;obtain⟨⟨z0,z1⟩,z2⟩:=A.o;obtain⟨w3,bf,g,C⟩:=World.ownsMap.update (w:=w2.drew) i.o Ih underlying155 (by have:=d.o.1.size;have:=a.o.2.1;unfold maxLen;omega) bh.o (plainElem_int underlying27 (wf_u64 (x:=Za2 now tm) (by have:=U.o;omega) (by have:=U.o;omega)));have h3:=k.o.Aj ((Zk w2.heap.size w2).drew);obtain⟨k1,k2⟩:=h3.mapped (i.o:Zbd D w2.drew bm (Maps.size D)) u C;have J:=Zz k1;have al:=Zz (H.o.trans ((PF.Ae ((Zk w2.heap.size w2).drew)).trans k2));have au:=Zz (Zcq g);have ax:=Zz ((A.o.below ((Zk w2.heap.size w2).drew)).grown C (by simpa using aj.o));clear h3 k1 k2 g C
    go_region
    have HT:=Zz (i.o.tidy Ih);clear bf k i c0 c1 H z0 z1 z2 A;have c1:=J.o.c1;obtain⟨⟨z0,z1⟩,z2⟩:=ax.o;obtain⟨tn,E⟩:∃tn:Nat,Za2 now tm=(tn:Int):=⟨(Za2 now tm).toNat,by have:=U.o;omega⟩;have z:=Ni w3 P B K now tn Bz (Zag now l) wd bm (D.put (Ch id) (.lit (.int .u64 (Za2 now tm)))) id r nd q J.o au.o u v.o (by rw[Maps.atKey_put_same HT.o.isMap (Qm id),E]) a.o.1 (by have:=U.o;omega) (fun j hj=>(a.o.2.2.2.2.2 j hj).1) (by have:=Zc1 now l (pl now tn);have:=a.o.2.1;omega);have L:=Zz z;have aw:=Zz E;clear z E;go_wp2_with (go_at_call 259;refine L.o.mono ?_;rintro e w4 ⟨rfl,v',x',R,hx,Q,O,b9⟩;have X:=Zz (Zq R (Zq hx (Zq Q O)));clear R hx Q O b9)
    go_ret
    refine⟨0,l++[⟨id,Za2 now tm,sq+1⟩],sq+1,rfl,Zj (Zj ⟨d.o.2.1,d.o.2.2,rfl,rfl,rfl⟩),?_,al.o.trans X.o.2.2.2⟩;exact Xy (t:=⟨id,Za2 now tm,sq+1⟩) aw.o a.o.1 (by have:=a.o.2.1;have:=d.o.2.2;omega) a.o.2.2.1 a.o.2.2.2.1 a.o.2.2.2.2.1 d.o.2.1 v.o.ok U.o d.o.1 HT.o u a.o.2.2.2.2.2 X.o.1 X.o.2.1 X.o.2.2.1
theorem Fe {tn:Nat}(c:b<l.length)(k:Bj l)(a:(l.getD b .z).tm.toNat=tn):∃i,i<(Zag n l (pl n tn)).length/\(Zag n l (pl n tn)).getD i 0=(l.getD b .z).id/\(∀j,j<i->(Zag n l (pl n tn)).getD j 0≠(l.getD b .z).id)/\Zag n (l.take b++l.drop (b+1))=BJ (Zag n l) (pl n tn) ((Zag n l (pl n tn)).take i++(Zag n l (pl n tn)).drop (i+1)):=by
 subst a;obtain⟨i,d,f,g,h⟩:=QJ n l b c k;refine⟨i,d,f,g,?_⟩
 funext j
 by_cases e:j=pl n (l.getD b .z).tm.toNat
 ·rw[e,Zbf];exact h
 ·rw[Za3 _ _ _ e];exact Kv n l b j c (Ne.symm e)
theorem Sh {now i tn k:Nat}{f:Nat->Value}(e:b<l.length)(s:(l.getD b .z).tm.toNat=tn)(c:now<=4611686018427387904)(hlen:l.length<=200)(h:CR now l)(a:EC l)(d:Bj l)(m:Ug D l)(o:Maps.Tidy D)(g:B<=bm)(hw:Words wd (Zag now l))(hi:i<(Zag now l (pl now tn)).length)
  (hcut:Zag now (l.take b++l.drop (b+1))=BJ (Zag now l) (pl now tn) ((Zag now l (pl now tn)).take i++(Zag now l (pl now tn)).drop (i+1)))
  (hp:Bu w' P B K now (.map (some bm)) f (BJ (Zag now l) (pl now tn) ((Zag now l (pl now tn)).take i++(Zag now l (pl now tn)).drop (i+1))) (BJ wd (CD now tn) k)) (hx:Ul k (wd (CD now tn)) (slt (CD now tn) tn) (Zag now l (pl now tn)).length) (hm:Zbd (D.del (Ch (l.getD b .z).id)) w' bm (Maps.size (D.del (Ch (l.getD b .z).id)))):Bf w' P B K now (l.take b++l.drop (b+1)):=by
 have p:=Zcl l b e;have j:=h _ (Zcd e);refine⟨⟨_,f,_,by rw[hcut];exact hp,Zj ⟨bm,_,rfl,g,hm,m.cut o d a e⟩,?_⟩,c,by omega,h.cut,a.cut e,d.cut e⟩;rw[hcut];exact hw.drop (by have:=Fq now tn c (by omega);omega) (Zea _ _) hi hx
theorem Jg (w:World)(P B:Nat)(K:Nat->Prop)(now:Nat)(l:List Tm)(id r nd q:Int)(h:Bf w P B K now l)(X:BM r nd q id) :
  Calls prog 225 #[.pointer (some ⟨P,11,none⟩), .agg #[.int .u64 r, .int .i64 nd, .int .i64 q]] w fun e w'=>∃x l',e= .returned (AH x)/\Cb l id x l'/\Bf w' P B K now l'/\PF w w' P B K:=by
 have k:=Zz X;obtain⟨d,v⟩:∃d,d=w.alloc (.cells #[.int .u64 r, .int .i64 nd, .int .i64 q] 288):=⟨_,rfl⟩;obtain⟨bx,H⟩:∃bx,bx=w.heap.size:=⟨_,rfl⟩;have O:=Zz (show Dr d bx r nd q by rw[v,H];exact GB w r nd q);have p:Below w.heap.size w d:=by rw[v];exact (Zk _ _).alloc (Zx _) _
 obtain⟨⟨dm,Bz,wd,hp,U,hw⟩,C,W,A,y,T⟩:=h;have c:=Zz (Zq C (Zq W (Zq A (Zq y (Zq T hw)))));have u:=Zz (hp.Aj p);have F:=Zz (PF.Ae (P:=P) (B:=B) (K:=K) p);have c1:=u.o.c1;have f:=Zz (Zq H v);clear C A y T hw hp X H v;obtain⟨⟨z0,z1⟩,z2⟩:=O.o;rcases U with⟨rfl,Y⟩ | ⟨bm,D,rfl,G,hm,S⟩
 ·have lk:=RG d k.o
  have HL:=Zz Y;clear p Y
  go_enter func225,ntmps225
  go_upto_region 1 with fail
  rw[<-f.o.1,<-f.o.2]
  go_quiet (fail)
  have m:=Zz (u.o.Aj (below_drewN d nq));have g:=Zz (F.o.trans (PF.Ae (P:=P) (B:=B) (K:=K) (below_drewN d nq)));go_wp2_with fail
  go_ret
  exact⟨8,l,rfl,Zj ⟨(fun ⟨j,N,_⟩=>by rw[HL.o] at N;simp at N),rfl,rfl⟩,⟨⟨_,Bz,wd,m.o,Zu ⟨rfl,HL.o⟩,c.o.2.2.2.2.2⟩,c.o.1,c.o.2.1,c.o.2.2.1,c.o.2.2.2.1,c.o.2.2.2.2.1⟩,g.o⟩
 ·have L:Zbd D d bm (Maps.size D):=IP hm p
  obtain⟨v0,lk⟩:=GW L k.o;have Q:=Zz L;have HD:=Zz S;clear p hm L;by_cases hh:CC l id l.length
  ·have R:Maps.has D (Ch id)=true:=(S.has id k.o.ok).2 hh
   rw[R] at lk;obtain⟨b,hb,he⟩:=hh;obtain⟨tn,M⟩:∃tn,(l.getD b .z).tm.toNat=tn:=⟨_,rfl⟩;have Z:=c.o.2.2.1 _ (Zcd hb);have aj:(l.getD b .z).tm=(tn:Int):=by omega
   obtain⟨i,hi,I,J,hcut⟩:=Fe (n:=now) hb c.o.2.2.2.2.1 M;rw[he] at I J;have a:=Zz (Zq hb (Zq he (Zq M (Zq hi (Zq hcut (Zq I (Zq J (Zq aj Z))))))));clear S R hb he M Z aj hi I J hcut
   go_enter func225,ntmps225
   go_upto_region 1 with fail
   rw[<-f.o.1,<-f.o.2]
   go_quiet (fail)
   have m:=Zz (u.o.Aj (below_drewN d nq));have g:=Zz (F.o.trans (PF.Ae (P:=P) (B:=B) (K:=K) (below_drewN d nq)));have al:=Zz (O.o.below (below_drewN d nq));have s:Hid (Zbd D (d.drewN nq) bm (Maps.size D)):=Q;clear lk z0 z1 z2 c1
   generalize d.drewN nq=w1 at *
   obtain⟨⟨z0,z1⟩,z2⟩:=al.o;have E:=Zz (Od w1 P B K now tn Bz (Zag now l) wd bm i D id r nd q m.o s.o G k.o (by rw[<-a.o.2.1,<-a.o.2.2.2.2.2.2.2.1];exact HD.o.tm b a.o.1) c.o.1 (by have:=a.o.2.2.2.2.2.2.2;omega) (fun j N=>(c.o.2.2.2.2.2 j N).1) (by have:=Zc1 now l (pl now tn);omega) a.o.2.2.2.1 a.o.2.2.2.2.2.1 a.o.2.2.2.2.2.2.1);go_wp2_with (go_at_call 234;refine E.o.mono ?_;rintro e w4 ⟨rfl,v',x',ag,hx,ae,V⟩;have HN:=Zz (Zq ag (Zq hx (Zq ae V)));clear ag hx ae V)
   go_ret
   obtain⟨a1,a2,a3,a4,a5,a6,a7,a8,a9⟩:=a.o;obtain⟨b1,b2,b3,b4,b5,b6⟩:=c.o;obtain⟨n1,n2,n3,n4⟩:=HN.o;refine⟨0,_,rfl,Zu ⟨b,a1,a2,(fun j N e=>b5 j b N a1 (by rw[e,a2])),rfl,rfl⟩,?_,g.o.trans n4⟩;exact Sh a1 a3 b1 b2 b3 b4 b5 HD.o (s.o.tidy Ih) G b6 a4 a5 n1 n2 (by rw[a2];exact n3)
  ·have R:Maps.has D (Ch id)=false:=by
    cases e:Maps.has D (Ch id)
    ·rfl
    ·exact absurd ((S.has id k.o.ok).1 e) hh
   rw[R] at lk;have HH:=Zz hh;clear S R hh
   go_enter func225,ntmps225
   go_upto_region 1 with fail
   rw[<-f.o.1,<-f.o.2]
   go_quiet (fail)
   have m:=Zz (u.o.Aj (below_drewN d nq));have g:=Zz (F.o.trans (PF.Ae (P:=P) (B:=B) (K:=K) (below_drewN d nq)));have s:Hid (Zbd D (d.drewN nq) bm (Maps.size D)):=Q;go_wp2_with fail
   go_ret
   exact⟨8,l,rfl,Zj ⟨HH.o,rfl,rfl⟩,⟨⟨_,Bz,wd,m.o,Zj ⟨bm,D,rfl,G,s.o,HD.o⟩,c.o.2.2.2.2.2⟩,c.o.1,c.o.2.1,c.o.2.2.1,c.o.2.2.2.1,c.o.2.2.2.2.1⟩,g.o⟩
theorem Bf.Cx (h:Bf w P B K n l)(y:w.heap.size<=w'.heap.size)(f:∀o,11<=o->o<728->w'.cell? ⟨P,o,none⟩=w.cell? ⟨P,o,none⟩)(hf:∀o,w'.frozen? ⟨P,o,none⟩=w.frozen? ⟨P,o,none⟩)
  (hb:∀k cs fr,B<=k->w.heap[k]? =some (.cells cs 288 fr)->w'.heap[k]? =w.heap[k]?) (hm:∀k es c,B<=k->w.heap[k]? =some (.map es c)->w'.heap[k]? =w.heap[k]?):Bf w' P B K n l:=by
 obtain⟨⟨j,Bz,wd,hp,a,hw⟩,m,p,s,u,v⟩:=h;refine⟨⟨j,Bz,wd,⟨?_,?_,fun k d=> ?_,fun k d=> ?_,fun o=>(hf o).trans (hp.fz o),fun k d=>Ha (hp.own k d) (fun z g he _=> ?_),hp.apart,hp.pb,Zv hp.bs y,hp.sp,fun z g=> ?_⟩,a.kept hm,hw⟩,m,p,s,u,v⟩
 ·exact (f 11 (by omega) (by omega)).trans hp.c0
 ·exact (f 12 (by omega) (by omega)).trans hp.c1
 ·exact (f (13+k) (by omega) (by omega)).trans (hp.cs k d)
 ·exact (f (717+k) (by omega) (by omega)).trans (hp.cw k d)
 ·obtain⟨cs,fr,e⟩:=he
  exact hb z cs fr g e
 ·obtain⟨q1,cs,fr,i⟩:=hp.kb z g
  exact⟨q1,cs,fr,(hb z cs fr q1 i).trans i⟩
theorem Bf.pb (h:Bf w P B K n l):P<B/\B<=w.heap.size:=by
 obtain⟨a,Bz,wd,hp,_⟩:=h.mem;exact⟨hp.pb,hp.bs⟩
theorem Bf.Aj (h:Bf w P B K n l)(c:Below w.heap.size w w'):Bf w' P B K n l:=by
 have d:P<w.heap.size:=by have:=h.pb;omega
 exact h.Cx c.size (fun o _ _=>World.cell?_of_block (a:=⟨P,o,none⟩) (c.block P d)) (fun o=>World.frozen?_of_block (a:=⟨P,o,none⟩) (c.block P d)) (fun k _ _ _ e=>c.block k (Zaa e)) (fun k _ _ _ e=>c.block k (Zaa e))
theorem Bf.now0 (h:Bf w P B K n l):w.cell? ⟨P,11,none⟩=some (.int .u64 n):=by
 obtain⟨a,Bz,wd,hp,_⟩:=h.mem;exact hp.c0
def Ck:Nat->Prop:=fun _=>False
theorem Bf.Ud (h:Bf w P B K n l):Bf w P B Ck n l:=by
 obtain⟨⟨c,Bz,wd,hp,a,hw⟩,d,e,f,g,i⟩:=h;exact⟨⟨c,Bz,wd,⟨hp.c0,hp.c1,hp.cs,hp.cw,hp.fz,hp.own,hp.apart,hp.pb,hp.bs,fun _ _ _ _ h=>h,fun _ h=>h.elim⟩,a,hw⟩,d,e,f,g,i⟩
theorem PF.Ud (h:PF w w' P B K):PF w w' P B Ck :=
 ⟨h.os,h.tape,h.output,h.size,fun k d c a=>h.block k d c (by
  rcases a with (a | a) | a
  ·exact Zu (Zu a)
  ·exact a.elim
  ·exact Zj a),h.off,h.AE⟩
theorem Bf.boxes (h:Bf w P B Ck n l)(o:Below w.heap.size w w')(i:∀z,K z->w.heap.size<=z/\∃cs fr,w'.heap[z]? =some (.cells cs 288 fr)):Bf w' P B K n l:=by
 obtain⟨⟨p,Bz,wd,hp,f,hw⟩,u,v,y,A,C⟩:=h.Aj o;refine⟨⟨p,Bz,wd,⟨hp.c0,hp.c1,hp.cs,hp.cw,hp.fz,hp.own,hp.apart,hp.pb,hp.bs,fun k d z g j=> ?_,fun z g=>⟨Zv h.pb.2 (i z g).1,(i z g).2⟩⟩,f,hw⟩,u,v,y,A,C⟩;obtain⟨⟨s,m,E,c,_,_⟩,_⟩:=h
 have e:Bz k=m k:=by
  have a:=hp.cs k d;have b:=(World.cell?_of_block (a:=⟨P,13+k,none⟩) (o.block P (by have:=c.pb;have:=c.bs;omega))).trans (c.cs k d);rw[a] at b;exact Option.some.inj b
 rw[e] at g;have:=((c.own k d).lt z g).2;have:=(i z j).1;omega
theorem YX (w:World)(P now:Nat)(h:w.cell? ⟨P,11,none⟩=some (.int .u64 now)) :
  Calls prog 208 #[.pointer (some ⟨P,11,none⟩)] w fun e w'=>e= .returned (.int .u64 now)/\w'=w:=by
 go_enter func208,ntmps208
 go_wp2_with fail
 go_ret
 exact⟨rfl,rfl⟩
theorem Cb.len (h:Cb l id x l'):l'.length<=l.length:=by
 rcases h with⟨i,hi,_,_,_,rfl⟩ | ⟨_,_,rfl⟩
 ·have:=Zcl l i hi;omega
 ·exact Zx _
theorem Rw (d:b<l.length)(f:Bj l)(t:Tm):t∈l.take b++l.drop (b+1)↔t∈l/\t.id≠(l.getD b .z).id:=by
 have hl:=Zcl l b d;constructor
 ·intro h
  obtain⟨i,hi,rfl⟩:=List.getElem_of_mem h;have e:=Zc8 l b i d;rw[ZQ,ZZ hi] at e;simp only[Option.getD_some] at e;rw[e];by_cases c:i<b
  ·rw[if_pos c]
   refine⟨?_,f i b c d⟩;rw[ZQ,ZZ (by omega)];exact List.getElem_mem _
  ·rw[if_neg c]
   refine⟨?_,fun x=>f b (i+1) (by omega) (by omega) x.symm⟩;rw[ZQ,ZZ (by omega)];exact List.getElem_mem _
 ·rintro⟨h,a⟩
  obtain⟨i,hi,rfl⟩:=List.getElem_of_mem h
  have g:i≠b:=by
   intro e;subst e;rw[ZQ,ZZ hi] at a;exact a rfl
  rw[List.mem_append];by_cases c:i<b
  ·left
   rw[List.mem_take_iff_getElem];exact⟨i,by omega,rfl⟩
  ·right
   rw[List.mem_drop_iff_getElem];exact⟨i - (b+1),by omega,by congr 1;omega⟩
theorem Cb.gone (h:Cb l id x l')(a:Bj l):∀t,t∈l'↔t∈l/\t.id≠id:=by
 intro t;rcases h with⟨i,hi,he,_,_,rfl⟩ | ⟨hn,_,rfl⟩
 ·rw[Rw hi a,he]
 ·refine⟨fun h=>⟨h,fun e=>hn ?_⟩,fun h=>h.1⟩
  obtain⟨i,hi,rfl⟩:=List.getElem_of_mem h;exact⟨i,hi,by rw[ZQ,ZZ hi];exact e⟩
theorem Cb.rising (h:Cb l id x l')(a:Bn l):Bn l':=by
 rcases h with⟨i,hi,_,_,_,rfl⟩ | ⟨_,_,rfl⟩
 ·exact a.cut hi
 ·exact a
theorem Cb.apart (h:Cb l id x l')(a:Bj l):Bj l':=by
 rcases h with⟨i,hi,_,_,_,rfl⟩ | ⟨_,_,rfl⟩
 ·exact a.cut hi
 ·exact a
theorem Uo.after {a:List Tm}{now sq tm y c:Int}(d:Cb l id y a)(i:Bj l)(hl:l.length<200)(h:Uo a now sq id tm x l' c):l'=a++[⟨id,Za2 now tm,sq+1⟩]:=by
 have hn:¬CC a id a.length:=by
  rintro⟨j,k,e⟩;have hm:a.getD j .z∈a:=by rw[ZQ,ZZ k];exact List.getElem_mem _
  exact ((d.gone i _).1 hm).2 e
 rcases h with⟨f,_⟩ | ⟨_,m,_⟩ | ⟨_,_,_,g,_⟩
 ·exact absurd f hn
 ·have:=d.len;omega
 ·exact g
theorem Yc (w:World)(r nd q:Int):(w.alloc (.cells #[.int .u64 r, .int .i64 nd, .int .i64 q] 288)).heap[w.heap.size]? =some (.cells #[.int .u64 r, .int .i64 nd, .int .i64 q] 288 (0,0)):=heap_alloc_new w _
theorem ET (w:World)(P B now:Nat)(l:List Tm)(id r nd q c sq:Int)(h:Bf w P B Ck now l)(v:BM r nd q id)(h0:0<=c)(h1:c<=4611686018427387904)(hl:l.length<200) :
  Calls prog 198 #[.pointer (some ⟨P,4,none⟩), .agg #[.int .u64 r, .int .i64 nd, .int .i64 q], .int .i64 c] w fun e w'=>e= .returned (.tuple #[])/\∃x I,Cb l id x I/\Bf w' P B Ck now (I++[⟨id,Za2 now (now+c),sq+1⟩])/\PF w w' P B Ck:=by
 obtain⟨A,m⟩:∃A,A=w.alloc (.cells #[.int .u64 r, .int .i64 nd, .int .i64 q] 288):=⟨_,rfl⟩;obtain⟨d,s⟩:∃d,d=w.heap.size:=⟨_,rfl⟩;have L:=Zz (show Dr A d r nd q by rw[m,s];exact GB w r nd q);have u:Below w.heap.size w A:=by rw[m];exact (Zk _ _).alloc (Zx _) _
 have i:A.heap[d]? =some (.cells #[.int .u64 r, .int .i64 nd, .int .i64 q] 288 (0,0)):=by rw[m,s];exact Yc w r nd q
 obtain⟨K,R⟩:∃K:Nat->Prop,K=(fun z=>z=d):=⟨_,rfl⟩;have E:Bf A.drew P B K now l:=h.boxes (u.drew) (fun z W=>by rw[R] at W;subst W;exact⟨by omega,_,_,i⟩);have V:=Zz (Zq h.apart (Zq hl (Zq h.MV h.pb)));have M:=Zz (PF.Ae (P:=P) (B:=B) (K:=Ck) u.drew);have C:=Zz (Zq s m);have N:=Zz v;have p:=Zz (Zq R i);have g:d≠P:=by have:=h.pb;omega
 obtain⟨⟨z0,z1⟩,z2⟩:=L.o;have e1:IntKind.u64.wrap c=c:=by rw[IntKind.wrap_u64];omega
 have e2:IntKind.u64.wrap ((now:Int)+c)=(now:Int)+c:=by have:=h.MV;rw[IntKind.wrap_u64];omega
 have S:(0:Int)<=(now:Int)+c:=by omega
 have T:(now:Int)+c<18446744073709551616:=by have:=h.MV;omega
 have Z:=Zz (Jg A.drew P B K now l id r nd q E v);clear h v s m u hl i R E
 go_enter func198,ntmps198
 go_upto_region 1 with fail
 rw[<-C.o.1,<-C.o.2]
 go_region_held3 (fun w'=>(w'.cell? ⟨d,0,none⟩=some (.int .u64 r)/\w'.cell? ⟨d,1,none⟩=some (.int .i64 nd))/\w'.cell? ⟨d,2,none⟩=some (.int .i64 q)) (go_keep) ((go_at_call 225;refine Z.o.mono ?_;rintro e U ⟨x,I,rfl,F,H,j⟩;have J:=Zz (Zq F (Zq H j));have y0:=(World.cell?_of_block (a:=⟨d,0,none⟩) (j.block d (Zaa p.o.2) g (Zu (Zj (by rw[p.o.1]))))).trans z0;have y1:=(World.cell?_of_block (a:=⟨d,1,none⟩) (j.block d (Zaa p.o.2) g (Zu (Zj (by rw[p.o.1]))))).trans z1;have y2:=(World.cell?_of_block (a:=⟨d,2,none⟩) (j.block d (Zaa p.o.2) g (Zu (Zj (by rw[p.o.1]))))).trans z2;clear F H j))
 go_upto_region 2 with fail
 have n0:=J.o.2.1.now0;have HS:=Zz (XA U.drew P B K now I id r nd q ((now:Int)+c) sq (J.o.2.1.Aj ((Zk _ _).drew)) N.o S T);have Q:=Zz (YX U.drew P now n0)
 go_region_held3 (fun w'=>((w'.cell? ⟨d,0,none⟩=some (.int .u64 r)/\w'.cell? ⟨d,1,none⟩=some (.int .i64 nd))/\w'.cell? ⟨d,2,none⟩=some (.int .i64 q))/\w'.cell? ⟨P,11,none⟩=some (.int .u64 now)) (go_keep) ((first | (go_at_call 208;refine Q.o.mono ?_;rintro e w3 ⟨rfl,rfl⟩) | (go_at_call 193;refine HS.o.mono ?_;rintro e w3 ⟨x3,l3,ae,rfl,G,y,k⟩;have O:=Zz (Zq G (Zq y k));have f:d<U.drew.heap.size:=Zy (Zaa p.o.2) J.o.2.2.size;have v0:=(World.cell?_of_block (a:=⟨d,0,none⟩) (k.block d f g (Zu (Zj (by rw[p.o.1]))))).trans y0;have v1:=(World.cell?_of_block (a:=⟨d,1,none⟩) (k.block d f g (Zu (Zj (by rw[p.o.1]))))).trans y1;have v2:=(World.cell?_of_block (a:=⟨d,2,none⟩) (k.block d f g (Zu (Zj (by rw[p.o.1]))))).trans y2;have v3:=y.now0;clear G y k f)))
 all_goals
  go_wp2_with fail
  go_end0
  obtain⟨q1,X,q3⟩:=O.o;obtain⟨Y,u2,u3⟩:=J.o;have e:=q1.after Y V.o.1 V.o.2.1;rw[e] at X;exact⟨rfl,x,I,Y,X.Ud,(M.o.trans u3.Ud).trans ((PF.Ae ((Zk _ _).drew)).trans q3.Ud)⟩
end Go.Proofs.YtgdcjccbdmcebaaGreatDoor
