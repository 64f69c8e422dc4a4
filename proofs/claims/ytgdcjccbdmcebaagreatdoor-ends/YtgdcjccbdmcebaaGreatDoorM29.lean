import Derived.Test.YtgdcjccbdmcebaaGreatDoorM28
set_option linter.unusedSimpArgs false
set_option linter.unusedVariables false
set_option maxHeartbeats 8000000
set_option maxRecDepth 100000
namespace Go.Proofs.YtgdcjccbdmcebaaGreatDoor
open Tryz
open Go.RowKit
attribute [local go_sem ↓] Go.wp_at_zero Go.wp_at_succ
variable {id:Int}{w w':World}{l l1:List Tm}{bx ng nc b n i:Nat}{e:Ab}{qa:Option Addr}
def XV (e:Ab)(i:Nat)(l:List Tm):Prop:=Bn l/\(∀t,t∈l->BF e t)/\∀t,BF e t->¬IA (e.at_ i).id t->t∈l
theorem Be.toE (h:Be e l)(i:Nat):XV e i l:=by
 rw[Zbc] at h;exact⟨h.1,fun t a=>(h.2 t).1 a,fun t a _=>(h.2 t).2 a⟩
def Mq (l:List Tm)(id:Int)(j:Nat)(lj:List Tm):Prop:=Bn lj/\∀t,t∈lj↔t∈l/\t.id≠Bb id (-1) 0/\∀k,k<j->¬Dw id k t
theorem Mq.first (f:Bn l)(d:Bj l)(h:FK l (Jk id (-1) [0]) l1):Mq l id 0 l1:=by
 obtain⟨_,_,a,c⟩:=h.all d;refine⟨a f,fun t=> ?_⟩;rw[c];simp only[Jk,List.map_cons,List.map_nil,List.mem_singleton];exact⟨fun h=>⟨h.1,h.2,fun k g=>by omega⟩,fun h=>⟨h.1,h.2.1⟩⟩
theorem Mq.next {f o:List Tm}{j:Nat}(h:Mq l id j f)(s:Bj f)(y:FK f (Jk id j [1,2,3]) o):Mq l id (j+1) o:=by
 obtain⟨_,_,p,r⟩:=y.all s;refine⟨p h.1,fun t=> ?_⟩;rw[r,h.2]
 have v:(t.id ∉ Jk id j [1,2,3])↔¬Dw id j t:=by
  unfold Jk Dw;simp only[List.map_cons,List.map_nil,List.mem_cons,List.not_mem_nil,or_false,not_or];constructor
  ·rintro⟨a,b,c⟩ ⟨q,q1,z,m⟩
   have:q=1\/q=2\/q=3:=by omega
   rcases this with rfl | rfl | rfl
   ·exact a m
   ·exact b m
   ·exact c m
  ·intro g
   exact⟨fun x=>g ⟨1,by decide,by decide,x⟩,fun x=>g ⟨2,by decide,by decide,x⟩,fun x=>g ⟨3,by decide,by decide,x⟩⟩
 rw[v];constructor
 ·rintro⟨⟨a,b,c⟩,d⟩
  refine⟨a,b,fun k u=> ?_⟩;by_cases e:k=j
  ·subst e;exact d
  ·exact c k (by omega)
 ·rintro⟨a,b,c⟩
  exact⟨⟨a,b,fun k u=>c k (by omega)⟩,c j (by omega)⟩
theorem Mq.done {r:List Tm}(wk:Ao e)(hi:i<e.runs.length){st:Int}(o:st≠1)(f:XV e i l)(h:Mq l (e.at_ i).id (e.at_ i).steps.length r):Be (e.end_ i st) r:=by
 rw[Zbc];refine⟨h.1,fun t=> ?_⟩;rw[h.2,UX wk hi o];constructor
 ·rintro⟨a,b,c⟩
  refine⟨f.2.1 t a,fun m=> ?_⟩;obtain⟨j,p,s,d⟩:=f.2.1 t a;have g:=m.uniq (KX.of ⟨s,d⟩ (wk.IQ p));obtain rfl:=wk.CA hi p g;rcases d with d | ⟨k,q,u⟩
  ·exact b (by rw[d])
  ·exact c k q u.own
 ·rintro⟨a,b⟩
  refine⟨f.2.2 t a b,fun x=>b ⟨-1,0,by omega,by omega,x⟩,fun k q m=>b (m.of (by have:=wk.IQ hi;omega))⟩
theorem Fo (w:World)(a:List Int):Df (w.alloc (.cells (a.map (fun q=>Value.int .i64 q)).toArray 280)) w.heap.size a:=by
 refine⟨_,heap_alloc_new w _,fun i hi=> ?_⟩;rw[List.getElem?_toArray,List.getElem?_map,ZZ hi,ZQ,ZZ hi];rfl
def XO (w:World)(bx b:Nat):Prop:=w.heap[bx]? =some (.cells #[.pointer (some ⟨b,0,none⟩)] 266 (0,0))
theorem XO.cell (h:XO w bx b):w.cell? ⟨bx,0,none⟩=some (.pointer (some ⟨b,0,none⟩)):=by unfold World.cell?;rw[h];rfl
theorem FN {r nd q:Int}(a:0<=r)(c:r<18446744073709551616)(d: -1<=nd)(f:nd<15)(g:0<=q)(h:q<4):BM r nd q (Bb r nd q):=⟨rfl,a,c,d,f,g,h⟩
structure Ev (w:World)(bx b ng n nc:Nat)(id:Int):Prop where
 x:XO w bx b
 top:∃v,w.heap[b]? =some (.cells #[.int .u64 id,v, .slice (some ⟨ng,0,none⟩) n nc] 272 (0,0))
theorem Ev.cells (h:Ev w bx b ng n nc id):w.cell? ⟨bx,0,none⟩=some (.pointer (some ⟨b,0,none⟩))/\w.cell? ⟨b,0,none⟩=some (.int .u64 id)/\w.cell? ⟨b,2,none⟩=some (.slice (some ⟨ng,0,none⟩) n nc):=by
 obtain⟨v,a⟩:=h.top;refine⟨h.x.cell,?_,?_⟩<;>(unfold World.cell?;rw[a];rfl)
theorem Ev.at_ (h:Ev w bx b ng n nc id)(a:w'.heap[bx]? =w.heap[bx]?)(c:w'.heap[b]? =w.heap[b]?):Ev w' bx b ng n nc id:=by
 obtain⟨v,d⟩:=h.top;exact⟨a.trans h.x,v,c.trans d⟩
theorem Ev.below (h:Ev w bx b ng n nc id)(a:Below w.heap.size w w'):Ev w' bx b ng n nc id:=h.at_ (a.block bx (Zaa h.x)) (a.block b (Zaa h.top.choose_spec))
theorem Ev.pf {P B:Nat}(h:Ev w bx b ng n nc id)(hf:PF w w' P B Ck)(a:bx≠P)(c:b≠P):Ev w' bx b ng n nc id:=h.at_ (hf.other h.x (by decide) a) (hf.other h.top.choose_spec (by decide) c)
theorem Ev.rf {P B:Nat}(h:Ev w bx b ng n nc id){qn d o:Nat}{f xs:List AZ}(j:FV w P B qa qn d o f xs)(hf:RF w w' P (Value.slice qa qn d).ownBlock 8 11)(g:bx≠P)(a:b≠P):Ev w' bx b ng n nc id:=by
 have no:∀{k:Nat} {cs:Array Value} {t:TypeId} {fr:Nat×Nat},w.heap[k]? =some (.cells cs t fr)->t≠274->some k≠(Value.slice qa qn d).ownBlock:=by
  intro k cs t fr e m c;rcases j.row.2 with⟨a,_⟩ | ⟨p,cap,cur,a,_,hh,_⟩
  ·rw[a] at c;simp[Value.ownBlock] at c
  ·rw[a] at c
   simp only[Value.ownBlock,Option.some.injEq] at c;subst c;exact Zai e hh m rfl
 exact h.at_ (hf.block bx (Zaa h.x) g (no h.x (by decide))) (hf.block b (Zaa h.top.choose_spec) a (no h.top.choose_spec (by decide)))
theorem Ev.gone (h:Ev w bx b ng n nc id):EB w bx b id:=⟨h.cells.1,h.cells.2.1,Zaa h.x,Zaa h.top.choose_spec⟩
theorem JZ (w:World)(P B:Nat)(ob:Option Nat)(e:Ab)(rs:List Aq)(l:List Tm)(i:Nat)(st:Int)(h:Cj w P B ob e rs l)(wk:Ao e)(hi:i<e.runs.length)(h1:(e.at_ i).st=1)(bw:2<=st/\st<=5)(hT:XV e i l)(fe:e.Ah<18446744073709551616) :
  Calls prog 158 #[.pointer (some ⟨P,4,none⟩), .pointer (some ⟨(Am rs i).b,0,none⟩), .int .i64 st] w fun x w'=>x= .returned (.tuple #[])/\∃dh l' de,Cj w' P B de (e.end_ i st) dh l'/\BS rs dh/\Be (e.end_ i st) l'/\KF w w' P B ob/\As w ob de:=by
 obtain⟨el,now,hM,ax,y⟩:=h.ex;obtain⟨ka,kc,da⟩:=hM.kn;have G:i<rs.length:=by rw[h.len];exact hi
 have v:=da.runs i G;have s:=h.runs i hi;obtain⟨r,hr⟩:∃r,r=Am rs i:=⟨_,rfl⟩;obtain⟨d,J⟩:∃d,d=e.at_ i:=⟨_,rfl⟩;rw[<-hr] at v s ⊢;rw[<-J] at s h1;have U:=hM.pb;obtain⟨w0,ay⟩:∃w0,w0=w.alloc (.cells #[.pointer (some ⟨r.b,0,none⟩)] 266):=⟨_,rfl⟩;obtain⟨bx,bo⟩:∃bx,bx=w.heap.size:=⟨_,rfl⟩;have F:Below w.heap.size w w0:=by rw[ay];exact (Zk _ _).alloc (Zx _) _
 have C:XO w0 bx r.b:=by rw[ay,bo];exact heap_alloc_new w _
 have b0:=C.cell;have cm:=Zz (Zq bo (Zq ay (Zq F C)));have HE:=Zz (Vv w0 B r st (v.below F));have H:=Zz (Zq h (Zq wk (Zq hi (Zq h1 (Zq bw (Zq hT (Zq hM (Zq ax (Zq y (Zq v (Zq s (Zq hr (Zq J G)))))))))))));have al:bx≠P:=by omega
 obtain⟨b,hb⟩:∃b,b=r.b:=⟨_,rfl⟩;have E:b≠P:=by have:=v.bb;omega
 obtain⟨id,av⟩:∃id,id=d.id:=⟨_,rfl⟩;obtain⟨n,hn⟩:∃n,n=d.steps.length:=⟨_,rfl⟩;have ez:n<=12:=by rw[hn,J];exact wk.IQ hi
 have az:0<=id/\id<18446744073709551616:=by have:=wk.Ui i hi;have:=wk.RD i hi;rw[av,J];omega
 have cr:=hM.below F;have D:=v.below F
 have ct:∀w1,AW w1 B (r.ended st)->Du w0 w1 r.b r.ng->Er w1 P B ob (rs.set i (r.ended st)) el e.queue now l e.Ah e.Ai e.At/\Ev w1 bx b r.ng n r.nc id/\KF w w1 P B ob:=by
  intro w1 ha hf;refine⟨cr.run G ha (by rw[<-hr];rfl) (by rw[<-hr];rfl) (by rw[<-hr];exact hf),⟨?_,?_⟩,(KF.Ae P B ob F).trans (KF.IT D hf U.1) (As.refl _ _)⟩
  ·obtain⟨cg,dy,_⟩:=D.Bi
   rw[hb];exact (hf.block bx (Zaa C) (Zai C D.top (by decide)) (Zai C dy (by decide))).trans C
  ·refine⟨.int .i64 st,?_⟩
   have ht:=ha.top;have e1:(r.ended st).ns.length=n:=by unfold Aq.ended;rw[List.length_map,s.len,hn]
   have e2:r.id=id:=by rw[av];exact s.id
   unfold rnC at ht;rw[e1] at ht;rw[hb,<-e2];exact ht
 have ck:=Zz ct;rw[<-hb] at b0 HE ck ⊢;have p:=Zz (Zq hb (Zq av (Zq hn (Zq U az))));clear h wk hi h1 bw hT hM ax y da v s hr J G U ay bo F C hb av hn cr D ct az
 go_enter func158,ntmps158
 go_upto_region 1 with fail
 rw[<-cm.o.1];have X:=cm.o.2.1;rw[<-p.o.1] at X;rw[<-X];clear X;have fg:∀(fn:Fn) (first cap:Array Value) (w:World),(Instr.makeFunc fn first cap).run prog w= .ok (.func fn first cap) w:=fun _ _ _ _=>rfl
 go_wp2_with (first
  | (go_at_call 228;refine HE.o.mono ?_;rintro _ w1 ⟨rfl,br,bp⟩;have HA:=Zz (Zq br (Zq bp (ck.o w1 br bp)));have b0:=HA.o.2.2.2.1.cells.1;have b1:=HA.o.2.2.2.1.cells.2.1;have b2:=HA.o.2.2.2.1.cells.2.2;clear br bp)
  | (go_at_call 229;obtain⟨qa,qn,qc,qf,eu,K⟩:=HA.o.2.2.1.qu;have HQ:=Zz K;refine (PO w1 P B qn qc qf bx b qa eu e.queue id K HA.o.2.2.2.1.gone).mono ?_;rintro _ w2 ⟨rfl,ey,V,au⟩;have aj:=HA.o.2.2.1.queue K au ⟨_,_,_,_,_,V⟩;have M:=HA.o.2.2.2.1.rf K au al E;have cq:=HA.o.2.2.2.2.trans (KF.QD K au ob) (As.refl _ _);have HD:=Zz (Zq aj (Zq M cq));have c0:=M.cells.1;have c1:=M.cells.2.1;have c2:=M.cells.2.2;have HS:=Zz (Hl (w2.alloc (.cells #[.int .i64 0] 280)) P B now w2.heap.size l id (-1) [0] (aj.wh.Aj ((Zk _ _).alloc (Zx _) _)) (fun q K=>by simp only[List.mem_singleton] at K;subst K;exact FN p.o.2.2.2.2.1 p.o.2.2.2.2.2 (by decide) (by decide) (by decide) (by decide)) (Fo w2 [0]) (by have:=aj.pb;omega) (by decide));clear K V au aj M cq)
  | (go_at_call 152;refine HS.o.mono ?_;rintro _ Z ⟨rfl,l3,W,Y,c⟩;have O:=(HD.o.1.below ((Zk _ _).alloc (Zx _) (.cells #[.int .i64 0] 280))).Dm c Y;have g:=(HD.o.2.1.below ((Zk _ _).alloc (Zx _) (.cells #[.int .i64 0] 280))).pf c al E;have N:=(HD.o.2.2.trans (KF.Ae P B ob ((Zk _ _).alloc (Zx _) (.cells #[.int .i64 0] 280))) (As.refl _ _)).trans (KF.DN c ob) (As.refl _ _);have ae:=Zz (Zq W (Zq O (Zq g N)));have d0:=g.cells.1;have d1:=g.cells.2.1;have d2:=g.cells.2.2;clear W Y c O g N))
 have cy:Bj l:=H.o.2.2.2.2.2.2.1.wh.apart;have dc:=Mq.first H.o.2.2.2.2.2.1.1 cy ae.o.1;have du:=Zz dc;clear dc cy c0 c1 c2 d0 d1 d2 b1 b2
 go_loopw [28] (fun iv wr=>∃(j:Nat) (lj:List Tm),iv= .int .i64 j/\j<=n/\Er wr P B ob (rs.set i (r.ended st)) el (Zdy e.queue id) now lj e.Ah e.Ai e.At/\Ev wr bx b r.ng n r.nc id/\Mq l id j lj/\KF w wr P B ob) (fun iv _=>n - (intOf iv).toNat)
 case atStart=>exact⟨0,_,rfl,by omega,ae.o.2.1,ae.o.2.2.1,du.o,ae.o.2.2.2⟩
 case round =>
  obtain⟨j,lj,rfl,hj,Q,ag,bh,bf⟩:=hrel;have L:=Zz (Zq Q (Zq ag (Zq bh bf)));obtain⟨x0,x1,x2⟩:=ag.cells;by_cases h1:j<n
  ·have j1:(j:Int)<(n:Int):=by omega
   have dr:=Zz (Hl (wr.alloc (.cells #[.int .i64 1, .int .i64 2, .int .i64 3] 280)) P B now wr.heap.size lj id j [1,2,3] (Q.wh.Aj ((Zk _ _).alloc (Zx _) _)) (fun q K=>by
    have V:0<=q/\q<4:=by simp only[List.mem_cons,List.not_mem_nil,or_false] at K;rcases K with rfl | rfl | rfl<;>decide
    exact FN p.o.2.2.2.2.1 p.o.2.2.2.2.2 (by omega) (by omega) V.1 V.2) (Fo wr [1,2,3]) (by have:=Q.pb;omega) (by decide))
   clear Q ag bh bf;go_wp2_with (go_at_call 152;refine dr.o.mono ?_;rintro _ Z ⟨rfl,l3,W,Y,c⟩;have O:=(L.o.1.below ((Zk _ _).alloc (Zx _) (.cells #[.int .i64 1, .int .i64 2, .int .i64 3] 280))).Dm c Y;have g:=(L.o.2.1.below ((Zk _ _).alloc (Zx _) (.cells #[.int .i64 1, .int .i64 2, .int .i64 3] 280))).pf c al E;have N:=(L.o.2.2.2.trans (KF.Ae P B ob ((Zk _ _).alloc (Zx _) (.cells #[.int .i64 1, .int .i64 2, .int .i64 3] 280))) (As.refl _ _)).trans (KF.DN c ob) (As.refl _ _);have HN:=Zz (Zq W (Zq O (Zq g N)));clear W Y c O g N)
   go_roundw
   case rel =>
    obtain⟨q1,q2,q3,q4⟩:=HN.o;exact⟨j+1,l3,by go_num,by omega,q2,q3,L.o.2.2.1.next L.o.1.wh.apart q1,q4⟩
   case measure=>simp[intOf];omega
  ·have e1:j=n:=by omega
   have HJ:=Zz e1;have j1:¬(j:Int)<(n:Int):=by omega
   clear h1 e1 Q ag bh bf
   go_upto_region 9 with fail
   obtain⟨ea,en,ec,ef,dw,he,R⟩:=L.o.1.en;have dj:=Zz (Zq he R);obtain⟨wp,I⟩:∃wp,wp=(wr.drew).alloc (.cells #[.int .u64 id] 27):=⟨_,rfl⟩;have ar:Below wr.heap.size wr wp:=by rw[I];exact ((Zk _ _).drew).alloc (Zx _) _
   have T:FU wp wr.heap.size id:=by
    refine⟨by rw[I];simp,fun m u hm=> ?_⟩;unfold AF at hm
    match m,hm with
    | 0,hm =>
     simp at hm;subst hm;unfold World.cell?;rw[I];have:=heap_alloc_new wr.drew (.cells #[.int .u64 id] 27);rw[show wr.drew.heap.size=wr.heap.size from rfl] at this;rw[this];rfl
   have U:=L.o.1.pb
   have y:el.length<=400:=by
    obtain⟨is,q1,q2,q3⟩:=H.o.2.2.2.2.2.2.2.2.1;have ee:is.Nodup:=q3.imp (fun {a b} fc e=>by subst e;omega);have:=Ft is (List.range e.runs.length) ee (fun k hk=>List.mem_range.2 ((q2 k).1 hk).1);rw[List.length_range] at this;have:=H.o.2.1.WW;rw[q1,List.length_map];omega
   have A:=QO wp P B en ec ef wr.heap.size ea dw el id (he.below ar) T (by omega) (fun e=>by have:=(he.row.lt _ e.symm).2;omega) y
   have S:∀Z,RF wp Z P (Value.slice ea en ec).ownBlock 5 8->(Z.cell? ⟨bx,0,none⟩=some (.pointer (some ⟨b,0,none⟩))/\Z.cell? ⟨b,0,none⟩=some (.int .u64 id)):=by
    intro Z c
    have no:∀{k:Nat} {cs:Array Value} {t:TypeId} {fr:Nat×Nat},wr.heap[k]? =some (.cells cs t fr)->t≠27->some k≠(Value.slice ea en ec).ownBlock:=by
     intro k cs t fr e ht hk;rcases he.row.2 with⟨h2,_⟩ | ⟨g',cap,cur,h2,_,hh,_⟩
     ·rw[h2] at hk;simp[Value.ownBlock] at hk
     ·rw[h2] at hk
      simp only[Value.ownBlock,Option.some.injEq] at hk;subst hk;exact Zai e hh ht rfl
    have hx:=L.o.2.1.x;have ht:=L.o.2.1.top.choose_spec;have hC:=L.o.2.1.below ar;have g:=hC.at_ (c.block bx (Zaa hC.x) al (no hx (by decide))) (c.block b (Zaa hC.top.choose_spec) E (no ht (by decide)));exact⟨g.cells.1,g.cells.2.1⟩
   rw[I] at A S;have HP:=Zz (Zq A S);have HQ:=Zz (Zq ar I);have eg:=World.new_ne wr ⟨bx,0,none⟩ x0;have ei:=World.new_ne wr ⟨b,0,none⟩ x1;clear he R ar T A S U y I
   go_region_held3 (fun w'=>w'.cell? ⟨bx,0,none⟩=some (.pointer (some ⟨b,0,none⟩))/\w'.cell? ⟨b,0,none⟩=some (.int .u64 id)) (go_keep) ((go_at_call 190;refine HP.o.1.mono ?_;rintro e Z ⟨rfl,aw⟩;have dp:=Zz aw;have v0:=(HP.o.2 Z aw.choose_spec.choose_spec.choose_spec.choose_spec.choose_spec.2.1).1;have v1:=(HP.o.2 Z aw.choose_spec.choose_spec.choose_spec.choose_spec.choose_spec.2.1).2;clear aw))
   all_goals
    go_wp2_with fail
    go_end0
    obtain⟨a',n',c',f',ey,p1,p2,p3⟩:=dp.o;obtain⟨k1,k2⟩:=HQ.o;rw[<-k2] at p2 p3;obtain⟨he,R⟩:=dj.o;obtain⟨hX,wk,hi,h1,bw,hT,hM,ax,y,v,s,hr,J,G⟩:=H.o;obtain⟨m1,m2,m3,m4⟩:=L.o;have eo:RF wr Z P (Value.slice ea en ec).ownBlock 5 8:=(RF.Ae P _ 5 8 k1).trans p2 (fun z hz=>Zu hz);have cu:=m1.ended he eo ⟨_,_,_,_,_,p1,rfl⟩;have b9:=DT (e:=e) (e':=e.end_ i st) (f:=Zd2 st e.ends) hX.len hX.runs hi rfl (by rw[<-J];exact s.ended st e.ends (by omega));have bj:=fun x hx=>Zei e i st (j:=x) hx;have db:=wk.runs i hi;refine⟨rfl,rs.set i (r.ended st),lj,(Value.slice a' n' c').ownBlock,⟨⟨el++[id],now,?_,ax,?_⟩,b9.1,b9.2⟩,?_,?_,?_,?_⟩
    ·rw[p.o.2.1,J] at cu ⊢
     exact cu
    ·rw[p.o.2.1,J]
     refine y.snoc (e':=e.end_ i st) (Zd8 e i st) hi ((db.goes).1 (by rw[<-J];exact h1)) (fun x hx ep=> ?_) ?_ ?_ wk.XH (fun x hx=>(wk.runs x hx).enB)
     ·rw[bj x hx,if_neg (fun e=>ep e.symm)];exact⟨rfl,rfl⟩
     ·rw[bj i hi,if_pos rfl];rfl
     ·rw[bj i hi,if_pos rfl];rfl
    ·refine⟨by rw[List.length_set],fun x hx=> ?_⟩
     rw[Zdg G hx]
     split
     ·rename_i e;subst e;rw[hr];rfl
     ·rfl
    ·have dd:=m3
     rw[p.o.2.1,J,HJ.o,p.o.2.2.1,J] at dd;exact dd.done wk hi (by omega) hT
    ·refine (m4.trans (KF.Ae P B ob k1) (As.refl _ _)).trans ?_ (As.refl _ _)
     have:=KF.Wp (he.below k1) p2;rw[R] at this;exact this
    ·intro z hz
     rcases p3 z hz with h | h
     ·left;rw[<-R];exact h
     ·right
      have:=m4.size;have:=k1.size;omega
theorem IL (w:World)(P B:Nat)(ob:Option Nat)(e:Ab)(rs:List Aq)(l:List Tm)(i:Nat)(h:Cj w P B ob e rs l)(wk:Ao e)(hi:i<e.runs.length)(L:(e.at_ i).st=1)(u:Be e l)(E:e.Ah<18446744073709551616) :
  Calls prog 155 #[.pointer (some ⟨P,4,none⟩), .pointer (some ⟨(Am rs i).b,0,none⟩)] w fun x w'=>x= .returned (.tuple #[])/\∃g v f,Cj w' P B f (e.settle i) g v/\BS rs g/\Be (e.settle i) v/\KF w w' P B ob/\As w ob f:=by
 obtain⟨el,now,C,t,s⟩:=h.ex;obtain⟨S,T,p⟩:=C.kn;have D:i<rs.length:=by rw[h.len];exact hi
 have m:=p.runs i D;have k:=h.runs i hi;have r:=Zz (OU w B (Am rs i) m);have d:=k.outcome;rw[d] at r
 cases c:(e.at_ i).outcome with
 | none =>
  rw[c] at r;have A:=Zz (show e.settle i=e by unfold Ab.settle;rw[c]);have H:=Zz (Zq h u);clear h u C p m k d c s t;have j:Hid (Calls prog 226 #[.pointer (some ⟨(Am rs i).b,0,none⟩)] w fun e w'=>e= .returned (.int .i64 1)/\Below w.heap.size w w'):=r
  go_enter func155,ntmps155
  go_wp2_with (go_at_call 226;refine j.o.mono ?_;rintro _ y ⟨rfl,a⟩;have q:=Zz a;clear a)
  go_end0
  rw[A.o];exact⟨rfl,rs,l,ob,H.o.1.below q.o,BS.refl _,H.o.2,KF.Ae P B ob q.o,As.refl _ _⟩
 | some st =>
  rw[c] at r;have F:=Zdv c;have A:=Zz (show e.settle i=e.end_ i st by unfold Ab.settle;rw[c]);have HF:=Zz (fun y a=>JZ y P B ob e rs l i st (h.below a) wk hi L (by omega) (u.toE i) E);clear h u C p m k d c s t;have j:Hid (Calls prog 226 #[.pointer (some ⟨(Am rs i).b,0,none⟩)] w fun e w'=>e= .returned (.int .i64 st)/\Below w.heap.size w w'):=r;have g1:(st != 1)=true:=by rcases F with rfl | rfl<;>decide
  have K:decide (st=1)=false:=decide_eq_false (by omega);have G:¬st=1:=by omega
  go_enter func155,ntmps155
  go_wp2_with (first
   | (go_at_call 226;refine j.o.mono ?_;rintro _ y ⟨rfl,a⟩;have q:=Zz a;clear a)
   | (go_at_call 158;refine (HF.o y q.o).mono ?_;rintro _ U ⟨rfl,I⟩;have J:=Zz I;clear I))
  go_end0
  obtain⟨g,v,f,q1,N,O,Q,R⟩:=J.o;rw[A.o];refine⟨rfl,g,v,f,q1,N,O,(KF.Ae P B ob q.o).trans Q (As.refl _ _),fun z M=> ?_⟩;rcases R z M with h | h
  ·exact Zu h
  ·right;have:=q.o.size;omega
def Uq (e:Ab)(i k:Nat)(l:List Tm):Prop:=Bn l/\(∀t,t∈l->BF e t)/\∀t,BF e t->¬Dw (e.at_ i).id k t->t∈l
theorem Be.toN (h:Be e l)(i k:Nat):Uq e i k l:=by
 rw[Zbc] at h;exact⟨h.1,fun t a=>(h.2 t).1 a,fun t a _=>(h.2 t).2 a⟩
theorem Uq.RY (wk:Ao e){k:Nat}(hi:i<e.runs.length)(j:k<(e.at_ i).steps.length)(d:((e.at_ i).at_ k).st=3)(f:Bj l)(h:Uq e i k l)(o:FK l (Jk (e.at_ i).id k [1,2]) l1):Bn l1/\Bj l1/\l1.length<=l.length/\∀t,t∈l1↔BF e t/\¬Dw (e.at_ i).id k t:=by
 obtain⟨s1,s2,s3,p⟩:=o.all f;refine⟨s3 h.1,s1,s2,fun t=> ?_⟩;rw[p];simp only[Jk,List.map_cons,List.map_nil,List.mem_cons,List.not_mem_nil,or_false,not_or];constructor
 ·rintro⟨a,b,c⟩
  refine⟨h.2.1 t a,fun m=> ?_⟩;rcases ((h.2.1 t a).node wk hi j m).2 with⟨_,g⟩ | ⟨g,_⟩ | ⟨_,_,g⟩
  ·exact b (by rw[g])
  ·rw[d] at g;cases g
  ·exact c (by rw[g])
 ·rintro⟨a,b⟩
  exact⟨h.2.2 t a b,fun x=>b ⟨1,by decide,by decide,x⟩,fun x=>b ⟨2,by decide,by decide,x⟩⟩
theorem Es.runT {a b:Ag}(h:Es a b)(t:Tm):KX b t↔KX a t:=by
 induction h with
 | refl=>exact Iff.rfl
 | step r r2 k o hl _ j =>
  rw[j];have hw:=EV hl;unfold KX;have d:(r.Af k JC).st=r.st/\(r.Af k JC).id=r.id/\(r.Af k JC).BP=r.BP/\(r.Af k JC).Cs=r.Cs:=⟨rfl,rfl,rfl,rfl⟩;rw[d.1,d.2.1,d.2.2.1,d.2.2.2,Zal]
  have f:∀m,m<r.steps.length->(Iz r.id m ((r.Af k JC).at_ m) t↔Iz r.id m (r.at_ m) t):=by
   intro m hm;rw[Zee _ _ _ _ hm];by_cases c:k=m
   ·subst c
    rw[if_pos rfl];constructor
    ·rintro (⟨g,_⟩ | ⟨g,_⟩ | ⟨g,_⟩)<;>cases g
    ·rintro (⟨g,_⟩ | ⟨g,_⟩ | ⟨g,_⟩)<;>(rw[hw] at g;cases g)
   ·rw[if_neg c]
  constructor
  ·rintro⟨a,b | ⟨m,hm,c⟩⟩
   ·exact⟨a,Zu b⟩
   ·exact⟨a,Zj ⟨m,hm,(f m hm).1 c⟩⟩
  ·rintro⟨a,b | ⟨m,hm,c⟩⟩
   ·exact⟨a,Zu b⟩
   ·exact⟨a,Zj ⟨m,hm,(f m hm).2 c⟩⟩
theorem PT {d2:Ag}(hi:i<e.runs.length)(h:Es (e.at_ i) d2)(t:Tm):BF (e.AG i (fun _=>d2)) t↔BF e t:=by
 constructor
 ·rintro⟨j,a,g⟩
  rw[Zbi] at a;rw[Zbr e i j _ a] at g;by_cases c:i=j
  ·subst c;rw[if_pos rfl] at g;exact⟨i,a,(h.runT t).1 g⟩
  ·rw[if_neg c] at g;exact⟨j,a,g⟩
 ·rintro⟨j,a,g⟩
  refine⟨j,by rw[Zbi];exact a,?_⟩;rw[Zbr e i j _ a];by_cases c:i=j
  ·subst c;rw[if_pos rfl];exact (h.runT t).2 g
  ·rw[if_neg c];exact g
theorem LO (w:World)(P B:Nat)(ob:Option Nat)(e:Ab)(rs:List Aq)(l:List Tm)(i k:Nat)(h:Cj w P B ob e rs l)(wk:Ao e)(hi:i<e.runs.length)(H:k<(e.at_ i).steps.length)(R:((e.at_ i).at_ k).st=3)(hT:Uq e i k l)(L:e.Ah<18446744073709551616)(N:0<=e.At/\e.At<18446744073709551616) :
  Calls prog 156 #[.pointer (some ⟨P,4,none⟩), .pointer (some ⟨(Am rs i).b,0,none⟩), .int .i64 k] w fun x w'=>x= .returned (.tuple #[])/\∃b9 l' az,Cj w' P B az (e.AT i k) b9 l'/\BS rs b9/\Be (e.AT i k) l'/\KF w w' P B ob/\As w ob az:=by
 obtain⟨el,now,hM,G,I⟩:=h.ex;obtain⟨ka,kc,fs⟩:=hM.kn;have C:i<rs.length:=by rw[h.len];exact hi
 have D:=fs.runs i C;have A:=h.runs i hi;have Y:=wk.Bh hi H (by omega);have m:=wk.runs i hi;obtain⟨r,X⟩:∃r,r=Am rs i:=⟨_,rfl⟩;rw[<-X] at D A ⊢;have F:=hM.pb;have iw:k<r.ns.length:=by rw[A.len];exact H
 obtain⟨nd,E⟩:∃nd,nd=r.at_ k:=⟨_,rfl⟩;obtain⟨⟨t0,_,t2⟩,_⟩:=D.CP;obtain⟨_,_,iy,_,O,_⟩:=D.Bi;have gu:=D.Bs;obtain⟨n,hn⟩:∃n,n=r.ns.length:=⟨_,rfl⟩;rw[<-hn] at t2 iy gu iw;have J:r.id=(e.at_ i).id:=A.id;rw[J] at t0;obtain⟨id,bw⟩:∃id,id=(e.at_ i).id:=⟨_,rfl⟩;rw[<-bw] at t0;have k1:(k:Int)<(n:Int):=by omega
 have HH:=Zz (Zq h (Zq wk (Zq hi (Zq H (Zq R (Zq hT (Zq N (Zq L (Zq hM (Zq G (Zq I (Zq C (Zq D (Zq A (Zq Y (Zq X (Zq E (Zq hn (Zq bw (Zq m (Zq F O)))))))))))))))))))));obtain⟨b,hb⟩:∃b,b=r.b:=⟨_,rfl⟩;obtain⟨ng,dw⟩:∃ng,ng=r.ng:=⟨_,rfl⟩;rw[<-hb] at t0 t2 ⊢;rw[<-dw] at t2;have Q:=Zz (Zq hb dw)
 generalize r.nc=nc at *
 clear h wk hi H R hT N L hM G I C D A Y X E hn J bw m F O fs hb dw
 go_enter func156,ntmps156
 go_upto_region 0 with fail
 have j5:=cell_later ((Zk w.heap.size w).alloc (Zx _) (.cells #[.int .u64 0, .int .i64 0] 274)) t0;have j7:=cell_later ((Zk w.heap.size w).alloc (Zx _) (.cells #[.int .u64 0, .int .i64 0] 274)) t2;have j6:=cell_later ((Zk w.heap.size w).alloc (Zx _) (.cells #[.int .u64 id, .int .i64 k] 274)) t0;have j8:=cell_later ((Zk w.heap.size w).alloc (Zx _) (.cells #[.int .u64 id, .int .i64 k] 274)) t2
 go_region
 all_goals
  go_upto_region 1 with fail
  clear t0 t2 j5 j6 j7 j8;obtain⟨w1,da⟩:∃w1,w1=(w.alloc (.cells #[.int .u64 id, .int .i64 k] 274)).drew:=⟨_,rfl⟩;obtain⟨sb,cy⟩:∃sb,sb=w.heap.size:=⟨_,rfl⟩;rw[<-da,<-cy];have cu:Below w.heap.size w w1:=by rw[da];exact ((Zk _ _).alloc (Zx _) _).drew
  have dy:Bv w1 sb id k:=by rw[da,cy];exact heap_alloc_new w _
  obtain⟨z0,z1⟩:=dy.cells;have ct:=Zz (Zq cu (Zq dy cy))
  have gq:=Zz (by
   obtain⟨h,wk,hi,H,R,hT,N,L,hM,G,I,C,D,A,Y,X,E,hn,J,m,F,O⟩:=HH.o
   exact Hl (w1.alloc (.cells #[.int .i64 1, .int .i64 2] 280)) P B now w1.heap.size l id k [1,2] ((hM.wh.Aj cu).Aj ((Zk _ _).alloc (Zx _) _)) (fun q hq=>by
    have ft:0<=q/\q<4:=by simp only[List.mem_cons,List.not_mem_nil,or_false] at hq;rcases hq with rfl | rfl<;>decide
    have:=wk.Ui i hi;have:=wk.RD i hi;exact FN (by omega) (by omega) (by omega) (by omega) ft.1 ft.2) (Fo w1 [1,2]) (by have:=cu.size;omega) (by decide))
  clear cu dy da cy;go_wp2_with (go_at_call 152;refine gq.o.mono ?_;rintro _ w2 ⟨rfl,l1,fw,gh,fi⟩;have ep:=Zz (Zq fw (Zq gh fi));clear fw gh fi)
  have U:=Zz (show Er w2 P B ob rs el e.queue now l1 e.Ah e.Ai e.At/\AW w2 B r/\Bv w2 sb id k/\KF w w2 P B ob/\(Bn l1/\Bj l1/\l1.length<=l.length/\∀t,t∈l1↔BF e t/\¬Dw (e.at_ i).id k t) by
   obtain⟨h,wk,hi,H,R,hT,N,L,hM,G,I,C,D,A,Y,X,E,hn,J,m,F,O⟩:=HH.o;obtain⟨q1,q2,q3⟩:=ep.o;have fh:Below w1.heap.size w1 (w1.alloc (.cells #[.int .i64 1, .int .i64 2] 280)):=(Zk _ _).alloc (Zx _) _;have hb:=ct.o.1.trans' fh;have gx:AW w2 B r:=(D.below hb).Cx (fun k cs t fr H e ht=>q3.other e (by rcases ht with rfl | rfl | rfl<;>decide) (by omega));refine⟨(hM.below hb).Dm q3 q2,gx,?_,(KF.Ae P B ob hb).trans (KF.DN q3 ob) (As.refl _ _),?_⟩
   ·have hs:=ct.o.2.1
    have fv:Bv (w1.alloc (.cells #[.int .i64 1, .int .i64 2] 280)) sb id k:=(fh.block sb (Zaa hs)).trans hs;exact (q3.other fv (by decide) (by have:=ct.o.2.2;omega)).trans fv
   ·rw[J] at q1
    exact hT.RY wk hi H R hM.wh.apart q1)
  obtain⟨y0,y1,y2,y3,y4,y5,y6,y7,y8,y9⟩:=(show NdC w2 ng (k * 10) nd by
   obtain⟨h,wk,hi,H,R,hT,N,L,hM,G,I,C,D,A,Y,X,E,hn,J,m,F,O⟩:=HH.o;have:=U.o.2.1.nd (k:=k) (by omega);rw[<-E,<-Q.o.2] at this;exact this)
  have fm:∀j,w2.frozen? ⟨ng,j,none⟩=false:=fun j=>by rw[Q.o.2];exact U.o.2.1.AE j
  have f7:=fm (k * 10+7)
  have ez:PB (e.at_ i).fl k ((e.at_ i).at_ k) nd/\nd.st=3/\nd.tries=((e.at_ i).at_ k).tries:=by
   obtain⟨h,wk,hi,H,R,hT,N,L,hM,G,I,C,D,A,Y,X,E,hn,J,m,F,O⟩:=HH.o;have q1:=A.live Y k H;have q2:=A.nd k H;rw[<-E] at q1 q2;exact⟨q1,q2.1.trans R,q2.2⟩
  have bo:=Zz ez;clear z0 z1 fm ez;by_cases aj:nd.tries<nd.bu
  ·have cr:=Zz aj
   go_region
   go_upto_region 4 with fail
   obtain⟨S,ay⟩:∃S,S=(w2.setCell ⟨ng,k * 10+7,none⟩ (.int .i64 4)).drew:=⟨_,rfl⟩;rw[<-ay]
   have R:AW S B (r.BE k (fun n=>{ n with st:=4 }))/\Er S P B ob (rs.set i (r.BE k (fun n=>{ n with st:=4 }))) el e.queue now l1 e.Ah e.Ai e.At/\KF w S P B ob/\Bv S sb id k:=by
    obtain⟨h,wk,hi,H,R,hT,N,L,hM,G,I,C,D,A,Y,X,E,hn,J,m,F,O⟩:=HH.o;obtain⟨m1,m2,m3,m4,m5⟩:=U.o;have u:=m2.FQ (k:=k) (j:=7) (f:=fun n=>{ n with st:=4 }) (v:= .int .i64 4) (by omega) (by omega) rfl ⟨rfl,rfl,rfl⟩;have hf:=Du.Ey w2 r.b r.ng (k * 10+7) (.int .i64 4);rw[<-Q.o.2] at u hf;have u:=u.drew;have V:=hf.drew;rw[<-ay] at u V;refine⟨u,m1.run C u (by rw[<-X];rfl) (by rw[<-X];rfl) (by rw[<-X,<-Q.o.2];exact V),(m4.trans (KF.IT m2 (by rw[<-Q.o.2];exact V) F.1) (As.refl _ _)),?_⟩;obtain⟨cg,iq,_⟩:=m2.Bi;exact (V.block sb (Zaa m3) (Zai m3 m2.top (by decide)) (by rw[Q.o.2];exact Zai m3 iq (by decide))).trans m3
   have H3:=Zz R
   obtain⟨x0,x1,x2,x3,x4,x5,x6,x7,x8,x9⟩:=(show NdC S ng (k * 10) { nd with st:=4 } by
    obtain⟨h,wk,hi,H,R,hT,N,L,hM,G,I,C,D,A,Y,X,E,hn,J,m,F,O⟩:=HH.o;have:=H3.o.1.nd (k:=k) (by rw[Aq.AU];omega);rw[Aq.Ca _ _ _ _ (by omega),if_pos rfl,<-E] at this;have e2:(r.BE k (fun n=>{ n with st:=4 })).ng=ng:=Q.o.2.symm;rw[e2] at this;exact this)
   obtain⟨v0,v1⟩:=R.2.2.2.cells;have sd:=R.2.1.sd
   have br:∀w4,Below S.heap.size S w4->Calls prog 145 #[ndV nd.bu nd.cl nd.be nd.ba nd.ca nd.ji (.slice nd.aa nd.af.length nd.ac), .int .i64 nd.tries, .int .u64 e.At] w4 fun x w'=>x= .returned (.int .i64 (Zb4 nd.ba nd.ca nd.ji nd.tries e.At))/\Below w4.heap.size w4 w':=by
    obtain⟨h,wk,hi,H,R,hT,N,L,hM,G,I,C,D,A,Y,X,E,hn,J,m,F,O⟩:=HH.o;obtain⟨n1,n2,n3⟩:=bo.o;have W:=m.fl.node k (by rw[<-m.len];exact H);have gd:=m.steps k H;have:=gd.trB;have:=gd.tr0;have:=W.bu2;intro w4 _;exact WM nd.bu nd.cl nd.be nd.ba nd.ca nd.ji nd.tries e.At _ w4 (by rw[n1.ba];exact W.ba1) (by rw[n1.ba];exact W.ba2) (by rw[n1.ba,n1.ca];exact W.ca1) (by rw[n1.ca];exact W.ca2) (by rw[n1.ji];exact W.ji1) (by rw[n1.ji];exact W.ji2) (by omega) (by omega) N.1 (by omega)
   have dh:=Zz br
   have al:∀w4,Below S.heap.size S w4->Calls prog 198 #[.pointer (some ⟨P,4,none⟩), .agg #[.int .u64 id, .int .i64 k, .int .i64 3], .int .i64 (Zb4 nd.ba nd.ca nd.ji nd.tries e.At)] w4 fun x w'=>x= .returned (.tuple #[])/\∃y l2,Cb l1 (Bb id k 3) y l2/\Bf w' P B Ck now (l2++[⟨Bb id k 3,Za2 now (now+Zb4 nd.ba nd.ca nd.ji nd.tries e.At),e.timers+1⟩])/\PF w4 w' P B Ck:=by
    obtain⟨h,wk,hi,H,R,hT,N,L,hM,G,I,C,D,A,Y,X,E,hn,J,m,F,O⟩:=HH.o;obtain⟨n1,n2,n3⟩:=bo.o;have W:=m.fl.node k (by rw[<-m.len];exact H);have dp:=Hg W nd.tries e.At;rw[<-n1.ba,<-n1.ca,<-n1.ji] at dp;have:=wk.Ui i hi;have:=wk.RD i hi;have j9:=ep.o.2.1.Bs;have hlen:=BF.Bs hT.1 hT.2.1 wk;intro w4 p;exact ET w4 P B now l1 (Bb id k 3) id k 3 _ e.timers (H3.o.2.1.wh.Aj p) (FN (by omega) (by omega) (by omega) (by omega) (by decide) (by decide)) (by omega) (by omega) (by have:=U.o.2.2.2.2.2.2.1;omega)
   have bp:=Zz al
   have db:∀w4 w5,Below S.heap.size S w4->PF w4 w5 P B Ck->((((((((((w5.cell? ⟨sb,0,none⟩=some (.int .u64 id)/\w5.cell? ⟨sb,1,none⟩=some (.int .i64 k))/\w5.cell? ⟨ng,k * 10,none⟩=some (.int .i64 nd.bu))/\w5.cell? ⟨ng,k * 10+1,none⟩=some (.int .i64 nd.cl))/\w5.cell? ⟨ng,k * 10+2,none⟩=some (.int .i64 nd.be))/\w5.cell? ⟨ng,k * 10+3,none⟩=some (.int .i64 nd.ba))/\w5.cell? ⟨ng,k * 10+4,none⟩=some (.int .i64 nd.ca))/\w5.cell? ⟨ng,k * 10+5,none⟩=some (.int .i64 nd.ji))/\w5.cell? ⟨ng,k * 10+6,none⟩=some (.slice nd.aa nd.af.length nd.ac))/\w5.cell? ⟨ng,k * 10+8,none⟩=some (.int .i64 nd.tries))/\w5.cell? ⟨P,730,none⟩=some (.int .u64 e.At)):=by
    obtain⟨h,wk,hi,H,R,hT,N,L,hM,G,I,C,D,A,Y,X,E,hn,J,m,F,O⟩:=HH.o;intro w4 w5 p dr;have K:(r.BE k (fun n=>{ n with st:=4 })).ng=ng:=Q.o.2.symm;have gy:=(H3.o.1.below p).Cx (w':=w5) (fun k cs t fr H e ht=>dr.other e (by rcases ht with rfl | rfl | rfl<;>decide) (by omega))
    have bj:Bv w5 sb id k:=by
     have fy:Bv w4 sb id k:=(p.block sb (Zaa H3.o.2.2.2)).trans H3.o.2.2.2;exact (dr.other fy (by decide) (by have:=ct.o.2.2;omega)).trans fy
    have ae:=gy.nd (k:=k) (by rw[Aq.AU];omega);rw[Aq.Ca _ _ _ _ (by omega),if_pos rfl,<-E,K] at ae;have gw:P<w4.heap.size:=by have:=p.size;have:=H3.o.2.1.pl;omega
    exact⟨⟨⟨⟨⟨⟨⟨⟨⟨⟨bj.cells.1,bj.cells.2⟩,ae.c0⟩,ae.c1⟩,ae.c2⟩,ae.c3⟩,ae.c4⟩,ae.c5⟩,ae.c6⟩,ae.c8⟩,(dr.off gw 730 (Zj (by decide))).trans (H3.o.2.1.below p).sd⟩
   have eo:=Zz db;clear R br al db y0 y1 y2 y3 y4 y5 y6 y7 y8 y9 f7 ay
   go_region_held3 (fun w'=>((((((((((w'.cell? ⟨sb,0,none⟩=some (.int .u64 id)/\w'.cell? ⟨sb,1,none⟩=some (.int .i64 k))/\w'.cell? ⟨ng,k * 10,none⟩=some (.int .i64 nd.bu))/\w'.cell? ⟨ng,k * 10+1,none⟩=some (.int .i64 nd.cl))/\w'.cell? ⟨ng,k * 10+2,none⟩=some (.int .i64 nd.be))/\w'.cell? ⟨ng,k * 10+3,none⟩=some (.int .i64 nd.ba))/\w'.cell? ⟨ng,k * 10+4,none⟩=some (.int .i64 nd.ca))/\w'.cell? ⟨ng,k * 10+5,none⟩=some (.int .i64 nd.ji))/\w'.cell? ⟨ng,k * 10+6,none⟩=some (.slice nd.aa nd.af.length nd.ac))/\w'.cell? ⟨ng,k * 10+8,none⟩=some (.int .i64 nd.tries))/\w'.cell? ⟨P,730,none⟩=some (.int .u64 e.At))) (go_keep) ((first
    | (go_at_call 145;refine (dh.o _ ((Zk _ _).drew)).mono ?_;rintro _ w4 ⟨rfl,p⟩;have p:Below S.heap.size S w4:=Below.trans' ((Zk S.heap.size S).drew) p;have cq:=Zz p;have v0:=cell_later p v0;have v1:=cell_later p v1;have x0:=cell_later p x0;have x1:=cell_later p x1;have x2:=cell_later p x2;have x3:=cell_later p x3;have x4:=cell_later p x4;have x5:=cell_later p x5;have x6:=cell_later p x6;have x8:=cell_later p x8;have sd:=cell_later p sd;clear p)
    | (go_at_call 198;refine (bp.o _ cq.o).mono ?_;rintro _ w5 ⟨rfl,bj⟩;have gm:=Zz bj;obtain⟨⟨⟨⟨⟨⟨⟨⟨⟨⟨p0,p1⟩,p2⟩,p3⟩,p4⟩,p5⟩,p6⟩,p7⟩,p8⟩,p9⟩,ja⟩:=eo.o _ _ cq.o bj.choose_spec.choose_spec.2.2;clear bj)))
   all_goals
    go_wp2_with fail
    (try simp only[Exit.inBlock,Exit.then])
    refine bodyPost_ret (results_none rfl _ _ _) rfl ?_;obtain⟨h,wk,hi,H,R,hT,N,L,hM,G,I,C,D,A,Y,X,E,hn,J,m,F,O⟩:=HH.o;obtain⟨n1,n2,n3⟩:=bo.o;obtain⟨y,l2,c1,c2,c3⟩:=gm.o;obtain⟨m1,m2,m3,m4,m5⟩:=U.o;obtain⟨g1,g2,g3,g4⟩:=m5;have aj:((e.at_ i).at_ k).tries<(e.at_ i).fl.bu k:=by have:=cr.o;rw[n3,n1.bu] at this;exact this
    have V:=Gg (e:=e) (i:=i) (k:=k) aj;have ag:(e.AT i k).runs=(e.Af i k (fun s=>{ s with st:=4,fin:=Zak e.time (Zb4 ((e.at_ i).fl.ba k) ((e.at_ i).fl.ca k) ((e.at_ i).fl.ji k) s.tries e.At),BN:=e.timers+1 })).runs:=by rw[V];rfl
    have ei:=A.step Y H (f:=fun n=>{ n with st:=4 }) (g:=fun s=>{ s with st:=4,fin:=Zak e.time (Zb4 ((e.at_ i).fl.ba k) ((e.at_ i).fl.ca k) ((e.at_ i).fl.ji k) s.tries e.At),BN:=e.timers+1 }) rfl (A.nd k H).2 (by have:=A.live Y k H;exact⟨this.tok,this.bu,this.cl,this.be,this.ba,this.ca,this.ji,this.af⟩);have u:=DT (e:=e) (e':=e.AT i k) h.len h.runs hi ag ei;have hq:(e.AT i k).queue=e.queue/\(e.AT i k).Ah=e.Ah/\(e.AT i k).Ai=e.Ai/\(e.AT i k).At=e.At/\(e.AT i k).time=e.time:=by rw[V];exact⟨rfl,rfl,rfl,rfl,rfl⟩
    refine⟨rfl,rs.set i (r.BE k (fun n=>{ n with st:=4 })),l2++[⟨Bb id k 3,Za2 now (now+Zb4 nd.ba nd.ca nd.ji nd.tries e.At),e.timers+1⟩],ob,⟨⟨el,now,?_,by rw[hq.2.2.2.2];exact G,?_⟩,u.1,u.2⟩,?_,?_,?_,As.refl _ _⟩
    ·rw[hq.1,hq.2.1,hq.2.2.1,hq.2.2.2.1]
     exact (H3.o.2.1.below cq.o).Dm c3 c2
    ·exact I.same (Za7 ag) (fun j hj=>by have:=Zba ag hj;exact⟨this.1,this.2.2.2.2.2⟩)
    ·refine⟨by rw[List.length_set],fun x hx=> ?_⟩
     rw[Zdg C hx]
     split
     ·rename_i e2;subst e2;rw[X];rfl
     ·rfl
    ·rw[Zbc]
     refine⟨DR (T:=e.timers) (c1.rising g1) (fun t ht=>((g4 t).1 ((c1.gone g2 t).1 ht).1).1.sq wk) (by show e.timers<e.timers+1;omega),fun t=> ?_⟩;rw[List.mem_append,List.mem_singleton,c1.gone g2,g4,Zdp wk hi H ag];have W:=m.fl.node k (by rw[<-m.len];exact H);have dp:=Hg W ((e.at_ i).at_ k).tries e.At
     have ig:Za2 now (now+Zb4 nd.ba nd.ca nd.ji nd.tries e.At)=Zak e.time (Zb4 ((e.at_ i).fl.ba k) ((e.at_ i).fl.ca k) ((e.at_ i).fl.ji k) ((e.at_ i).at_ k).tries e.At):=by
      rw[n1.ba,n1.ca,n1.ji,n3,G,Zc6 dp.1]
     rw[ig,J];constructor
     ·rintro (⟨⟨a,b⟩,c⟩ | rfl)
      ·exact Zu ⟨a,b⟩
      ·exact Zj ⟨Y,Zj (Zu ⟨rfl,rfl⟩)⟩
     ·rintro (⟨a,b⟩ | ⟨_,b⟩)
      ·exact Zu ⟨⟨a,b⟩,fun x=>b ⟨3,by decide,by decide,x⟩⟩
      ·right
       rcases b with⟨b,_⟩ | ⟨_,b⟩ | ⟨b,_⟩
       ·cases b
       ·exact b
       ·cases b
    ·exact (H3.o.2.2.1.trans (KF.Ae P B ob cq.o) (As.refl _ _)).trans (KF.DN c3 ob) (As.refl _ _)
  ·have cr:=Zz aj
   go_region
   go_upto_region 6 with fail
   obtain⟨S,ay⟩:∃S,S=(w2.setCell ⟨ng,k * 10+7,none⟩ (.int .i64 6)).drew:=⟨_,rfl⟩;rw[<-ay];obtain⟨Z,bh⟩:∃Z,Z=r.BE k (fun n=>{ n with st:=6 }):=⟨_,rfl⟩;obtain⟨K,ar⟩:∃K,K=e.Af i k (fun s=>{ s with st:=6 }):=⟨_,rfl⟩
   have R:AW S B Z/\Er S P B ob (rs.set i Z) el e.queue now l1 e.Ah e.Ai e.At/\KF w S P B ob/\Br Z (K.at_ i)/\Ao K/\i<K.runs.length/\(K.at_ i).st=1/\Z.within/\Z.b=b:=by
    obtain⟨h,wk,hi,H,R,hT,N,L,hM,G,I,C,D,A,Y,X,E,hn,J,m,F,O⟩:=HH.o;obtain⟨m1,m2,m3,m4,m5⟩:=U.o;obtain⟨n1,n2,n3⟩:=bo.o;have u:=m2.FQ (k:=k) (j:=7) (f:=fun n=>{ n with st:=6 }) (v:= .int .i64 6) (by omega) (by omega) rfl ⟨rfl,rfl,rfl⟩;have hf:=Du.Ey w2 r.b r.ng (k * 10+7) (.int .i64 6);rw[<-Q.o.2] at u hf;have u:=u.drew;have V:=hf.drew;rw[<-ay] at u V;rw[<-bh] at u;have fc:=A.Mg Y H 6;have au:K.runs=(e.Af i k (fun s=>{ s with st:=6 })).runs:=by rw[ar]
    have fe:=Zbo au hi;rw[if_pos rfl] at fe;have av:=Zba au hi
    have de:Ao K:=by
     rw[ar];refine wk.over hi H 6 (by omega) (by omega) (fun _=> ?_);have aj:=cr.o;have:=(m.steps k H).trB;rw[n3,n1.bu] at aj;omega
    have eu:(K.at_ i).st=1:=by rw[av.2.2.1];exact Y
    have fq:i<K.runs.length:=by rw[Za7 au];exact hi
    have dc:Br Z (K.at_ i):=by rw[fe,bh];exact fc
    have M:=de.runs i fq;refine⟨u,m1.run C u (by rw[bh,<-X];rfl) (by rw[bh,<-X];rfl) (by rw[<-X,<-Q.o.2];exact V),(m4.trans (KF.IT m2 (by rw[<-Q.o.2];exact V) F.1) (As.refl _ _)),dc,de,fq,eu,dc.within eu M.fl M.len,by rw[bh];exact Q.o.1.symm⟩
   have H3:=Zz R;have aw:=WX S B Z R.1 R.2.2.2.2.2.2.2.1;rw[R.2.2.2.2.2.2.2.2] at aw;have dj:=Zz aw
   have al:∀w4 r4,Uh Z r4->r4.shut->AW w4 B r4->Du S w4 b Z.ng->Calls prog 155 #[.pointer (some ⟨P,4,none⟩), .pointer (some ⟨b,0,none⟩)] w4 fun x w'=>x= .returned (.tuple #[])/\∃b9 l' az,Cj w' P B az (e.AT i k) b9 l'/\BS rs b9/\Be (e.AT i k) l'/\KF w w' P B ob/\As w ob az:=by
    intro w4 r4 gb j4 iz fj;obtain⟨h,wk,hi,H,R,hT,N,L,hM,G,I,C,D,A,Y,X,E,hn,J,m,F,O⟩:=HH.o;obtain⟨q1,q2,q3,q4,q5,q6,q7,q8,q9⟩:=H3.o;obtain⟨m1,m2,m3,m4,m5⟩:=U.o;obtain⟨n1,n2,n3⟩:=bo.o;have aj:¬((e.at_ i).at_ k).tries<(e.at_ i).fl.bu k:=by have:=cr.o;rw[n3,n1.bu] at this;exact this
    have au:K.runs=(e.Af i k (fun s=>{ s with st:=6 })).runs:=by rw[ar]
    have M:=q5.runs i q6;obtain⟨d2,hd,ey⟩:=gb.is q4 q7 M.fl M.len;have av:=hd.same;have eg:Shut d2:=j4.is ey (by rw[av.2.2.1];exact q7) (by rw[av.2.1];exact M.fl) (by rw[hd.len,av.2.1];exact M.len);obtain⟨s1,s2⟩:=Zeb (K.at_ i);have im:d2=Ag.BO (K.at_ i).steps.length (K.at_ i):=hd.uniq s1 eg s2;have du:=Gf (e:=e) (i:=i) (k:=k) hi aj;rw[<-ar] at du;have hlen:(e.at_ i).steps.length=(K.at_ i).steps.length:=(Zb9 au hi).symm;rw[hlen,<-im] at du;have p:=gb.same;have gi:Ao (K.AG i (fun _=>d2)):=hd.wk q5 q6 rfl;have iu:i<(K.AG i (fun _=>d2)).runs.length:=by rw[Zbi];exact q6
    have fg:(K.AG i (fun _=>d2)).at_ i=d2:=by rw[Zbr K i i _ q6,if_pos rfl]
    have bf:i<(rs.set i Z).length:=by rw[List.length_set];exact C
    have ax:Am (rs.set i Z) i=Z:=by rw[Zdg C C,if_pos rfl]
    have ck:=DT (r:=Z) (e:=e) (e':=K) (f:=fun d=>d.Af k (fun s=>{ s with st:=6 })) h.len h.runs hi (by rw[ar];rfl) (by rw[bh];exact A.Mg Y H 6);have cm:=DT (e:=K) (e':=K.AG i (fun _=>d2)) (f:=fun _=>d2) ck.1 ck.2 q6 rfl ey;have gv:=q2.run bf (r':=r4) iz (by rw[ax];exact p.1) (by rw[ax];exact p.2.2.2.1) (by rw[ax,q9];exact fj)
    have ic:Cj w4 P B ob (K.AG i (fun _=>d2)) ((rs.set i Z).set i r4) l1:=by
     refine⟨⟨el,now,?_,?_,?_⟩,cm.1,cm.2⟩
     ·rw[ar];exact gv
     ·rw[ar];exact G
     ·refine (I.same (e':=K) (Za7 au) (fun j hj=>by have:=Zba au hj;exact⟨this.1,this.2.2.2.2.2⟩)).same (Zbi K i _) (fun j hj=> ?_)
      rw[Zbr K i j _ hj];by_cases c:i=j
      ·subst c;rw[if_pos rfl];exact⟨av.1,av.2.2.2.2.2⟩
      ·rw[if_neg c];exact⟨rfl,rfl⟩
    have gz:Be (K.AG i (fun _=>d2)) l1:=by
     rw[Zbc];refine⟨m5.1,fun t=> ?_⟩;rw[PT q6 hd,m5.2.2.2,Zdp wk hi H au];constructor
     ·exact fun g=>Zu g
     ·rintro (g | ⟨_,⟨g,_⟩ | ⟨g,_⟩ | ⟨g,_⟩⟩)
      ·exact g
      ·cases g
      ·cases g
      ·cases g
    have ie:(Am ((rs.set i Z).set i r4) i).b=b:=by
     rw[Zdg bf bf,if_pos rfl,p.1,q9]
    have hc:=IL w4 P B ob (K.AG i (fun _=>d2)) ((rs.set i Z).set i r4) l1 i ic gi iu (by rw[fg,av.2.2.1];exact q7) gz (by rw[ar];exact L);rw[ie,<-du] at hc;refine hc.mono ?_;rintro x w5 ⟨rfl,b9,l',az,p1,p2,p3,p4,p5⟩
    have ee:BS rs ((rs.set i Z).set i r4):=by
     refine⟨by rw[List.length_set,List.length_set],fun j hj=> ?_⟩;rw[Zdg bf (by rw[List.length_set];exact hj),Zdg C hj];by_cases c:i=j
     ·subst c;rw[if_pos rfl,p.1,q9,<-X];exact Q.o.1
     ·rw[if_neg c,if_neg c]
    have dd:KF S w4 P B ob:=KF.IT (r:=Z) q1 (by rw[q9];exact fj) F.1;refine⟨rfl,b9,l',az,p1,ee.trans p2,p3,((q3.trans dd (As.refl _ _)).trans p4 (As.refl _ _)),fun z hz=> ?_⟩;rcases p5 z hz with g | g
    ·exact Zu g
    ·right;have:=q3.size;have:=dd.size;omega
   have bp:=Zz al;clear R aw al y0 y1 y2 y3 y4 y5 y6 y7 y8 y9 f7 ay aj
   go_wp2_with (first
    | (go_at_call 227;refine dj.o.mono ?_;rintro _ w4 ⟨rfl,hx⟩;have HX:=Zz hx;clear hx)
    | (go_at_call 155;refine (bp.o w4 HX.o.choose HX.o.choose_spec.1 HX.o.choose_spec.2.1 HX.o.choose_spec.2.2.1 HX.o.choose_spec.2.2.2).mono ?_;rintro _ w5 ⟨rfl,hy⟩;have HY:=Zz hy;clear hy))
   go_end0
   exact⟨rfl,HY.o⟩
end Go.Proofs.YtgdcjccbdmcebaaGreatDoor
