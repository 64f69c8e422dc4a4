import Derived.Test.YtgdcjccbdmcebaaGreatDoorM27
set_option linter.all false
set_option maxHeartbeats 8000000
set_option maxRecDepth 100000
open Go.Proofs.Tryz
open Go renaming results_cell_tmp->QJv,bodyPost_ret->QEz,cell_later->QFa,heap_alloc_new->QFm
open Go.Result renaming andThen->QDt
open Go.Value renaming ownBlock->QCi,slice.injEq->QGx
open Go.World renaming ownsRow_nil->QEj,block_lt_of_cell?->QDv,frozen?->QHj,cell?_of_block->QEc
open List renaming getElem?_append_left->QBg,replicate->QAw,length_replicate->QHp,getElem?_replicate->QJz,getElem?_append_right->QBe
open Nat renaming zero_add->QDk,le_of_eq->QJx
open Option renaming some.injEq->QCf
namespace Go.Proofs.YtgdcjccbdmcebaaGreatDoor
open Go.RowKit
attribute [local go_sem ↓] Go.wp_at_zero Go.wp_at_succ
variable {w w':World}{ob:Option Nat}{qh rb B0 k B:Nat}{e:Ab}{ev x:Value}{er:Int}{cs:Array Value}
def FG (e:Ab)(a b c f:Int)(y:Bool)(e':Ab):Prop :=
 (e.Bl=none/\a=0/\b=0/\c=0/\f=0/\y=false/\e'=e)\/∃p t tk,e.Bl=some (p,t,tk,e')/\a=p.run/\b=p.node/\c=t/\f=tk/\y=true
theorem Lp.Pm {g m:AQ}{d j:Ax}{e':Ab}{N:Nat}(h:Lp g d e x m j e')(ws:BB g d N e):∃a b c f y,x=.tuple #[.agg #[.int .u64 a,.int .i64 b,.int .i64 c,.int .u64 f],.bool y,AK 0]/\FG e a b c f y e'/\j.down=false/\BB m j.calm (N+1000000) e':=by
 rcases h with⟨i,rfl,rfl,rfl,rfl⟩ | ⟨p,t,tk,r,v,i,rfl,rfl,rfl,rfl,rfl⟩
 .exact⟨0,0,0,0,false,rfl,Zu ⟨i,rfl,rfl,rfl,rfl,rfl,rfl⟩,ws.down,ws.calm⟩
 .obtain⟨q1,o,q⟩:=ws.add (l:=AU 2 [] 0) (by have:=(Zdj (op:=2) (data:=[]) (n:=0) (by decide)).2;simp at this;omega) (.Bl i)
  rw[q1];exact⟨p.run,p.node,t,tk,true,rfl,Zj ⟨p,t,tk,i,rfl,rfl,rfl,rfl,rfl⟩,o,q⟩
theorem DV.stay {P R D bd bn:Nat}{a b c d:Int}(h:DV w rb a b c d)(hf:EF w w' P B R D bd bn ob)(f:rb≠P/\rb≠D/\rb≠bd/\rb≠bn):DV w' rb a b c d:=⟨hf.Cv h.Au f (by decide)⟩
theorem Ih (w:World)(hb P B R D bd bn N:Nat)(ob:Option Nat)(e:Ab)(h:AT qh w hb P B R D bd bn ob N e)(ok:Aj e)(AZ:Az e)(hN:N<=1000000000000) :
  Calls prog 61 #[.pointer (some ⟨hb,0,none⟩),Zbd (-1) (-1) 0 0] w fun x w'=>∃i a b c f y e',x=.returned (.tuple #[.agg #[.int .u64 a,.int .i64 b,.int .i64 c,.int .u64 f],.bool y,.int .i64 0])/\FG e a b c f y e'/\AT qh w' hb P B R D bd bn i (N+1000000) e'/\As w ob i/\EF w w' P B R D bd bn ob:=by
 obtain⟨g,d,h1,ws⟩:=h.ex;have q:=h.ne;obtain⟨fb,H⟩:∃fb,fb=w.heap.size:=⟨_,rfl⟩;obtain⟨rb,L⟩:∃rb,rb=w.heap.size+1:=⟨_,rfl⟩;obtain⟨u,t⟩:∃u,u=(w.alloc (.cells #[.int .i64 (-1),.int .i64 (-1),.int .i64 0,.int .i64 0] 35)).alloc (.cells #[.int .u64 0,.int .i64 0,.int .i64 0,.int .u64 0] 48):=⟨_,rfl⟩;have m:ZY w u:=by rw[t];exact (ZV.alloc ZU _).alloc (by simp) _
 have V:=h1.pl;have s:=h1.ne
 have C:∀k,w.heap.size<=k->k≠P/\k≠D/\k≠bd/\k≠bn:=fun k hk=>by
  have:=s.p;have:=s.d;have:=s.md;have:=s.mn;exact⟨by omega,by omega,by omega,by omega⟩
 have al:DV u rb 0 0 0 0:=⟨by rw[t,L];exact Zbm _ _ _ _ (by simp)⟩
 have HA:=Zz (show AJ qh u u hb P B R D bd bn fb ob ob g d e (-1) (-1) 0 0 from
  ⟨h1.below m,h.host.at_ (m.block hb (Zaa h.host.Au)),h.err.Ak m,EF.Ae P B R D bd bn ob ZV,As.refl _ _,by rw[t,H,Zam _ _ _ (by simp)];exact QFm w _⟩)
 have Q:=Zz (show Calls prog 34 #[.pointer (some ⟨hb,0,none⟩),Zbd (-1) (-1) 0 0] u fun x w'=>x=.returned (.tuple #[])/\AJ qh u w' hb P B R D bd bn fb ob ob g d e (-1) (-1) 0 0 from by
  refine (Zc4 u hb P B R D bd bn N ob g d e _ 0 0 HA.o.Et ws HA.o.host).mono ?_;rintro x w' ⟨rfl,q1,W⟩;exact⟨rfl,HA.o.one q q1 W⟩)
 have X:=Zz (show ∀w2,AJ qh u w2 hb P B R D bd bn fb ob ob g d e (-1) (-1) 0 0->Calls prog 102 #[.pointer (some ⟨P,0,none⟩)] w2 fun x w'=>∃a b c f y E A e' i,x=.returned (.tuple #[.agg #[.int .u64 a,.int .i64 b,.int .i64 c,.int .u64 f],.bool y,AK 0])/\FG e a b c f y e'/\A.down=false/\BB E A.calm (N+1000000) e'/\AJ qh u w' hb P B R D bd bn fb ob i E A e' (-1) (-1) 0 0 from fun w2 r=>by
  refine (Sy w2 P B R D bd bn N ob g d e r.Et ok AZ (ws.fit hN)).mono ?_;rintro x w' ⟨v,E,A,e',i,rfl,q1,W,q3,q4⟩;obtain⟨a,b,c,f,y,rfl,r2,r3,r4⟩:=q1.Pm ws;exact⟨a,b,c,f,y,E,A,e',i,rfl,r2,r3,r4,r.call q W q3 q4⟩)
 have O:=Zz (show ∀M w4 E A e' i pb a b c f,A.down=false->AJ qh u M hb P B R D bd bn fb ob i E A e' (-1) (-1) 0 0->ZY M w4->DV w4 pb a b c f->M.heap.size<=pb->Calls prog 36 #[.pointer (some ⟨hb,0,none⟩),Zbd (-1) (-1) 0 0] w4 fun x w'=>x=.returned (.tuple #[])/\AJ qh u w' hb P B R D bd bn fb ob i E A.calm e' (-1) (-1) 0 0/\DV w' pb a b c f/\DV w' rb 0 0 0 0 from fun M w4 E A e' i pb a b c f G r az ar J=>by
  have n:=r.below az;refine (Zcn w4 hb P B R D bd bn i E A _ _ _ _ 0 0 n.Et G n.host).mono ?_;rintro x w' ⟨rfl,q1,W⟩;have j:=n.one q q1 W;have hs:=r.ef.size;have ck:=m.size;exact⟨rfl,j,ar.at_ (W.block pb (Zaa ar.Au) (C pb (by omega)).2.1),al.stay j.ef (C rb (by omega))⟩)
 have HR:=Zz (Zq t (Zq H (Zq q (Zq m L))));have aw:=Zz (show B<=w.heap.size from V.2);unfold Zbd at Q O ⊢;clear h ok AZ hN h1 ws q t H L m V s C al
 go_enter func61,ntmps61
 go_upto_region 1 with fail
 rw[<-HR.o.2.2.2.2,<-HR.o.2.1,<-HR.o.1];obtain⟨⟨⟨⟨z0,z1⟩,z2⟩,z3⟩,z4⟩:=HA.o.cells
 go_upto_region 6 with (first
  | (go_at_call 34;refine Q.o.mono ?_;rintro _ w2 ⟨rfl,r⟩;have H2:=Zz r;obtain⟨⟨⟨⟨y0,y1⟩,y2⟩,y3⟩,y4⟩:=r.cells;clear r)
  | (go_at_call 102;refine (X.o _ H2.o).mono ?_;rintro _ M ⟨a,b,c,f,y,E,A,e',i,rfl,ag,G,au,r⟩;have H3:=Zz (Zq r (Zq G (Zq au ag)));have n:=r.below ((Zk M.heap.size M).alloc ZU (.cells #[.int .u64 a,.int .i64 b,.int .i64 c,.int .u64 f] 48));obtain⟨⟨⟨⟨x0,x1⟩,x2⟩,x3⟩,x4⟩:=n.cells;clear r G au ag n)
  | (go_at_call 36;refine (O.o _ _ _ _ _ _ M.heap.size a b c f H3.o.2.1 H3.o.1 (ZV.alloc ZU _) ⟨QFm _ _⟩ ZU).mono ?_;rintro _ w4 ⟨rfl,r,hp,hr⟩;have S:=Zz (Zq r (Zq hp hr));clear r hp hr))
 obtain⟨pb,J⟩:∃pb,pb=M.heap.size:=⟨_,rfl⟩;rw[<-J];have T:=Zz (show DV w4 pb a b c f from by rw[J];exact S.o.2.1);obtain⟨⟨⟨f0,f1⟩,f2⟩,f3⟩:=S.o.2.2.AD;obtain⟨⟨⟨t0,t1⟩,t2⟩,t3⟩:=T.o.cells;obtain⟨⟨⟨s0,s1⟩,s2⟩,s3⟩:=S.o.2.2.cells;clear z0 z1 z2 z3 z4 y0 y1 y2 y3 y4 x0 x1 x2 x3 x4 J
 have Y:=Zz (show ∀wx,ZY w4 wx->Calls prog 37 #[AK 0] wx fun x w'=>x=.returned (.int .i64 0)/\ZY w4 w' from fun wx U=>(Zby 0 wx (S.o.1.err.Ak U)).mono (by
  rintro x w' ⟨rfl,ay⟩;exact⟨rfl,U.trans (ay.mono U.size)⟩))
 go_region_with (go_at_call 37;refine (Y.o _ (ZV.drew)).mono ?_;rintro _ w5 ⟨rfl,F⟩;have H5:=Zz F;have K:=S.o.2.2.at_ (F.block rb (Zaa S.o.2.2.Au));have ae:=T.o.at_ (F.block pb (Zaa T.o.Au));have Z:=Zz K;obtain⟨⟨⟨g0,g1⟩,g2⟩,g3⟩:=K.AD;obtain⟨⟨⟨u0,u1⟩,u2⟩,u3⟩:=ae.cells;obtain⟨⟨⟨v0,v1⟩,v2⟩,v3⟩:=K.cells;clear F K ae)
 all_goals go_wp2_with fail
 all_goals
  have aj:=Fh (Z.o.set a b c f);have I:=AA.Jo w5 rb (.int .u64 a) (.int .i64 b) (.int .i64 c) (.int .u64 f);obtain⟨t,H,q,m,L⟩:=HR.o;obtain⟨n,br,bw⟩:=S.o;have j:=n.below H5.o;have s:=j.Et.ne;have bp:=s.l.gl;have V:=j.Et.pl;have bo:=aw.o;have hP:P≠rb:=by omega
  have bj:4<rb:=by omega
  have bh:hb≠rb:=by have:=q.b;omega
  have ax:EF w w5 P B R D bd bn ob:=(EF.Ae P B R D bd bn ob m).trans j.ef (As.refl _ _);refine QEz (v:=.tuple #[.agg #[.int .u64 a,.int .i64 b,.int .i64 c,.int .u64 f],.bool y,.int .i64 0]) (by rw[Zbo rfl];simp[QDt,asAddr,aj,Act.put]) rfl ?_;refine⟨i,a,b,c,f,y,e',rfl,H3.o.2.2.2,⟨⟨_,_,j.Et.one I hP ⟨_,_,Z.o.Au⟩ bj,H3.o.2.2.1⟩,j.host.at_ (I.block hb (Zaa j.host.Au) bh),?_,q⟩,fun k hk=> ?_,ax.one I (by omega)⟩
  .have bf:0<w5.heap.size:=QDv _ _ j.err
   exact (QEc (a:=⟨0,0,none⟩) (I.block 0 bf (by omega))).trans j.err
  .rcases j.LV k hk with z | z
   .exact Zu z
   .exact Zj (Zv m.size z)
theorem Ea.Ak {B':Nat}{id:Int}{v:Value}(h:Ea B w e id v er)(hk:∀(n:Nat) (x:Value) (xs:List Value),w.ownsRow B 3 1 x n xs->w'.ownsRow B' 3 1 x n xs):Ea B' w' e id v er:=by
 rcases h with h | ⟨i,a1,a2,c1,c2,q1,a,b,c,d⟩
 .exact Zu h
 .exact Zj ⟨i,a1,a2,c1,c2,q1,a,b,hk _ _ _ c,hk _ _ _ d⟩
theorem AT.below {hb P R D bd bn N:Nat}(h:AT qh w hb P B R D bd bn ob N e)(hw:ZY w w'):AT qh w' hb P B R D bd bn ob N e:=by
 obtain⟨g,d,a,b⟩:=h.ex;exact⟨⟨g,d,a.below hw,b⟩,h.host.at_ (hw.block hb (Zaa h.host.Au)),h.err.Ak hw,h.ne⟩
theorem JS (w:World)(hb P B R D bd bn N:Nat)(ob:Option Nat)(e:Ab)(id:Int)(h:AT qh w hb P B R D bd bn ob N e) :
  Calls prog 27 #[.pointer (some ⟨hb,0,none⟩),.int .u64 id] w fun x w'=>∃v er,x=.returned (.tuple #[v,.int .i64 er])/\Ea w.heap.size w' e id v er/\ZY w w':=by
 obtain⟨g,d,V,ws⟩:=h.ex;obtain⟨rb,C⟩:∃rb,rb=w.heap.size:=⟨_,rfl⟩;obtain⟨E,s⟩:∃E,E=w.alloc (.cells #[.int .u64 0,.int .i64 0,.slice none 0 0,.slice none 0 0] 50):=⟨_,rfl⟩;have i:ZY w E:=by rw[s];exact ZV.alloc ZU _
 have H:BD E rb 0 0 (.slice none 0 0) (.slice none 0 0):=⟨by rw[s,C];exact QFm w _⟩;have X:=Zz (PN E P B R D bd bn ob g d e id (V.below i));have K:Bn E hb D (.pointer (some ⟨P,0,none⟩)):=h.host.at_ (i.block hb (Zaa h.host.Au));have z4:=K.cells.2;have G:=Zz (show ∀wx er,ZY w wx->Calls prog 37 #[AK er] wx fun x w'=>x=.returned (.int .i64 er)/\ZY wx w' from fun wx er S=>Zby er wx (h.err.Ak S));have f:=Zz (Zq s (Zq C (Zq i H)));clear h V ws s C i H K
 go_enter func27,ntmps27
 go_upto_region 1 with fail
 rw[<-f.o.2.1,<-f.o.1]
 go_upto_region 4 with (go_at_call 73;refine X.o.mono ?_;rintro _ O ⟨v,er,rfl,T,I⟩;obtain⟨c,st,a1,n1,c1,a2,n2,c2,rfl⟩:=T.form;have F:=Zz (Zq T I);clear T I)
 obtain⟨pb,A⟩:∃pb,pb=O.heap.size:=⟨_,rfl⟩;obtain⟨y,t⟩:∃y,y=O.alloc (.cells #[.int .u64 c,.int .i64 st,.slice a1 n1 c1,.slice a2 n2 c2] 50):=⟨_,rfl⟩;rw[<-A,<-t];have a:ZY O y:=by rw[t];exact ZV.alloc ZU _
 have z:BD y pb c st (.slice a1 n1 c1) (.slice a2 n2 c2):=⟨by rw[t,A];exact QFm O _⟩;have m:BD y rb 0 0 (.slice none 0 0) (.slice none 0 0):=f.o.2.2.2.at_ ((a.block rb (Zy (Zaa f.o.2.2.2.Au) F.o.2.size)).trans (F.o.2.block rb (Zaa f.o.2.2.2.Au)));have J:ZY w y:=(f.o.2.2.1.trans (F.o.2.mono f.o.2.2.1.size)).trans (a.mono (Zv f.o.2.2.1.size F.o.2.size));obtain⟨⟨⟨f0,f1⟩,f2⟩,f3⟩:=m.AD;obtain⟨⟨⟨t0,t1⟩,t2⟩,t3⟩:=z.cells;obtain⟨⟨⟨s0,s1⟩,s2⟩,s3⟩:=m.cells;have u:=Zz (Zq J (Zq z (Zq m a)));clear J z m a z4 t A
 go_region_with (go_at_call 37;refine (G.o _ er (u.o.1.drew)).mono ?_;rintro _ W ⟨rfl,j⟩;have l:=Below.trans ((Zk y.heap.size y).drew) j;have U:=Zz l;have q:=u.o.2.2.1.at_ (l.block rb (Zaa u.o.2.2.1.Au));have L:=u.o.2.1.at_ (l.block pb (Zaa u.o.2.1.Au));have b:=Zz q;obtain⟨⟨⟨g0,g1⟩,g2⟩,g3⟩:=q.AD;obtain⟨⟨⟨u0,Z⟩,u2⟩,u3⟩:=L.cells;obtain⟨⟨⟨v0,v1⟩,v2⟩,v3⟩:=q.cells;clear j l q L)
 all_goals go_wp2_with fail
 all_goals
  have M:=GO (b.o.set _ _ c st (.slice a1 n1 c1) (.slice a2 n2 c2));have r:=f.o.2.1;have j:ZY w W:=u.o.1.trans (U.o.mono u.o.1.size);have Q:ZY w ((((W.setCell ⟨rb,0,none⟩ (.int .u64 c)).setCell ⟨rb,1,none⟩ (.int .i64 st)).setCell ⟨rb,2,none⟩ (.slice a1 n1 c1)).setCell ⟨rb,3,none⟩ (.slice a2 n2 c2)):=(((j.setCell (p:=⟨rb,0,none⟩) (QJx r.symm) _).setCell (p:=⟨rb,1,none⟩) (QJx r.symm) _).setCell (p:=⟨rb,2,none⟩) (QJx r.symm) _).setCell (p:=⟨rb,3,none⟩) (QJx r.symm) _;refine QEz (v:=.tuple #[.agg #[.int .u64 c,.int .i64 st,.slice a1 n1 c1,.slice a2 n2 c2],.int .i64 er]) (by rw[QJv rfl];simp[QDt,asAddr,M,Act.put]) rfl ?_;exact⟨_,er,rfl,F.o.1.Ak (fun n x xs Y=>Zcs (Zaf (Zaf (Zaf (Zaf (Zak (Zak Y u.o.2.2.2) U.o) b.o.Au (by decide) _) (Zab b.o.Au _) (by decide) _) (Zab (Zab b.o.Au _) _) (by decide) _) (Zab (Zab (Zab b.o.Au _) _) _) (by decide) _) f.o.2.2.1.size),Q⟩
theorem AI.one8 {P R D bd bn:Nat}{g:AQ}{d:Ax}(h:AI qh w P B R D bd bn ob g d e)(b:AA w w' rb)(m:P≠rb){fr:Nat×Nat}(hb:w.heap[rb]? =some (.cells cs 5 fr))(s:4<rb):AI qh w' P B R D bd bn ob g d e:=by
 obtain⟨q,r⟩:=h.pl;have n:=h.ne.l.gl;have f:P<w.heap.size:=by omega
 obtain⟨rs,l,p,j⟩:=h.kp;have nf:NF w w' P B:=⟨b.size,fun o _=>QEc (a:=⟨P,o,none⟩) (b.block P f m),fun o=>World.frozen?_of_block (a:=⟨P,o,none⟩) (b.block P f m),fun k cs t fr _ e j=>b.block k (Zaa e) (Zah e hb (by unfold Rb at j;rcases j with rfl | rfl | rfl | rfl | rfl | rfl | rfl | rfl | rfl | rfl<;>decide)),fun k es c _ e=>b.block k (Zaa e) (fun y=>by rw[y,hb] at e;cases e)⟩;refine⟨⟨rs,l,p.side nf,j⟩,h.log.at_ (b.block P f m),h.dk.one b hb,fun i hi=> ?_,h.Ix.at_ (b.block _ (by omega) (by omega)),h.ne⟩;have e:=b.block 1 (by omega) (by omega);exact (QEc (a:=⟨1,i,none⟩) e).trans (h.nm i hi)
def Pp (B0:Nat)(w:World)(ev:Value)(er at_:Int):Prop:=(∃q:Nat,ev=.iface 172 (.pointer (some ⟨q,0,none⟩))/\Bb w q er at_/\q<w.heap.size/\B0<=q)\/(ev=AK er/\at_= -1)
theorem Pp.Ak {at_:Int}(h:Pp B0 w ev er at_)(f:w.heap.size<=w'.heap.size)(hk:∀k,B0<=k->k<w.heap.size->w'.heap[k]? =w.heap[k]?):Pp B0 w' ev er at_:=by
 rcases h with⟨q,q1,c,d,b⟩ | h
 .exact Zu ⟨q,q1,⟨(QEc (a:=⟨q,0,none⟩) (hk q b d)).trans c.1,(QEc (a:=⟨q,1,none⟩) (hk q b d)).trans c.2⟩,by omega,b⟩
 .exact Zj h
theorem ZC {at_:Int}(h:Pp B0 w ev er at_)(he:Ay w):Calls prog 40 #[ev] w fun x w'=>x=.returned (.tuple #[.int .i64 er,.int .i64 at_])/\ZY w w':=by
 rcases h with⟨q,rfl,b,c,d⟩ | ⟨rfl,rfl⟩
 .exact KQ q er at_ w b c he
 .unfold AK
  split
  .rename_i a;subst a;exact KR w
  .exact Jf er w he
def Uh (e:Ab)(l:List Int)(n er at_:Int)(e':Ab):Prop :=
 (er≠0/\Co l.length (fun k=>(l.getD k 0).toNat) er at_ Gm/\n=0/\e'=e) \/
 (∃y,Co l.length (fun k=>(l.getD k 0).toNat) 0 y (Zaj l.length (fun k=>(l.getD k 0).toNat))/\at_= -1/\er=CO 5 (e.AM (Zaj l.length (fun k=>(l.getD k 0).toNat)))/\n=(if er=0 then e.Ah+1 else 0)/\e'=(e.AM (Zaj l.length (fun k=>(l.getD k 0).toNat))).getD e)
theorem Uk.Pm {N:Nat}{g i:AQ}{d b:Ax}{e':Ab}{l:List Int}(h:Uk B0 w' g d e l x i b e')(ws:BB g d N e)(hl:l.length<=900000)(f:BC l):∃(n:Int) (ev:Value) (er at_:Int),x=.tuple #[.int .u64 n,ev]/\Pp B0 w' ev er at_/\Uh e l n er at_ e'/\b.down=false/\BB i b.calm (N+1000000) e':=by
 rcases h with⟨s,y,q,a,c,rfl,j,m,o,rfl,rfl,rfl⟩ | ⟨y,er,a,c,rfl⟩
 .exact⟨0,_,s,y,rfl,Zu ⟨q,rfl,j,m,o⟩,Zu ⟨a,c,rfl,rfl⟩,ws.down,ws.calm⟩
 .have hlen:(AU 1 l 0).length<=900100:=by have:=(Zdj (op:=1) (data:=l) (n:=0) (by decide)).2;omega
  obtain⟨r1,r2,p,r⟩:=c.Pm ws hlen (fun t he=> .AM a f he);exact⟨_,_,er,-1,rfl,Zj ⟨rfl,rfl⟩,Zj ⟨y,a,rfl,r1,rfl,r2⟩,p,by rw[r2];exact r⟩
theorem IK (w:World)(hb P B R D bd bn N B0 Q c:Nat)(ob:Option Nat)(e:Ab)(l:List Int)(h:AT qh w hb P B R D bd bn ob N e)(ok:Aj e)(AZ:Az e)(hN:N<=1000000000000)(hr:Al B0 w (.slice (some ⟨Q,0,none⟩) l.length c) l)(hl:BC l)(du:1<=l.length)(ax:l.length<=900000) :
  Calls prog 60 #[.pointer (some ⟨hb,0,none⟩),.slice (some ⟨Q,0,none⟩) l.length c,Zbd (-1) (-1) 0 0] w fun x w'=>∃f n er at_ e',x=.returned (.tuple #[.int .u64 n,.int .i64 er,.int .i64 at_])/\Uh e l n er at_ e'/\AT qh w' hb P B R D bd bn f (N+1000000) e'/\As w ob f/\EF w w' P B R D bd bn ob:=by
 obtain⟨g,d,h1,ws⟩:=h.ex;have M:=h.ne;obtain⟨i5,cu,ag,aj,al⟩:=info_parts LK;have T:=Zz (Zq cu (Zq ag (Zq aj al)));obtain⟨fb,au⟩:∃fb,fb=w.heap.size:=⟨_,rfl⟩;obtain⟨n,hn⟩:∃n,n=l.length:=⟨_,rfl⟩;obtain⟨w1,X⟩:∃w1,w1=w.alloc (.cells #[.int .i64 (-1),.int .i64 (-1),.int .i64 0,.int .i64 0] 35):=⟨_,rfl⟩;have ar:ZY w w1:=by rw[X];exact ZV.alloc ZU _
 have dy:=h1.pl;have E:=h1.ne
 have K:∀k,w.heap.size<=k->k≠P/\k≠D/\k≠bd/\k≠bn/\4<k:=fun k hk=>by
  have:=E.p;have:=E.d;have:=E.md;have:=E.mn;have:=E.l.gl;exact⟨by omega,by omega,by omega,by omega,by omega⟩
 have HA:=Zz (show AJ qh w w1 hb P B R D bd bn fb ob ob g d e (-1) (-1) 0 0 from by rw[X,au];exact AJ.new (N:=N) h1 h.host h.err _ _ _ _ ZV)
 have ae:∃bo fr,w.heap[Q]? =some (.cells bo 5 fr):=by
  rcases hr.2 with⟨x,_⟩ | ⟨t,cap,cur,x,_,hh,_⟩
  .simp at x
  .obtain rfl:Q=t:=by simp only[QGx,QCf,Addr.mk.injEq] at x;exact x.1.1
   exact⟨_,_,hh⟩
 have Z:=Zz (show Calls prog 34 #[.pointer (some ⟨hb,0,none⟩),Zbd (-1) (-1) 0 0] w1 fun x w'=>x=.returned (.tuple #[])/\AJ qh w w' hb P B R D bd bn fb ob ob g d e (-1) (-1) 0 0/\∀k,k<n->w'.cell? ⟨Q,k,none⟩=(bv l)[k]? from by
  refine (Zc4 w1 hb P B R D bd bn N ob g d e _ 0 0 HA.o.Et ws HA.o.host).mono ?_;rintro x w' ⟨rfl,q1,q2⟩;obtain⟨bo,fr,az⟩:=ae;obtain⟨pa,pc,dk,_⟩:=h1.dk.c;refine⟨rfl,HA.o.one M q1 q2,fun k hk=> ?_⟩;have e1:=ar.block Q (Zaa az);have e2:=q2.block Q (Zaa (e1.trans az)) (Zah az dk.Au (by decide));exact (QEc (a:=⟨Q,k,none⟩) (e2.trans e1)).trans (World.ownsRow.cellAt hr k (by omega)))
 have bf:=Zz (show ∀S s xa G,AJ qh w S hb P B R D bd bn fb ob ob g d e (-1) (-1) 0 0->ZY S s->Al (w.heap.size+1) s (.slice xa n G) l->Calls prog 101 #[.pointer (some ⟨P,0,none⟩),.slice xa n G] s fun x w'=>∃i ev er at_ t C e' f,x=.returned (.tuple #[.int .u64 i,ev])/\Pp s.heap.size w' ev er at_/\Uh e l i er at_ e'/\C.down=false/\BB t C.calm (N+1000000) e'/\AJ qh w w' hb P B R D bd bn fb ob f t C e' (-1) (-1) 0 0/\Al (w.heap.size+1) w' (.slice xa n G) l from fun S s xa G z dj q=>by
  have bp:=z.below dj;rw[hn] at q ⊢;refine (NV s P B R D bd bn N (w.heap.size+1) ob g d e l xa G bp.Et ok AZ (ws.fit hN) q hl ax).mono ?_;rintro x w' ⟨v,t,C,e',f,rfl,q1,q2,q3,q4⟩;obtain⟨i,ev,er,at_,rfl,r2,r3,r4,r5⟩:=q1.Pm ws ax hl;refine⟨i,ev,er,at_,t,C,e',f,rfl,r2,r3,r4,r5,bp.call M q2 q3 q4,q.1,?_⟩;rcases q.2 with x | ⟨g5,cap,cur,x,hg,hh,r⟩
  .exact Zu x
  .obtain⟨f1,f2,f3,f4,_⟩:=K g5 (by omega)
   exact Zj ⟨g5,cap,cur,x,hg,q4.Cv hh ⟨f1,f2,f3,f4⟩ (by decide),r⟩)
 have Y:=Zz (show ∀s t C e' f,C.down=false->AJ qh w s hb P B R D bd bn fb ob f t C e' (-1) (-1) 0 0->Calls prog 36 #[.pointer (some ⟨hb,0,none⟩),Zbd (-1) (-1) 0 0] s fun x w'=>x=.returned (.tuple #[])/\AJ qh w w' hb P B R D bd bn fb ob f t C.calm e' (-1) (-1) 0 0/\AA s w' D from fun s t C e' f V z=>by
  refine (Zcn s hb P B R D bd bn f t C _ _ _ _ 0 0 z.Et V z.host).mono ?_;rintro x w' ⟨rfl,q1,q2⟩;exact⟨rfl,z.one M q1 q2,q2⟩)
 have U:=Zz (Zq X (Zq au (Zq M (Zq K (Zq hn ar)))));have ey:1<=n:=by omega
 have ez:n<=900000:=by omega
 have dp:=Fj l
 have ay:Hid (∀u∈bv l,u.oneCell'=true):=Zz fun u hu=>by
  simp only[bv,List.mem_map] at hu;obtain⟨x,_,rfl⟩:=hu
  rfl
 rw[<-hn] at dp ⊢;unfold Zbd at Z Y ⊢;clear h ok AZ hN hr hl du ax cu ag aj al h1 ws M X au hn ar dy E K ae
 go_enter func60,ntmps60
 go_upto_region 1 with fail
 rw[<-U.o.2.1,<-U.o.1];obtain⟨⟨⟨⟨z0,z1⟩,z2⟩,z3⟩,z4⟩:=HA.o.cells
 go_upto_region 4 with (go_at_call 34;refine Z.o.mono ?_;rintro _ S ⟨rfl,z,I⟩;have H2:=Zz z;have de:=Zz I;obtain⟨⟨⟨⟨y0,y1⟩,y2⟩,y3⟩,y4⟩:=z.cells;clear z I)
 have O:∀(j:Nat) (u:Value),(bv l)[j]? =some u->S.cell? (Addr.add ⟨Q,0,none⟩ j)=some u:=fun j u hj=>by
  have dr:j<n:=by
   have:=(List.getElem?_eq_some_iff.1 hj).1;omega
  rw[Zcg,QDk,de.o j dr,hj]
 have db:w.heap.size+1<=S.heap.size:=by have:=Zaa H2.o.fb;have:=U.o.2.1;omega
 have bh:=Zz (Zq O db);clear z0 z1 z2 z3 z4 O db
 go_upto_region 5 with (at_builtin;refine wpList_append_own _ rfl (.const (.slice none 0 0)) (.tmp 23) 112 rfl (w.heap.size+1) 5 i5 (.int .u8 0) 1 1 underlying112 T.o.1 T.o.2.1 T.o.2.2.1 T.o.2.2.2 rfl (by decide) (.slice none 0 0) 0 [] rfl (QEj _ _ _ _) ⟨Q,0,none⟩ n c (bv l) rfl (by omega) bh.o.1 ay.o (by unfold maxLen;omega) (by omega) bh.o.2 ?_;intro v1 s b L cy;clear cy;rw[QDk,List.nil_append] at b;obtain⟨xa,G,rfl⟩:=Zaz b;have HO:=Zz (Zq b L);clear b L)
 have H:ZY S s:=(Zk S.heap.size S).grown HO.o.2 ZU (fun k h=>by cases h)
 have A:Al (w.heap.size+1) s (.slice xa n G) l:=by
  have:=HO.o.1;unfold Al;rw[<-U.o.2.2.2.2.1];exact this
 obtain⟨gg,ee,ck,cm⟩:∃gg:Nat,xa=some ⟨gg,0,none⟩/\w.heap.size+1<=gg/\gg<s.heap.size:=by
  rcases A.2 with⟨x,x2⟩ | ⟨g5,cap,cur,x,hg,hh,r⟩
  .have:=U.o.2.2.2.2.1;omega
  .simp only[QGx] at x
   exact⟨g5,x.1,hg,Zaa hh⟩
 subst ee;have H3:=Zz (Zq H (Zq A (Zq ck cm)));have x4:s.cell? ⟨hb,1,none⟩=some (.pointer (some ⟨P,0,none⟩)):=QFa H y4;clear H A ck cm y0 y1 y2 y3 y4
 go_upto_region 6 with (go_at_call 101;refine (bf.o S s _ G H2.o H3.o.1 H3.o.2.1).mono ?_;rintro _ w4 ⟨i,ev,er,at_,t,C,e',f,rfl,J,dc,V,dd,z,q⟩;have H4:=Zz (Zq z (Zq V (Zq dd (Zq dc (Zq J q)))));clear z V dd dc J q)
 have HG:=Zz (show w4.ownsRow (w.heap.size+1) 5 1 (.slice (some ⟨gg,0,none⟩) n G) n (bv l) from by
  have h5:=H4.o.2.2.2.2.2;unfold Al at h5;rw[<-U.o.2.2.2.2.1] at h5;exact h5)
 clear x4;go_wp2_with fail
 go_loopw [36] (fun iv wr=>∃(i:Nat) (zs:List Value),iv=.int .i64 i/\i<=n/\wr.ownsRow (w.heap.size+1) 5 1 (.slice (some ⟨gg,0,none⟩) n G) n zs/\AA w4 wr gg) (fun iv _=>n - (intOf iv).toNat)
 case atStart =>
  exact⟨0,bv l,rfl,by omega,HG.o,AA.refl _ _⟩
 case round =>
  obtain⟨j,zs,rfl,hi,b,F⟩:=hrel;by_cases h1:j<n
  .have t0:=b.cellAt j (by omega)
   obtain⟨u,hu⟩:∃u,wr.cell? ⟨gg,j,none⟩=some u:=by
    have hz:=b.1;rw[t0];exact⟨_,ZZ (by omega)⟩
   have f0:=b.frozenAt j;have HW:=Zz (Zq b F);have i1:(j:Int)<(n:Int):=by omega
   have fe:n<=G/\G<=maxLen:=by
    rcases b.2 with⟨x,_⟩ | ⟨t,cap,cur,x,hg,hh,r1,r2,_⟩
    .simp at x
    .simp only[QGx] at x
     obtain⟨_,_,rfl⟩:=x;exact⟨r1,r2⟩
   clear t0 b F;go_wp2_with fail
   go_roundw
   case rel=>exact⟨j+1,_,by go_num,by omega,(HW.o.1.stored j (.int .u8 33)).1,HW.o.2.set j _⟩
   case measure=>simp[intOf];omega
  .have i1:¬(j:Int)<(n:Int):=by omega
   have HW:=Zz (Zq b F);clear b F;have m:=H4.o.1;obtain⟨f1,f2,f3,f4,f5⟩:=U.o.2.2.2.1 gg (by have:=H3.o.2.2.1;omega)
   obtain⟨eg,ei,W⟩:∃cs fr,w4.heap[gg]? =some (.cells cs 5 fr):=by
    rcases HG.o.2 with⟨x,_⟩ | ⟨t,cap,cur,x,_,hh,_⟩
    .simp at x
    .obtain rfl:gg=t:=by simp only[QGx,QCf,Addr.mk.injEq] at x;exact x.1.1
     exact⟨_,_,hh⟩
   have F:=HW.o.2;have cq:gg≠fb:=Zah W m.fb (by decide);have cr:gg≠hb:=Zah W m.host.Au (by decide);have bw:0<w4.heap.size:=QDv _ _ m.err;have dw:=m.Et.pl
   have hM:AJ qh w wr hb P B R D bd bn fb ob f t C e' (-1) (-1) 0 0 :=
    ⟨m.Et.one8 F (Ne.symm f1) W f5,m.host.at_ (F.block hb (Zaa m.host.Au) (Ne.symm cr)),(QEc (a:=⟨0,0,none⟩) (F.block 0 bw (by omega))).trans m.err,m.ef.one F (by have:=H3.o.2.2.1;omega),m.LV,(F.block fb (Zaa m.fb) (Ne.symm cq)).trans m.fb⟩
   have J:Pp s.heap.size wr ev er at_:=H4.o.2.2.2.2.1.Ak F.size (fun k hk aw=>F.block k aw (by have:=H3.o.2.2.2;omega));have HM:=Zz (Zq hM J);obtain⟨⟨⟨⟨x0,x1⟩,x2⟩,x3⟩,x4⟩:=hM.cells
   have dh:=Zz (show D<s.heap.size from by
    have h5:=HA.o.Et.ne.d;have h6:=HA.o.Et.pl;have h7:=H3.o.1.size;have h8:=H2.o.ef.size;have h9:=U.o.2.2.2.2.2.size;have ep:=H2.o.Et.pl;omega)
   have bj:=Zz (show ∀wx,AJ qh w wx hb P B R D bd bn fb ob f t C.calm e' (-1) (-1) 0 0->AA wr wx D->Calls prog 40 #[ev] wx fun x w'=>x=.returned (.tuple #[.int .i64 er,.int .i64 at_])/\ZY wx w' from fun wx hx da=>ZC (HM.o.2.Ak da.size (fun k hk aw=>da.block k aw (by have:=dh.o;omega))) hx.err);clear m f1 f2 f3 f4 f5 W F cq cr bw dw hM J
   go_wp2_with (first
    | (go_at_call 36;refine (Y.o _ _ _ _ _ H4.o.2.1 HM.o.1).mono ?_;rintro _ w5 ⟨rfl,z,cz⟩;have H5:=Zz (Zq z cz);clear z cz)
    | (go_at_call 40;refine (bj.o _ H5.o.1 H5.o.2).mono ?_;rintro _ w6 ⟨rfl,br⟩;have H6:=Zz br;clear br))
   have y:=H5.o.1.below H6.o;refine QEz (v:=.tuple #[.int .u64 i,.int .i64 er,.int .i64 at_]) (by simp[results,Tryz.results60,go_sem]) rfl ?_;exact⟨f,i,er,at_,e',rfl,H4.o.2.2.2.1,⟨⟨_,_,y.Et,H4.o.2.2.1⟩,y.host,y.err,U.o.2.2.1⟩,y.LV,y.ef⟩
theorem ME (w:World):Calls prog 242 #[.slice none 0 0] w fun x w'=>x=.returned (.int .i64 6)/\w'=w:=by
 go_enter func242,ntmps242
 go_wp2_with fail
 go_loopw [12,3] (fun a b wr=>a=.int .i64 0/\b=.int .i64 6/\wr=w) (fun _ _ _=>0)
 case atStart=>exact⟨rfl,rfl,rfl⟩
 case round =>
  obtain⟨rfl,rfl,rfl⟩:=hrel;have c:¬(0:Int)<max (min 2 0) 0:=by decide
  go_wp2_with fail
  go_ret
  exact⟨rfl,rfl⟩
theorem Zd7 (w:World):Calls prog 167 #[.slice none 0 0] w fun x w'=>x=.returned (.tuple #[.slice none 0 0,.int .i64 6,.bool false])/\w'=w:=by
 go_enter func167,ntmps167
 go_wp2_with (go_at_call 242;refine (ME w).mono ?_;rintro _ a ⟨rfl,rfl⟩)
 go_ret3
 exact⟨rfl,rfl⟩
theorem Pg (w:World)(v:Value):Calls prog 121 #[.slice none 0 0,v] w fun x w'=>x=.returned (.int .i64 0)/\w'=w:=by
 go_enter func121,ntmps121
 go_wp2_with fail
 go_loopw [0] (fun a wr=>a=.slice none 0 0/\wr=w) (fun _ _=>0)
 case atStart=>exact⟨rfl,rfl⟩
 case round =>
  obtain⟨rfl,rfl⟩:=hrel;go_wp2_with fail
  go_ret
  exact⟨rfl,rfl⟩
theorem PC (w:World)(R D bd bn:Nat)(d:Ax)(i:Nat)(h:Av w R D bd bn d)(f:d.down=false)(hi:i<3)(hn:d.now i=none):Calls prog 318 #[.pointer (some ⟨D,0,none⟩),.string (CX i)] w fun x w'=>x=.returned (.tuple #[.slice none 0 0,AK 9])/\ZY w w':=by
 obtain⟨m,n,q1,l⟩:=h.c;obtain⟨v,g⟩:=h.look hi
 have b:(Instr.lookup 89 (.map (some bn)) (.string (CX i)) true).run prog w=.ok (.tuple #[v,.bool false]) w:=by
  have:=g 0;rw[hn] at this;exact this
 have t1:=q1.cells.1.1.1.1.2;have t5:=q1.cells.2;rw[f] at t5;have j:=Zz (show AK 9=.iface 32 (.int .i64 9) from Zan (by decide));obtain⟨nm,a⟩:∃nm,nm=CX i:=⟨_,rfl⟩;rw[<-a] at b ⊢;clear h q1 l g hn f hi a
 go_enter func318,ntmps318
 go_wp2_with fail
 go_ret2
 exact⟨by rw[j.o];rfl,Zk _ _⟩
theorem Ke (w:World)(R D bd bn:Nat)(d:Ax)(i:Nat)(h:Av w R D bd bn d)(f:d.down=false)(hi:i<3)(hn:d.now i=none):Calls prog 166 #[By D,.string (CX i)] w fun x w'=>x=.returned (.tuple #[.slice none 0 0,.nilIface])/\ZY w w':=by
 have a:=Zz (PC w R D bd bn d i h f hi hn);rw[show AK 9=.iface 32 (.int .i64 9) from Zan (by decide)] at a;obtain⟨nm,c⟩:∃nm,nm=CX i:=⟨_,rfl⟩;have hm:=VH;unfold By;rw[<-c] at a ⊢;clear h hn f hi c
 go_enter func166,ntmps166
 go_wp2_with (first
  | (go_at_call 318;refine a.o.mono ?_;rintro _ j ⟨rfl,b⟩;have g:=Zz b;clear b)
  | (go_at_call 84;refine (LL 9 _).mono ?_;rintro _ l ⟨rfl,rfl⟩))
 go_ret2
 exact⟨rfl,g.o⟩
def Fq:Value:=.agg #[.int .i64 0,.slice none 0 0,.slice none 0 0]
theorem UQ (h:w.heap[rb]? =some (.cells #[.int .i64 0,.slice none 0 0,.slice none 0 0] 220 (0,0))):(loadVar 220 ⟨rb,0,none⟩).run prog w=.ok Fq w:=by
 have z0:=Zae h 0;have a:=Zae h 1;have z2:=Zae h 2;unfold Fq
 go_simp
theorem Lj (w:World)(R D bd bn:Nat)(d:Ax)(h:Av w R D bd bn d)(I:d.down=false)(hn:∀i,i<3->d.now i=none)(j:Za4 w):Calls prog 120 #[By D] w fun x w'=>x=.returned (.tuple #[Fq,.nilIface])/\ZY w w':=by
 have g:=Zz (show ∀i a,i<3->ZY w a->Calls prog 166 #[By D,.string (CX i)] a fun x w'=>x=.returned (.tuple #[.slice none 0 0,.nilIface])/\ZY a w' from fun i a hi hb=>Ke a R D bd bn d i (h.below hb) I hi (hn i hi));obtain⟨n0,m⟩:∃s,s=CX 0:=⟨_,rfl⟩;obtain⟨n1,n⟩:∃s,s=CX 1:=⟨_,rfl⟩;obtain⟨n2,q⟩:∃s,s=CX 2:=⟨_,rfl⟩
 have l:=Zz (show ∀a,ZY w a->(a.cell? ⟨1,0,none⟩=some (.string n0)/\a.cell? ⟨1,1,none⟩=some (.string n1))/\a.cell? ⟨1,2,none⟩=some (.string n2) from fun a hb=>by
  rw[m,n,q];exact⟨⟨QFa hb (j 0 (by decide)),QFa hb (j 1 (by decide))⟩,QFa hb (j 2 (by decide))⟩)
 have F:=Zz (show ∀a,ZY w a->Calls prog 166 #[By D,.string n0] a fun x w'=>x=.returned (.tuple #[.slice none 0 0,.nilIface])/\ZY a w' from fun a hb=>by rw[m];exact g.o 0 a (by decide) hb);have H1:=Zz (show ∀a,ZY w a->Calls prog 166 #[By D,.string n1] a fun x w'=>x=.returned (.tuple #[.slice none 0 0,.nilIface])/\ZY a w' from fun a hb=>by rw[n];exact g.o 1 a (by decide) hb);have G:=Zz (show ∀a,ZY w a->Calls prog 166 #[By D,.string n2] a fun x w'=>x=.returned (.tuple #[.slice none 0 0,.nilIface])/\ZY a w' from fun a hb=>by rw[q];exact g.o 2 a (by decide) hb);obtain⟨E,r⟩:∃E,E=w.alloc (.cells #[.int .i64 0,.slice none 0 0,.slice none 0 0] 220):=⟨_,rfl⟩;have C:=Zz (show ZY w E from by rw[r];exact ZV.alloc ZU _);have K:=Zz r;obtain⟨H,u⟩:∃H,H=By D:=⟨_,rfl⟩;rw[<-u] at F H1 G ⊢;clear h I hn j m n q g r u
 go_enter func120,ntmps120
 go_wp2_with fail
 go_loopw [4] (fun A wr=>(A=.int .i64 2\/A=.int .i64 1\/A=.int .i64 0)/\ZY w wr/\wr.heap[w.heap.size]? =some (.cells #[.int .i64 0,.slice none 0 0,.slice none 0 0] 220 (0,0))) (fun A _=>(intOf A).toNat)
 case atStart=>exact⟨Zu rfl,by rw[<-K.o];exact C.o,QFm w _⟩
 case round =>
  obtain⟨hi,hb,hf⟩:=hrel;rcases hi with rfl | rfl | rfl
  .obtain⟨⟨q0,q1⟩,J⟩:=l.o wr hb
   have HF:=Zz (Zq hb hf);clear hb hf
   go_wp2_with (first
    | (go_at_call 166;refine (G.o wr HF.o.1).mono ?_;rintro _ t ⟨rfl,b⟩;have c:=Zz b;clear b)
    | (go_at_call 167;refine (Zd7 _).mono ?_;rintro _ w4 ⟨rfl,rfl⟩))
   go_roundw
   case rel=>exact⟨by simp,HF.o.1.trans (c.o.mono HF.o.1.size),(c.o.block _ (Zaa HF.o.2)).trans HF.o.2⟩
   case measure=>decide
  .obtain⟨⟨q0,q1⟩,J⟩:=l.o wr hb
   have HF:=Zz (Zq hb hf);clear hb hf
   go_wp2_with (first
    | (go_at_call 166;refine (H1.o wr HF.o.1).mono ?_;rintro _ t ⟨rfl,b⟩;have c:=Zz b;clear b)
    | (go_at_call 167;refine (Zd7 _).mono ?_;rintro _ w4 ⟨rfl,rfl⟩))
   go_roundw
   case rel=>exact⟨by simp,HF.o.1.trans (c.o.mono HF.o.1.size),(c.o.block _ (Zaa HF.o.2)).trans HF.o.2⟩
   case measure=>decide
  .obtain⟨⟨q0,q1⟩,J⟩:=l.o wr hb
   have HF:=Zz (Zq hb hf);clear hb hf;go_wp2_with (go_at_call 166;refine (F.o wr HF.o.1).mono ?_;rintro _ t ⟨rfl,b⟩;have f:=(b.block _ (Zaa HF.o.2)).trans HF.o.2;have c:=Zz (Zq b f);have L:=Zae f 0;have M:=Zae f 1;have N:=Zae f 2;have f0:t.frozen? ⟨w.heap.size,0,none⟩=false:=(by simp[QHj,f]);have f1:t.frozen? ⟨w.heap.size,1,none⟩=false:=(by simp[QHj,f]);have f2:t.frozen? ⟨w.heap.size,2,none⟩=false:=(by simp[QHj,f]);clear b f)
   have z:(((t.setCell ⟨w.heap.size,0,none⟩ (.int .i64 0)).setCell ⟨w.heap.size,1,none⟩ (.slice none 0 0)).setCell ⟨w.heap.size,2,none⟩ (.slice none 0 0)).heap[w.heap.size]? =some (.cells #[.int .i64 0,.slice none 0 0,.slice none 0 0] 220 (0,0)):=by
    rw[Zab (Zab (Zab c.o.2 _) _) _];rfl
   have y:=UQ z;refine QEz (v:=.tuple #[Fq,.nilIface]) (by rw[QJv rfl];simp[QDt,asAddr,y]) rfl ⟨rfl,?_⟩;have b:ZY w t:=HF.o.1.trans (c.o.1.mono HF.o.1.size);exact ((b.setCell (p:=⟨w.heap.size,0,none⟩) ZU _).setCell (p:=⟨w.heap.size,1,none⟩) ZU _).setCell (p:=⟨w.heap.size,2,none⟩) ZU _
def Jn (D:Nat):Value:=.agg #[By D,.int .i64 0,.int .i64 0,.nilIface]
theorem Rs {D:Nat}(h:w.heap[rb]? =some (.cells #[By D,.int .i64 0,.int .i64 0,.nilIface] 148 (0,0))):(loadVar 148 ⟨rb,0,none⟩).run prog w=.ok (Jn D) w:=by
 have z0:=Zae h 0;have a:=Zae h 1;have z2:=Zae h 2;have z3:=Zae h 3;unfold Jn
 go_simp
theorem Qn (w:World)(R D bd bn M:Nat)(d:Ax)(v1 v2:Value)(h:Av w R D bd bn d)(hw:d.Bz=0)(J:d.synced.down=false)(hn:∀i,i<3->d.synced.now i=none)(hs:Hs d.CH M)(N:∀o∈d.Ap,o.data.length<=M)(hM:M<=1099511627776)(L:Za4 w)(Y:4<D/\4<bd/\4<bn/\4<R) :
  Calls prog 79 #[By D,v1,v2] w fun x w'=>x=.returned (.tuple #[Jn D,.nilIface])/\Av w' R D bd bn d.synced/\DF w w' R D bd bn/\w'.cell? ⟨D,2,none⟩=some (.slice none 0 0):=by
 obtain⟨rb,F⟩:∃rb,rb=w.heap.size:=⟨_,rfl⟩;obtain⟨u,r⟩:∃u,u=w.alloc (.cells #[.nilIface,.int .i64 0,.int .i64 0,.nilIface] 148):=⟨_,rfl⟩;have n:ZY w u:=by rw[r];exact ZV.alloc ZU _
 have q:u.heap[rb]? =some (.cells #[.nilIface,.int .i64 0,.int .i64 0,.nilIface] 148 (0,0)):=by rw[r,F];exact QFm w _
 have h1:=h.below n;obtain⟨pa,pc,dk,_⟩:=h.c;obtain⟨Dd,f3⟩:=h.fd;obtain⟨Dn,f4⟩:=h.fn;have V:=Zaa dk.Au;have X:=f3.lt;have Z:=f4.lt
 have T:=Zz (show Calls prog 320 #[.pointer (some ⟨D,0,none⟩)] u fun x w'=>x=.returned .nilIface/\Av w' R D bd bn d.synced/\DF u w' R D bd bn/\w'.heap[rb]? =some (.cells #[.nilIface,.int .i64 0,.int .i64 0,.nilIface] 148 (0,0))/\Za4 w'/\w'.cell? ⟨D,2,none⟩=some (.slice none 0 0) from by
  refine (Ic u R D bd bn M d h1 hs N hM).mono ?_;rintro x w' ⟨rfl,q1,G,q9⟩;rw[hw,Zaw];refine⟨rfl,q1,G,(G.block rb (Zaa q) (by omega) (by omega) (by omega) (Zj fun ae ag e'=>by rw[q] at e';simp only[QCf,Obj.cells.injEq] at e';exact absurd e'.2.1 (by decide))).trans q,fun i hi=> ?_,q9 hw⟩;have hz:=QFa n (L i hi);have W:1<u.heap.size:=QDv _ _ hz;exact (QEc (a:=⟨1,i,none⟩) (G.block 1 W (by omega) (by omega) (by omega) (Zu (by omega)))).trans hz)
 have I:=Zz (show ∀y,Av y R D bd bn d.synced->Za4 y->Calls prog 120 #[By D] y fun x w'=>x=.returned (.tuple #[Fq,.nilIface])/\ZY y w' from fun y hx hy=>Lj y R D bd bn d.synced hx J hn hy);have Q:=Zz (Zq r (Zq F n));have hm:=Qr;unfold Fq By at I;unfold By;clear h hw J hn hs N hM L Y F r n q h1 dk f3 f4 V X Z
 go_enter func79,ntmps79
 go_upto_region 1 with fail
 rw[<-Q.o.1,<-Q.o.2.1]
 go_upto_region 9 with (first
  | (go_at_call 320;refine T.o.mono ?_;rintro _ y ⟨rfl,q1,G,q3,q4,q5⟩;have z:=Zz (Zq q1 (Zq G (Zq q3 (Zq q4 q5))));clear q1 G q3 q4 q5)
  | (go_at_call 120;refine (I.o y z.o.1 z.o.2.2.2.1).mono ?_;rintro _ S ⟨rfl,A⟩;have K:=(A.block rb (Zaa z.o.2.2.1)).trans z.o.2.2.1;have H:=Zz (Zq A K);clear A K))
 obtain⟨fb,E⟩:∃fb,fb=S.heap.size:=⟨_,rfl⟩;obtain⟨w4,s⟩:∃w4,w4=S.alloc (.cells #[.int .i64 0,.slice none 0 0,.slice none 0 0] 220):=⟨_,rfl⟩;rw[<-s,<-E];have l:ZY S w4:=by rw[s];exact ZV.alloc ZU _
 have b:=(l.block rb (Zaa H.o.2)).trans H.o.2;have C:w4.heap[fb]? =some (.cells #[.int .i64 0,.slice none 0 0,.slice none 0 0] 220 (0,0)):=by rw[s,E];exact QFm S _
 have z0:=Zae C 0;have z2:=Zae C 2;have y0:=Zae b 0;have y1:=Zae b 1;have y2:=Zae b 2;have y3:=Zae b 3;have f0:w4.frozen? ⟨rb,0,none⟩=false:=by simp[QHj,b]
 have f1:w4.frozen? ⟨rb,1,none⟩=false:=by simp[QHj,b]
 have f2:w4.frozen? ⟨rb,2,none⟩=false:=by simp[QHj,b]
 have f3:w4.frozen? ⟨rb,3,none⟩=false:=by simp[QHj,b]
 have j:=Zz (show (loadVar 148 ⟨rb,0,none⟩).run prog ((((w4.setCell ⟨rb,0,none⟩ (By D)).setCell ⟨rb,1,none⟩ (.int .i64 0)).setCell ⟨rb,2,none⟩ (.int .i64 0)).setCell ⟨rb,3,none⟩ .nilIface).drew=.ok (Jn D) ((((w4.setCell ⟨rb,0,none⟩ (By D)).setCell ⟨rb,1,none⟩ (.int .i64 0)).setCell ⟨rb,2,none⟩ (.int .i64 0)).setCell ⟨rb,3,none⟩ .nilIface).drew/\Av ((((w4.setCell ⟨rb,0,none⟩ (By D)).setCell ⟨rb,1,none⟩ (.int .i64 0)).setCell ⟨rb,2,none⟩ (.int .i64 0)).setCell ⟨rb,3,none⟩ .nilIface).drew R D bd bn d.synced/\DF w ((((w4.setCell ⟨rb,0,none⟩ (By D)).setCell ⟨rb,1,none⟩ (.int .i64 0)).setCell ⟨rb,2,none⟩ (.int .i64 0)).setCell ⟨rb,3,none⟩ .nilIface).drew R D bd bn/\((((w4.setCell ⟨rb,0,none⟩ (By D)).setCell ⟨rb,1,none⟩ (.int .i64 0)).setCell ⟨rb,2,none⟩ (.int .i64 0)).setCell ⟨rb,3,none⟩ .nilIface).drew.cell? ⟨D,2,none⟩=some (.slice none 0 0) from by
  have O:(((w4.setCell ⟨rb,0,none⟩ (By D)).setCell ⟨rb,1,none⟩ (.int .i64 0)).setCell ⟨rb,2,none⟩ (.int .i64 0)).setCell ⟨rb,3,none⟩ .nilIface |>.drew.heap[rb]? =some (.cells #[By D,.int .i64 0,.int .i64 0,.nilIface] 148 (0,0)):=by
   show ((((w4.setCell ⟨rb,0,none⟩ (By D)).setCell ⟨rb,1,none⟩ (.int .i64 0)).setCell ⟨rb,2,none⟩ (.int .i64 0)).setCell ⟨rb,3,none⟩ .nilIface).heap[rb]? =_;rw[Zab (Zab (Zab (Zab b _) _) _) _];rfl
  have m:AA w4 ((((w4.setCell ⟨rb,0,none⟩ (By D)).setCell ⟨rb,1,none⟩ (.int .i64 0)).setCell ⟨rb,2,none⟩ (.int .i64 0)).setCell ⟨rb,3,none⟩ .nilIface).drew rb:=(AA.Jo w4 rb _ _ _ _).drew;have p:Av w4 R D bd bn d.synced:=(z.o.1.below H.o.1).below l;obtain⟨pa,pc,dk,_⟩:=p.c;obtain⟨Dd,f3⟩:=p.fd;obtain⟨Dn,f4⟩:=p.fn
  have hm:∀U f Dx,AE w4 U f Dx->U≠rb:=fun U f Dx hx e2=>by
   obtain⟨es,c,e3,_⟩:=hx.own;rw[e2,b] at e3;cases e3
  refine⟨Rs O,p.Ak m.size (m.block D (Zaa dk.Au) (Zah dk.Au b (by decide))) (m.block bd f3.lt (hm _ _ _ f3)) (m.block bn f4.lt (hm _ _ _ f4)) (fun k cs t fr e ht=>m.block k (Zaa e) (Zah e b (by rcases ht with rfl | rfl<;>decide))),?_,(QEc (a:=⟨D,2,none⟩) (m.block D (Zaa dk.Au) (Zah dk.Au b (by decide)))).trans (QFa l (QFa H.o.1 z.o.2.2.2.2))⟩;have g:DF w w4 R D bd bn:=(((DF.Ae R D bd bn Q.o.2.2).trans z.o.2.1).trans (DF.Ae R D bd bn H.o.1)).trans (DF.Ae R D bd bn l);have aj:=Q.o.2.1;exact⟨m.os.trans g.os,m.tape.trans g.tape,m.output.trans g.output,Zv g.size m.size,fun k hk a1 a2 a3 a4=>(m.block k (Zy hk g.size) (by omega)).trans (g.block k hk a1 a2 a3 a4)⟩)
 unfold By at j;clear l b C s E
 go_region_with (go_at_call 121;refine (Pg _ v2).mono ?_;rintro _ w5 ⟨rfl,P⟩;rw[P];clear P)
 all_goals go_wp2_with fail
 all_goals
  refine QEz (v:=.tuple #[Jn D,.nilIface]) (by rw[QJv rfl];simp[QDt,asAddr,j.o.1,Act.put]) rfl ⟨rfl,j.o.2⟩
open Go.RowKit
def PJ:List Value:=[.slice none 0 0,.slice none 0 0,.int .i64 0,.int .i64 0,.slice none 0 0,.int .i64 0,.int .i64 0,.int .u64 0,.map none]
def GH:List Value:=PJ++(QAw 704 (.slice none 0 0)++(QAw 11 (.int .u64 0)++QAw 3 (.int .u64 0)))
theorem Sw (hk:k<704):GH[9+k]? =some (.slice none 0 0):=by
 unfold GH;rw[QBe (show PJ.length<=9+k by show 9<=9+k;omega),show 9+k - PJ.length=k by show 9+k - 9=k;omega,QBg (by simpa using hk),QJz,if_pos hk]
theorem Sx (hk:k<11):GH[713+k]? =some (.int .u64 0):=by
 unfold GH;rw[QBe (show PJ.length<=713+k by show 9<=713+k;omega),show 713+k - PJ.length=704+k by show 713+k - 9=704+k;omega,QBe (by simp),QHp,show 704+k - 704=k by omega,QBg (by simpa using hk),QJz,if_pos hk]
theorem If (hk:k<3):GH[724+k]? =some (.int .u64 0):=by
 unfold GH;rw[QBe (show PJ.length<=724+k by show 9<=724+k;omega),show 724+k - PJ.length=715+k by show 724+k - 9=715+k;omega,QBe (by simp;omega),QHp,show 715+k - 704=11+k by omega,QBe (by simp),QHp,show 11+k - 11=k by omega,QJz,if_pos hk]
theorem Vq {P:Nat}(a:∀j v,GH[j]? =some v->w.cell? ⟨P,4+j,none⟩=some v)(hf:∀o,w.frozen? ⟨P,o,none⟩=false)(f:P<B)(c:B<=w.heap.size)(m:qh<w.heap.size):BE qh w P B none Za1:=by
 have b:∀j v,GH[j]? =some v->w.cell? ⟨P,4+j,none⟩=some v:=a;have nil:∀(t:TypeId) (s:Nat),w.ownsRow B t s (.slice none 0 0) 0 []:=fun t s=>QEj _ _ _ _
 have hp:Bw w P B Ck 0 (.map none) (fun _=> .slice none 0 0) (fun _=>[]) (fun _=>0):=by
  refine⟨a 7 _ rfl,a 8 _ rfl,fun k hk=> ?_,fun k hk=> ?_,hf,fun k _=>QEj _ _ _ _,fun j k _ _ _ z b=>by simp[QCi] at b,f,c,fun k _ z b=>by simp[QCi] at b,fun z b=>by cases b⟩
  .have:=a (9+k) _ (Sw hk)
   rwa[show 4+(9+k)=13+k by omega] at this
  .have:=a (713+k) _ (Sx hk)
   rwa[show 4+(713+k)=717+k by omega] at this
 have e:Zai 0 []=fun _=>[]:=by funext j;rfl
 have hw:Bh w P B Ck 0 []:=by
  refine⟨⟨_,_,fun _=>0,by rw[e];exact hp,Zu ⟨rfl,rfl⟩,?_⟩,by omega,by simp,(fun t h=>by cases h),(fun i hi=>by simp at hi),(fun i j _ g=>by simp at g)⟩;intro L _;refine⟨by show 0<_;decide,fun s _=> ?_⟩;rw[e];simp
 refine⟨[],[],⟨⟨[],0,⟨⟨none,0,⟨a 0 _ rfl,hf,?_,fun i hi=>by simp at hi,fun i j hi=>by simp at hi,fun i j hi=>by simp at hi,f,c,by simp⟩⟩,⟨none,0,0,0,[],⟨a 1 _ rfl,a 2 _ rfl,a 3 _ rfl,hf,nil _ _,rfl,Bt.nil,by omega,f,c⟩,rfl⟩,⟨none,0,0,0,[],⟨a 4 _ rfl,a 5 _ rfl,a 6 _ rfl,hf,nil _ _,rfl,Bt.nil,by omega,f,c⟩⟩,hw,a 724 _ (If (k:=0) (by decide)),a 725 _ (If (k:=1) (by decide)),a 726 _ (If (k:=2) (by decide)),hf,m⟩,rfl,⟨[],rfl,fun i=>by simp[Za1],List.Pairwise.nil⟩⟩,rfl,fun i hi=>by simp[Za1] at hi⟩,?_⟩
 .exact nil _ _
 .exact⟨fun i j hi g=>by simp at g,fun d l=>by simp[Za1,Ab.AS] at l,fun t h=>by cases h⟩
