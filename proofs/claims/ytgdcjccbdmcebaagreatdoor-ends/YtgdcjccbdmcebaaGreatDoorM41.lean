import Derived.Test.YtgdcjccbdmcebaaGreatDoorM40
set_option linter.unusedSimpArgs false
set_option linter.unusedVariables false
set_option maxHeartbeats 8000000
set_option maxRecDepth 100000
open Go.Proofs.Tryz
namespace Go.Proofs.YtgdcjccbdmcebaaGreatDoor
open Go.RowKit
attribute [local go_sem ↓] Go.wp_at_zero Go.wp_at_succ
variable {ob:Option Nat}{w':World}
theorem AK.one {w:World}{P B R D bd bn rb:Nat}{g:AS}{d:Ay}{e:Ab}(h:AK w P B R D bd bn ob g d e)(b:Ax w w' rb)(s:P≠rb)(x:∃cs fr,w.heap[rb]? =some (.cells cs 48 fr))(E:4<rb):AK w' P B R D bd bn ob g d e:=by
 obtain⟨A,C⟩:=h.pl;have v:=h.ne.l.gl;have n:P<w.heap.size:=by omega
 obtain⟨rs,l,p,o⟩:=h.kp;obtain⟨cs,fr,j⟩:=x;obtain⟨F,G,dk,_⟩:=h.dk.c;obtain⟨y,f3⟩:=h.dk.fd;obtain⟨z,f4⟩:=h.dk.fn
 have hm:∀m f q,AB w m f q->m≠rb:=fun m f q p u=>by
  obtain⟨es,c,r,_⟩:=p.own;rw[u,j] at r;cases r
 refine⟨⟨rs,l,p.one b s ⟨cs,fr,j⟩,o⟩,h.log.at_ (b.block P n s),h.dk.Aj b.size (b.block D (Zaa dk.Au) (Zai dk.Au j (by decide))) (b.block bd f3.lt (hm _ _ _ f3)) (b.block bn f4.lt (hm _ _ _ f4)) (fun k cs t fr e o=>b.block k (Zaa e) (Zai e j (by rcases o with rfl | rfl<;>decide))),fun i hi=> ?_,h.Je.at_ (b.block _ (by omega) (by omega)),h.ne⟩;have e:=b.block 1 (by omega) (by omega);exact (World.cell?_of_block (a:=⟨1,i,none⟩) e).trans (h.nm i hi)
theorem EF.one {w c:World}{P B R D bd bn rb:Nat}(h:EF w c P B R D bd bn ob)(a:Ax c w' rb)(l:w.heap.size<=rb):EF w w' P B R D bd bn ob :=
 ⟨a.os.trans h.os,a.tape.trans h.tape,a.output.trans h.output,Zv h.size a.size,fun k b d e f g i j=>(a.block k (Zy b h.size) (by omega)).trans (h.block k b d e f g i j)⟩
def DY (B0:Nat)(w':World)(e:Ab)(id:Int)(v:Value)(er:Int):Prop :=
 (e.find id=none/\v=IK 0 0 (.slice none 0 0) (.slice none 0 0)/\er=6)\/∃i a1 a2 c1 c2,e.find id=some i/\er=0/\v=IK id (e.at_ i).st (.slice a1 (e.at_ i).steps.length c1) (.slice a2 (e.at_ i).steps.length c2)/\w'.ownsRow B0 3 1 (.slice a1 (e.at_ i).steps.length c1) (e.at_ i).steps.length ((e.at_ i).sts.map (Value.int .i64))/\w'.ownsRow B0 3 1 (.slice a2 (e.at_ i).steps.length c2) (e.at_ i).steps.length ((e.at_ i).trs.map (Value.int .i64))
theorem DY.form {B0:Nat}{e:Ab}{id:Int}{v:Value}{b:Int}(h:DY B0 w' e id v b):∃a st a1 n1 c1 a2 n2 c2,v= .agg #[.int .u64 a, .int .i64 st, .slice a1 n1 c1, .slice a2 n2 c2]:=by
 rcases h with⟨_,rfl,_⟩ | ⟨i,a1,a2,c1,c2,_,_,rfl,_⟩
 ·exact⟨_,_,_,_,_,_,_,_,rfl⟩
 ·exact⟨_,_,_,_,_,_,_,_,rfl⟩
theorem PW (w:World)(P B R D bd bn:Nat)(ob:Option Nat)(g:AS)(d:Ay)(e:Ab)(id:Int)(h:AK w P B R D bd bn ob g d e) :
  Calls prog 73 #[.pointer (some ⟨P,0,none⟩), .int .u64 id] w fun x w'=>∃v l,x= .returned (.tuple #[v,AH l])/\DY w.heap.size w' e id v l/\Below w.heap.size w w':=by
 obtain⟨b,f⟩:∃b,b=w.alloc (.cells #[.int .u64 0, .int .i64 0, .slice none 0 0, .slice none 0 0] 50):=⟨_,rfl⟩;obtain⟨rb,r⟩:∃rb,rb=w.heap.size:=⟨_,rfl⟩;have q:Below w.heap.size w b:=by rw[f];exact (Zk _ _).alloc (Zx _) _
 have m:BC b rb 0 0 (.slice none 0 0) (.slice none 0 0):=⟨by rw[f,r];exact heap_alloc_new w _⟩
 have M:=Zz (show Calls prog 115 #[.pointer (some ⟨P,4,none⟩), .int .u64 id] b fun x w'=>∃v l,x= .returned (.tuple #[v,AH l])/\DY b.heap.size w' e id v l/\Below b.heap.size b w' from by
  refine (Qo b P B ob e id (h.kp.below q)).mono ?_;rintro x w' ⟨⟨hf,rfl⟩ | ⟨i,a1,a2,c1,c2,hf,rfl,r1,r2⟩,s⟩
  ·exact⟨_,6,rfl,Zu ⟨hf,rfl,rfl⟩,s⟩
  ·exact⟨_,0,by rw[Zaw],Zj ⟨i,a1,a2,c1,c2,hf,rfl,rfl,r1,r2⟩,s⟩)
 have k:=Zz (Zq m (Zq q (Zq r f)));clear h f r q m
 go_enter func73,ntmps73
 go_upto_region 1 with fail
 rw[<-k.o.2.2.1,<-k.o.2.2.2]
 go_wp2_with (first
  | (go_at_call 107;refine (Zci _ P).mono ?_;rintro _ S ⟨rfl,H⟩;rw[H])
  | (go_at_call 115;refine M.o.mono ?_;rintro _ K ⟨v,l,rfl,G,s⟩;obtain⟨j,st,a1,n1,c1,a2,n2,c2,rfl⟩:=G.form;have L:=Zz (Zq G s);have y:=k.o.1.at_ (s.block rb (Zaa k.o.1.Au));have t:=Zz y;obtain⟨⟨⟨f0,f1⟩,f2⟩,f3⟩:=y.AE;obtain⟨⟨⟨z0,T⟩,z2⟩,z3⟩:=y.cells;clear G s y))
 (try simp only[Exit.inBlock,Exit.then])
 have u:=GN (t.o.set _ _ j st (.slice a1 n1 c1) (.slice a2 n2 c2));have c:=k.o.2.2.1;have F:Below w.heap.size w ((((K.setCell ⟨rb,0,none⟩ (.int .u64 j)).setCell ⟨rb,1,none⟩ (.int .i64 st)).setCell ⟨rb,2,none⟩ (.slice a1 n1 c1)).setCell ⟨rb,3,none⟩ (.slice a2 n2 c2)):=((((k.o.2.1.trans (L.o.2.mono k.o.2.1.size)).setCell (p:=⟨rb,0,none⟩) (Nat.le_of_eq c.symm) _).setCell (p:=⟨rb,1,none⟩) (Nat.le_of_eq c.symm) _).setCell (p:=⟨rb,2,none⟩) (Nat.le_of_eq c.symm) _).setCell (p:=⟨rb,3,none⟩) (Nat.le_of_eq c.symm) _;refine bodyPost_ret (v:= .tuple #[.agg #[.int .u64 j, .int .i64 st, .slice a1 n1 c1, .slice a2 n2 c2],AH l]) (by rw[results_cell_tmp rfl];simp[Result.andThen,asAddr,u]) rfl ?_;refine⟨_,l,rfl,?_,F⟩
 have a:∀{B0 n:Nat} {x:Value} {xs:List Value},K.ownsRow b.heap.size 3 1 x n xs->((((K.setCell ⟨rb,0,none⟩ (.int .u64 j)).setCell ⟨rb,1,none⟩ (.int .i64 st)).setCell ⟨rb,2,none⟩ (.slice a1 n1 c1)).setCell ⟨rb,3,none⟩ (.slice a2 n2 c2)).ownsRow w.heap.size 3 1 x n xs:=fun N =>
  Zcr (Zae (Zae (Zae (Zae N t.o.Au (by decide) _) (Zab t.o.Au _) (by decide) _) (Zab (Zab t.o.Au _) _) (by decide) _) (Zab (Zab (Zab t.o.Au _) _) _) (by decide) _) k.o.2.1.size
 rcases L.o.1 with⟨q1,I,J⟩ | ⟨i,z,A,C,E,q1,I,J,O,Q⟩
 ·exact Zu ⟨q1,I,J⟩
 ·exact Zj ⟨i,z,A,C,E,q1,I,J,a (B0:=0) O,a (B0:=0) Q⟩
def Lq (g:AS)(d:Ay)(e:Ab)(x:Value)(g':AS)(d':Ay)(e':Ab):Prop :=
 (e.Bk=none/\x= .tuple #[KQ, .bool false, .nilIface]/\g'=g/\d'=d/\e'=e)\/∃p t tk e2 v,e.Bk=some (p,t,tk,e2)/\x=OZ p t tk v/\v=Ea g d (AX 2 [] 0)/\g'=FH g d (AX 2 [] 0)/\d'=CO g d (AX 2 [] 0)/\e'=if v=0 then e2 else e
theorem QL (p:AZ)(t d v:Int):∃a b c f x y,OZ p t d v= .tuple #[.agg #[.int .u64 a, .int .i64 b, .int .i64 c, .int .u64 f], .bool x,y]/\(y= .nilIface\/∃ty z,y= .iface ty z):=by
 unfold OZ
 split
 ·exact⟨_,_,_,_,_,_,rfl,Zu rfl⟩
 ·exact⟨_,_,_,_,_,_,rfl,Fm v⟩
theorem Lq.form {g i:AS}{d d':Ay}{e e':Ab}{x:Value}(h:Lq g d e x i d' e'):∃a b c f y z,x= .tuple #[.agg #[.int .u64 a, .int .i64 b, .int .i64 c, .int .u64 f], .bool y,z]/\(z= .nilIface\/∃ty u,z= .iface ty u):=by
 rcases h with⟨_,rfl,_⟩ | ⟨p,t,j,k,v,_,rfl,_⟩
 ·exact⟨0,0,0,0,false, .nilIface,rfl,Zu rfl⟩
 ·exact QL p t j v
theorem SG (w:World)(P B R D bd bn M:Nat)(ob:Option Nat)(g:AS)(d:Ay)(e:Ab)(h:AK w P B R D bd bn ob g d e)(ok:Ak e)(AQ:AD e)(f:Fit g d M) :
  Calls prog 102 #[.pointer (some ⟨P,0,none⟩)] w fun x w'=>∃v E d' e' j,x= .returned v/\Lq g d e v E d' e'/\AK w' P B R D bd bn j E d' e'/\As w ob j/\EF w w' P B R D bd bn ob:=by
 obtain⟨K,u⟩:∃K,K=w.alloc (.cells #[.int .u64 0, .int .i64 0, .int .i64 0, .int .u64 0] 48):=⟨_,rfl⟩;obtain⟨rb,G⟩:∃rb,rb=w.heap.size:=⟨_,rfl⟩;have r:Below w.heap.size w K:=by rw[u];exact (Zk _ _).alloc (Zx _) _
 have k:Dg K rb 0 0 0 0:=⟨by rw[u,G];exact heap_alloc_new w _⟩;have T:=h.pl;have Q:=h.ne.l.gl
 have HK:=Zz (show ∀m xb X,Below K.heap.size K m->m.heap[xb]? =some (.cells #[.pointer (some ⟨P,0,none⟩)] 93 (0,0))->m.heap[X]? =some (.cells #[.int .i64 2, .int .u64 0, .string ⟨#[]⟩] 29 (0,0))->Calls prog 129 #[.pointer (some ⟨P,4,none⟩), .func (.func 149) #[] #[.pointer (some ⟨xb,0,none⟩), .pointer (some ⟨X,0,none⟩)]] m fun x w'=>∃v E d' e' j,x= .returned v/\Lq g d e v E d' e'/\AK w' P B R D bd bn j E d' e'/\As w ob j/\EF w w' P B R D bd bn ob/\Dg w' rb 0 0 0 0 from fun m xb X L J Z=>by
  have q:Below w.heap.size w m:=r.trans (L.mono r.size);have F:=h.below q;have i:Dg m rb 0 0 0 0:=k.at_ (L.block rb (Zaa k.Au));have hk:=ER (op:=2) (N:=0) (data:=[]) (F.ok f) h.ne (by decide) (by decide) EG (Nat.zero_le _) J (by rw[<-Fy];exact Z);refine (LP m P B ob e _ _ F.kp ok.wk hk (Zd6 AQ.lr) AQ.lt).mono ?_;rintro x w' (⟨q1,rfl,C⟩ | ⟨p,t,tk,Y,v,H,av,q1,rfl,C,q3,q4,q5⟩)
  ·exact⟨_,g,d,e,ob,rfl,Zu ⟨q1,rfl,rfl,rfl,rfl⟩,F.below C,As.refl _ _,EF.Ae P B R D bd bn ob (q.trans (C.mono q.size)),i.at_ (C.block rb (Zaa i.Au))⟩
  ·obtain⟨aw,au,kk,_⟩:=C
   have C:BX P B ob (KpL m P R D bd bn g d (AX 2 [] 0)) e Y v H:=⟨aw,au,kk,by assumption⟩;obtain⟨k1,⟨j,k2,k3⟩,k4⟩:=h.kept q C;have W:=Zaa i.Au;have ay:=q.size;have aj:rb≠av:=by omega
   have ag:EF m H P B R D bd bn ob:=(F.kept (Zk _ _) C).2.2
   have U:H.heap[rb]? =m.heap[rb]? :=by
    obtain⟨pa,pc,dk,_⟩:=F.dk.c;obtain⟨Dd,f3⟩:=F.dk.fd;obtain⟨Dn,f4⟩:=F.dk.fn
    have hm:∀bm f Dx,AB m bm f Dx->rb≠bm:=fun bm f Dx J Y=>by
     obtain⟨es,c,e3,_⟩:=J.own;rw[<-Y,i.Au] at e3;cases e3
    exact ag.block rb W (by omega) (Zai i.Au dk.Au (by decide)) (hm _ _ _ f3) (hm _ _ _ f4) (Zj (fun cs fr e=>by rw[i.Au] at e;simp only[Option.some.injEq,Obj.cells.injEq] at e;exact absurd e.2.1 (by decide))) (Zj ⟨_,_,_,i.Au,by decide,by decide,by decide,by decide,by decide,fun x=>absurd x (by decide)⟩)
   have A:Dg H rb 0 0 0 0:=i.at_ U;exact⟨_,_,_,_,j,rfl,Zj ⟨p,t,tk,Y,v,q1,rfl,k1,rfl,rfl,rfl⟩,k2.one q3 (by omega) q5 (by omega),k3,k4.one q3 (by omega),A.at_ (q3.block rb (Zaa A.Au) aj)⟩)
 have n:=Zz (Zq k (Zq r (Zq G (Zq u (Zq T Q)))));clear h ok AQ f u G r k T Q
 go_enter func102,ntmps102
 go_upto_region 1 with fail
 rw[<-n.o.2.2.1,<-n.o.2.2.2.1]
 go_wp2_with (first
  | (go_at_call 107;refine (Zci _ P).mono ?_;rintro _ w1 ⟨rfl,ar⟩;rw[ar])
  | (go_at_call 109;refine (Zej _ P 2 0 ⟨#[]⟩).mono ?_;rintro _ m ⟨xb,X,rfl,J,Z,L⟩;have HC:=Zz (Zq L (Zq J Z));clear J Z L)
  | (go_at_call 129;refine (HK.o _ _ _ HC.o.1 HC.o.2.1 HC.o.2.2).mono ?_;rintro _ H ⟨v,E,d',e',j,rfl,hp,h3,S,O,s⟩;obtain⟨a,b,c,fx,y,z,rfl,hz⟩:=hp.form;have I:=Zz (Zq hp (Zq h3 (Zq S (Zq O s))));obtain⟨⟨⟨f0,f1⟩,f2⟩,f3⟩:=s.AE;obtain⟨⟨⟨z0,z1⟩,z2⟩,z3⟩:=s.cells;clear hp h3 S O s))
 have V:=Fh (I.o.2.2.2.2.set a b c fx);have ax:=n.o.1;have hP:P≠rb:=by have:=n.o.2.2.2.2.1;have:=n.o.2.2.1;omega
 have al:4<rb:=by have:=n.o.2.2.2.2.2;have:=n.o.2.2.2.2.1;have:=n.o.2.2.1;omega
 have hw:=n.o.2.2.2.1;have ae:=I.o.2.2.2.2.Au;refine bodyPost_ret (v:= .tuple #[.agg #[.int .u64 a, .int .i64 b, .int .i64 c, .int .u64 fx], .bool y,z]) (by rw[Zbn rfl];simp[Result.andThen,asAddr,V]) rfl ?_;exact⟨_,E,d',e',j,rfl,I.o.1,I.o.2.1.one (Ax.Iq H rb _ _ _ _) hP ⟨_,_,ae⟩ al,I.o.2.2.1,I.o.2.2.2.1.one (Ax.Iq H rb _ _ _ _) (by have:=n.o.2.2.2.2.1;have:=n.o.2.2.1;omega)⟩
def Up (B0:Nat)(w':World)(g:AS)(d:Ay)(e:Ab)(l:List Int)(x:Value)(g':AS)(d':Ay)(e':Ab):Prop :=
 (∃(x0 y:Int) (q:Nat),x0≠0/\Cn l.length (fun k=>(l.getD k 0).toNat) x0 y Gn/\x= .tuple #[.int .u64 0, .iface 172 (.pointer (some ⟨q,0,none⟩))]/\Ba w' q x0 y/\q<w'.heap.size/\B0<=q/\g'=g/\d'=d/\e'=e) \/
 (∃(y er:Int),Cn l.length (fun k=>(l.getD k 0).toNat) 0 y (Zah l.length (fun k=>(l.getD k 0).toNat))/\JG g d e (AX 1 l 0) 5 (e.AN (Zah l.length (fun k=>(l.getD k 0).toNat))) er g' d' e'/\x= .tuple #[.int .u64 (if er=0 then e.Ah+1 else 0),AH er])
theorem Cn.ok {n:Nat}{f:Nat->Nat}{y:Int}{G:Ad}(h:Cn n f 0 y G):BQ (Zah n f):=by
 rcases h with⟨s,_,a,_⟩ | ⟨p,s,_,_,a,_⟩ | ⟨p,s,_,_,g,_⟩
 ·exact absurd a (by decide)
 ·exact absurd a (by decide)
 ·rcases g with⟨a,_⟩ | ⟨a,_⟩ | ⟨a,_⟩ | ⟨a,_⟩ | ⟨_,_,d,c,e⟩
  ·exact absurd a (by decide)
  ·exact absurd a (by decide)
  ·exact absurd a (by decide)
  ·exact absurd a (by decide)
  ·exact⟨d,fun j b=>(c j b).1,fun j b=>(c j b).2,e⟩
theorem Oe (w:World)(P B R D bd bn M B0:Nat)(ob:Option Nat)(g:AS)(d:Ay)(e:Ab)(l:List Int)(a:Option Addr)(c:Nat)(h:AK w P B R D bd bn ob g d e)(ok:Ak e)(AQ:AD e)(f:Fit g d M)(V:Al B0 w (.slice a l.length c) l)(hl:BB l)(aj:l.length<=900000) :
  Calls prog 101 #[.pointer (some ⟨P,0,none⟩), .slice a l.length c] w fun x w'=>∃v G d' e' s,x= .returned v/\Up w.heap.size w' g d e l v G d' e'/\AK w' P B R D bd bn s G d' e'/\As w ob s/\EF w w' P B R D bd bn ob:=by
 obtain⟨a1,c1,e1,_,ha,U,_,av⟩:=Md V hl;obtain⟨rfl,rfl⟩:a=a1/\c=c1:=by simpa using e1
 have ax:=h.ne.l.gl;have ay:=h.pl
 have S:=Zz (show Calls prog 126 #[.slice a l.length c] w fun x w'=>((∃(dl:Int) (I:Nat) (u:Option Addr) (lc:Nat),x= .returned (.tuple #[.agg #[.int .i64 dl, .slice u I lc], .nilIface])/\∃(y:Int) (C:Nat->Option Addr) (E:Nat->Nat),Cn l.length (fun k=>(l.getD k 0).toNat) 0 y (Zah l.length (fun k=>(l.getD k 0).toNat))/\dl=(Zah l.length (fun k=>(l.getD k 0).toNat)).dl/\I=(Zah l.length (fun k=>(l.getD k 0).toNat)).n/\An w.heap.size w' (Zah l.length (fun k=>(l.getD k 0).toNat)) (.slice u (Zah l.length (fun k=>(l.getD k 0).toNat)).n lc) (Zah l.length (fun k=>(l.getD k 0).toNat)).n C E)\/(∃(q:Nat),x= .returned (.tuple #[.agg #[.int .i64 0, .slice none 0 0], .iface 172 (.pointer (some ⟨q,0,none⟩))])/\∃(X y:Int),X≠0/\Cn l.length (fun k=>(l.getD k 0).toNat) X y Gn/\Ba w' q X y/\q<w'.heap.size/\w.heap.size<=q))/\Below w.heap.size w w' from by
  refine (IH w a l.length c (fun k=>(l.getD k 0).toNat) (by unfold maxLen;omega) h.Je (by omega) ha U).mono ?_;rintro x A ⟨⟨y,u,lc,C,E,b,rfl,z⟩ | ⟨X,y,q,b9,b,rfl,aw,hq,az⟩,t⟩
  ·exact⟨Zu ⟨_,_,u,lc,rfl,y,C,E,b,rfl,rfl,z⟩,t⟩
  ·exact⟨Zj ⟨q,rfl,X,y,b9,b,aw,hq,az⟩,t⟩)
 obtain⟨sd,W⟩:∃sd,sd=Zbm l:=⟨_,rfl⟩;obtain⟨n,hn⟩:∃n,n=l.length:=⟨_,rfl⟩
 have ae:=Zz (show ∀j,Below w.heap.size w j->(convert 112 9 (.slice a n c)).run prog j= .ok (.string sd) j from fun j m=>by
  rw[hn,W];rcases V.2 with⟨x,x2⟩ | ⟨g1,cap,cur,x,hg,hh,r⟩
  ·have bf:l=[]:=List.length_eq_zero_iff.1 x2
   simp only[Value.slice.injEq] at x;obtain⟨rfl,_,rfl⟩:=x;rw[bf];exact KD j
  ·simp only[Value.slice.injEq] at x
   obtain⟨rfl,_,rfl⟩:=x;exact FP (fun k hk=>(m.cell (p:=⟨g1,k,none⟩) (Zaa hh)).trans (World.ownsRow.cellAt V k (by omega))))
 have HK:=Zz (show ∀(j:World) (Q J:Nat) (u:Option Addr) (lc:Nat) (C:Nat->Option Addr) (E:Nat->Nat) (y:Int),Below w.heap.size w j->Cn n (fun k=>(l.getD k 0).toNat) 0 y (Zah n (fun k=>(l.getD k 0).toNat))->An w.heap.size j (Zah n (fun k=>(l.getD k 0).toNat)) (.slice u (Zah n (fun k=>(l.getD k 0).toNat)).n lc) (Zah n (fun k=>(l.getD k 0).toNat)).n C E->j.heap[Q]? =some (.cells #[.pointer (some ⟨P,0,none⟩)] 93 (0,0))->j.heap[J]? =some (.cells #[.int .i64 1, .int .u64 0, .string sd] 29 (0,0))->Calls prog 127 #[.pointer (some ⟨P,4,none⟩), .agg #[.int .i64 (Zah n (fun k=>(l.getD k 0).toNat)).dl, .slice u (Zah n (fun k=>(l.getD k 0).toNat)).n lc], .func (.func 149) #[] #[.pointer (some ⟨Q,0,none⟩), .pointer (some ⟨J,0,none⟩)]] j fun x w'=>∃i Y G d' e' s,x= .returned (.tuple #[.int .u64 i,AH Y])/\Up w.heap.size w' g d e l (.tuple #[.int .u64 i,AH Y]) G d' e'/\AK w' P B R D bd bn s G d' e'/\As w ob s/\EF w w' P B R D bd bn ob from fun j Q J u lc C E y L b z H Z=>by
  rw[hn] at b z ⊢;have h2:=h.below L;have hk:=ER (op:=1) (N:=0) (data:=l) (h2.ok f) h.ne (by decide) (by decide) hl aj H (by rw[<-W];exact Z);refine (IM j P B ob e _ u lc C E _ _ h2.kp ok b.ok (z.base h.pl.2) hk AQ.lr).mono ?_;rintro x w' (⟨q1,rfl,q2⟩ | ⟨v,e2,q1,rfl,q2⟩)
  ·exact⟨0,5,g,d,e,ob,rfl,Zj ⟨y,5,b,Zu ⟨q1,rfl,rfl,rfl,rfl⟩,rfl⟩,h2.below q2,As.refl _ _,EF.Ae P B R D bd bn ob (L.trans (q2.mono L.size))⟩
  ·obtain⟨k1,⟨s,k2,k3⟩,k4⟩:=h.kept L q2
   exact⟨_,v,_,_,_,s,rfl,Zj ⟨y,v,b,Zj ⟨e2,q1,k1,rfl,rfl,rfl⟩,rfl⟩,k2,k3,k4⟩)
 have HR:=Zz (Zq hn h);obtain⟨bs,au⟩:∃bs,bs=a:=⟨_,rfl⟩
 have ag:=Zz (show ∀(dl:Int) (I:Nat) (u:Option Addr) (lc:Nat) (A:World),(∃(y:Int) (C:Nat->Option Addr) (E:Nat->Nat),Cn l.length (fun k=>(l.getD k 0).toNat) 0 y (Zah l.length (fun k=>(l.getD k 0).toNat))/\dl=(Zah l.length (fun k=>(l.getD k 0).toNat)).dl/\I=(Zah l.length (fun k=>(l.getD k 0).toNat)).n/\An w.heap.size A (Zah l.length (fun k=>(l.getD k 0).toNat)) (.slice u (Zah l.length (fun k=>(l.getD k 0).toNat)).n lc) (Zah l.length (fun k=>(l.getD k 0).toNat)).n C E)->Below w.heap.size w A->∀(j:World) (Q J:Nat),Below A.heap.size A j->j.heap[Q]? =some (.cells #[.pointer (some ⟨P,0,none⟩)] 93 (0,0))->j.heap[J]? =some (.cells #[.int .i64 1, .int .u64 0, .string sd] 29 (0,0))->Calls prog 127 #[.pointer (some ⟨P,4,none⟩), .agg #[.int .i64 dl, .slice u I lc], .func (.func 149) #[] #[.pointer (some ⟨Q,0,none⟩), .pointer (some ⟨J,0,none⟩)]] j fun x w'=>∃i Y G d' e' s,x= .returned (.tuple #[.int .u64 i,AH Y])/\Up w.heap.size w' g d e l (.tuple #[.int .u64 i,AH Y]) G d' e'/\AK w' P B R D bd bn s G d' e'/\As w ob s/\EF w w' P B R D bd bn ob from by
  rintro dl I u lc A ⟨y,C,E,b,rfl,rfl,z⟩ t j Q J m H Z;rw[hn] at HK;exact HK.o j Q J u lc C E y (t.trans (m.mono t.size)) b (z.below m) H Z)
 rw[<-hn] at S ag ⊢;clear h ok AQ f V hl aj av ha U e1 hn W ay ax HK au
 go_enter func101,ntmps101
 go_upto_region 4 with (go_at_call 126;refine S.o.mono ?_;rintro _ A ⟨⟨dl,I,u,lc,rfl,H⟩ | ⟨q,rfl,H⟩,t⟩<;>have T:=Zz (Zq H t)<;>clear H t)
 ·obtain⟨j,F⟩:∃j,j=A.alloc (.cells #[.int .i64 dl, .slice u I lc] 61):=⟨_,rfl⟩
  obtain⟨fb,O⟩:∃fb,fb=A.heap.size:=⟨_,rfl⟩;rw[<-F,<-O];have m:Below A.heap.size A j:=by rw[F];exact (Zk _ _).alloc (Zx _) _
  have K:j.heap[fb]? =some (.cells #[.int .i64 dl, .slice u I lc] 61 (0,0)):=by rw[F,O];exact heap_alloc_new A _
  have z0:j.cell? ⟨fb,0,none⟩=some (.int .i64 dl):=by unfold World.cell?;rw[K];rfl
  have z1:j.cell? ⟨fb,1,none⟩=some (.slice u I lc):=by unfold World.cell?;rw[K];rfl
  have bh:=ae.o j (T.o.2.trans (m.mono T.o.2.size));have bj:=ae.o j.drew ((T.o.2.trans (m.mono T.o.2.size)).drew);have HB:=Zz (Zq m (Zq F (Zq O K)));clear m F O K
  go_region_with (first
   | (go_at_call 107;refine (Zci _ P).mono ?_;rintro _ w3 ⟨rfl,al⟩;rw[al];clear al)
   | (go_at_call 109;refine (Zej _ P 1 0 sd).mono ?_;rintro _ w4 ⟨Q,J,rfl,H,Z,U⟩;have y0:=cell_later U z0;have y1:=cell_later U z1;have HC:=Zz (Zq U (Zq H Z));clear H Z U)
   | (go_at_call 127;refine (ag.o _ _ _ _ _ T.o.1 T.o.2 _ _ _ (Below.trans (HB.o.1.drew) (HC.o.1.mono HB.o.1.size)) HC.o.2.1 HC.o.2.2).mono ?_;rintro _ w5 ⟨i,Y,G,d',e',s,rfl,V⟩;have ar:=Zz V;clear V))
  all_goals go_wp2_with fail
  all_goals go_ret2
  all_goals exact⟨_,G,d',e',s,rfl,ar.o⟩
 ·go_ret2
  obtain⟨⟨X,y,h1,h2,h3,h4,h5⟩,t⟩:=T.o;obtain⟨hn,h⟩:=HR.o;have m:Below w.heap.size w (A.alloc (.cells #[.int .i64 0, .slice none 0 0] 61)):=t.alloc t.size _;exact⟨_,g,d,e,ob,rfl,Zu ⟨X,y,q,h1,by rw[<-hn];exact h2,rfl,h3.Aj h4 ((Zk _ _).alloc (Zx _) _),by simp;omega,h5,rfl,rfl,rfl⟩,h.below m,As.refl _ _,EF.Ae P B R D bd bn ob m⟩
end Go.Proofs.YtgdcjccbdmcebaaGreatDoor
