import Derived.Test.YtgdcjccbdmcebaaGreatDoorM43
import Derived.Test.YtgdcjccbdmcebaaGreatDoorM47
import Derived.Lib.ConvBytes
set_option linter.unusedSimpArgs false
set_option linter.unusedVariables false
set_option maxHeartbeats 4000000
set_option maxRecDepth 100000
open Go.Proofs.Tryz
namespace Go.Proofs.YtgdcjccbdmcebaaGreatDoor
open Go.RowKit
attribute [local go_sem ↓] Go.wp_at_zero Go.wp_at_succ
structure RvN (w:World)(P B:Nat):Prop where
 pb:P<B
 bs:B<=w.heap.size
 Je:AL w
 tb:2<B
 tp:2≠P
theorem RvN.kf {w w':World}{P B:Nat}{ob:Option Nat}(h:RvN w P B)(hf:KF w w' P B ob):RvN w' P B :=
 ⟨h.pb,Zv h.bs hf.size,h.Je.at_ (hf.block _ (Zy h.tb h.bs) h.tp (Zu h.tb)),h.tb,h.tp⟩
theorem Mc (op:Int)(l:List Int):(AX op l 0).length=l.length+1:=by
 unfold AX;rw[Zdz];simp
theorem Zec (op:Int)(n:Nat):(AX op [] n).length=(Ct n).length+1:=by
 unfold AX;simp
theorem QS (w:World)(P B b o c:Nat)(ob:Option Nat)(e f:Ab)(l:List Int)(h:BY w P B ob e)(ok:Ak e)(AQ:AD e)(m:Ew e l f)(hl:l.length<=900001)(hn:RvN w P B)(a:Aw w (some ⟨b,o,none⟩) l.length c (BV l)) :
  Calls prog 81 #[.pointer (some ⟨P,4,none⟩), .slice (some ⟨b,o,none⟩) l.length c] w fun x w'=>x= .returned (.tuple #[])/\Jq w w' P B ob f:=by
 have i:P<w.heap.size:=Zy hn.pb hn.bs;have g:=Zy hn.tb hn.bs
 cases m with
 | AN k j he =>
  rw[Mc] at hl a ⊢;exact ZB w P B b o c ob e f _ h ok AQ k he (by omega) a hn.pb hn.bs hn.Je g
 | Bk he =>
  rw[Mc] at hl a ⊢;exact ZC w P B b o c ob e f h ok AQ he a i
 | BZ d he =>
  rw[Zec] at hl a ⊢;exact ZD w P B b o c _ ob e f h ok AQ d he a
 | complete d he =>
  rw[Zec] at hl a ⊢;exact ZE w P B b o c _ ob e f h ok AQ d he a
 | fail d he =>
  rw[Zec] at hl a ⊢;exact ZF w P B b o c _ ob e f h ok AQ d he a
 | cancel d he =>
  rw[Zec] at hl a ⊢;exact ZG w P B b o c _ ob e f h ok AQ d he a
 | tick d he =>
  rw[Zec] at hl a ⊢;exact ZH w P B b o c _ ob e f h ok AQ d he hn.Je g hn.tb hn.tp a
 | At d =>
  rw[Zec] at hl a ⊢;exact ZI w P B b o c _ ob e _ h ok AQ d rfl a
theorem Dc.grows {e a:Ab}{b:List (List Int)}(h:Dc e b a)(ok:Ak e)(c:0<=e.At/\e.At<18446744073709551616):Ak a/\e.Ah<=a.Ah/\e.Ai<=a.Ai/\0<=a.At/\a.At<18446744073709551616:=by
 induction h with
 | nil e=>exact⟨ok,Int.le_refl _,Int.le_refl _,c⟩
 | cons j _ k =>
  obtain⟨a1,a2,a3,a4⟩:=j.ok ok;obtain⟨d,f,g,i⟩:=k a1 (a4 c);exact⟨d,Int.le_trans a2 f,Int.le_trans a3 g,i⟩
theorem Dc.AQ {e c:Ab}{a:List (List Int)}(h:Dc e a c)(ok:Ak e)(b:0<=e.At/\e.At<18446744073709551616)(AQ:AD c):AD e:=by
 obtain⟨_,d,f,_⟩:=h.grows ok b;exact⟨Int.lt_of_le_of_lt d AQ.lr,Int.lt_of_le_of_lt f AQ.lt,b.1,b.2⟩
structure Sk (w:World)(P:Nat)(b:Nat):Prop where
 ne:b≠P
 Au:∃cs fr,w.heap[b]? =some (.cells cs 5 fr)
theorem Sk.kf {w w':World}{P B b:Nat}{ob:Option Nat}(h:Sk w P b)(hf:KF w w' P B ob):w'.heap[b]? =w.heap[b]? :=by
 obtain⟨cs,fr,e⟩:=h.Au;exact hf.block b (Zaa e) h.ne (Zj ⟨cs,_,fr,e,by decide,by decide,by decide,by decide,by decide,fun x=>absurd x (by decide)⟩)
theorem Aw.at_ {w w':World}{b o n c:Nat}{f:Nat->Nat}(h:Aw w (some ⟨b,o,none⟩) n c f)(e:w'.heap[b]? =w.heap[b]?):Aw w' (some ⟨b,o,none⟩) n c f:=by
 rcases h with h | ⟨m,p,e0,i,j,l,d⟩
 ·exact Zu h
 ·simp only[Option.some.injEq,Addr.mk.injEq] at e0
  obtain⟨rfl,rfl,_⟩:=e0;refine Zj ⟨b,o,rfl,i,j,?_,fun k g=>⟨(World.cell?_of_block (a:=⟨b,o+k,none⟩) e).trans (d k g).1,(d k g).2⟩⟩;have:=e.trans (Array.getElem?_eq_getElem l);exact Zaa this
def lenV:Value->Nat
 | .slice _ n _=>n
 | _=>0
theorem Ps (w:World)(P B b o c:Nat)(ob:Option Nat)(e O:Ab)(d:List (List Int))(h:BY w P B ob e)(ok:Ak e)(M:0<=e.At/\e.At<18446744073709551616)(AQ:AD O)(L:Dc e d O)(i:∀l∈d,GA l)(hn:RvN w P B)(hu:Sk w P b)(s:Aw w (some ⟨b,o,none⟩) (d.flatMap Zas).length c (BV (d.flatMap Zas)))(hN:(d.flatMap Zas).length<=1000000000000) :
  Calls prog 121 #[.slice (some ⟨b,o,none⟩) (d.flatMap Zas).length c, .func (.func 81) #[.pointer (some ⟨P,4,none⟩)] #[]] w fun x w'=>x= .returned (.int .i64 0)/\Jq w w' P B ob O:=by
 have H:=Zz (Zq h (Zq ok (Zq M (Zq L (Zq i (Zq hn (Zq hu s)))))));have HL:=Zz AQ;have HN:=Zz hN;clear h ok M AQ L i hn hu s hN
 go_enter func121,ntmps121
 go_wp2_with fail
 go_loopw [0] (fun v wx=>∃(rs:List (List Int)) (C:Ab) (o1 c1 n1:Nat) (r:Option Nat),v= .slice (some ⟨b,o1,none⟩) n1 c1/\n1=(rs.flatMap Zas).length/\n1<=1000000000000/\Aw wx (some ⟨b,o1,none⟩) n1 c1 (BV (rs.flatMap Zas))/\BY wx P B r C/\Ak C/\(0<=C.At/\C.At<18446744073709551616)/\Dc C rs O/\(∀l∈rs,GA l)/\RvN wx P B/\Sk wx P b/\KF w wx P B ob/\As w ob r) (fun v _=>lenV v)
 case atStart =>
  obtain⟨h1,h2,h3,h4,h5,h6,h7,h8⟩:=H.o;exact⟨d,e,o,c,_,ob,rfl,rfl,HN.o,h8,h1,h2,h3,h4,h5,h6,h7,KF.refl _ _ _ _,As.refl _ _⟩
 case round =>
  obtain⟨rs,C,o1,c1,n1,r,rfl,q,aj,s,u,ok,M,L,i,hn,hu,hf,g⟩:=hrel
  rename World=>wx
  cases rs with
  | nil =>
   have i1:¬(0:Int)<(n1:Int):=by have:n1=0:=by simpa using q
                                 omega
   have he:C=O:=by cases L;rfl
   have HE:=Zz (Zq he (Zq u (Zq hf g)));clear he u hf g s L i hn hu q;go_wp2_with fail
   go_ret
   obtain⟨rfl,u,hf,g⟩:=HE.o;exact⟨rfl,r,u,hf,g⟩
  | cons l rs =>
   obtain⟨S,E,F⟩:∃S,Ew C l S/\Dc S rs O:=by cases L with | cons a b=>exact⟨_,a,b⟩
   have hl:=i l (List.mem_cons_self ..);have hlen:=hl.len;have h1:=hl.one;have G:(l::rs).flatMap Zas=Zas l++rs.flatMap Zas:=List.flatMap_cons;rw[G] at q s;have z:n1=l.length+6+(rs.flatMap Zas).length:=by rw[q,ZX,Zeh]
   have K:CB n1 (BV (Zas l++rs.flatMap Zas))=l.length+6:=by rw[q];exact Qa hlen _
   obtain⟨X,Y⟩:=Ot hl.byte (rs.flatMap Zas);obtain⟨m,y⟩:∃m,m=l.length:=⟨_,rfl⟩;have hcut:=Sx wx b o1 n1 c1 _ s aj (by omega) (by rw[K];omega);rw[K,show l.length+6 - 6=l.length by omega,X,<-Y,decide_eq_true rfl,<-y] at hcut;have Q:=Zz hcut
   obtain⟨b9,T⟩:n1<=c1/\c1<=maxLen:=by
    rcases s with x | ⟨b',o',e0,x1,x2,_⟩
    ·omega
    ·exact⟨x1,x2⟩
   have az:=Zz T;clear T;have n:=Zz (Zq s (Zq u (Zq ok (Zq M (Zq E (Zq F (Zq i (Zq hn (Zq hu (Zq hf g))))))))));have Z:=Zz (Zq z (Zq hl y));clear s u ok M E F i hn hu hf g hcut X Y K G q hl L;rw[<-y] at hlen h1 z;clear y;have i1:(0:Int)<(n1:Int):=by omega
   have i2:¬(n1:Int)<(m:Int)+6:=by omega
   have i3:m+6<=n1:=by omega
   clear z
   go_upto_region 3 with (go_at_call 167;refine Q.o.mono ?_;rintro _ w4 ⟨ra,rfl,av,f⟩;obtain rfl:=av (by omega);have H4:=Zz f;clear f)
   have D:=H4.o
   have hrec:Aw w4 (some ⟨b,o1+2,none⟩) l.length m (BV l):=by
    obtain⟨s,_⟩:=n.o;obtain⟨q1,q2,q3⟩:=Z.o;have f:=s.below D;rcases f with x | ⟨b',o',e0,x1,x2,x3,x4⟩
    ·omega
    ·simp only[Option.some.injEq,Addr.mk.injEq] at e0
     obtain⟨rfl,rfl,_⟩:=e0;refine Zj ⟨b,o1+2,rfl,by omega,by unfold maxLen;omega,x3,fun k u=> ?_⟩;obtain⟨y1,y2⟩:=x4 (2+k) (by omega);have e:BV (Zas l++rs.flatMap Zas) (2+k)=BV l k:=by unfold BV;rw[Oq _ u]
     rw[e] at y1 y2;exact⟨by rw[Nat.add_assoc];exact y1,y2⟩
   have R:=Zz (QS w4 P B b (o1+2) m r C S l (n.o.2.1.below D) n.o.2.2.1 (n.o.2.2.2.2.2.1.AQ (n.o.2.2.2.2.1.ok n.o.2.2.1).1 ((n.o.2.2.2.2.1.ok n.o.2.2.1).2.2.2 n.o.2.2.2.1) HL.o |> fun h=>Dc.AQ (.cons n.o.2.2.2.2.1 n.o.2.2.2.2.2.1) n.o.2.2.1 n.o.2.2.2.1 HL.o) n.o.2.2.2.2.1 (by have:=Z.o.2.2;omega) (n.o.2.2.2.2.2.2.2.1.kf (KF.Ae P B ob D)) hrec);rw[<-Z.o.2.2] at R;clear hrec D
   go_upto_region 7 with (go_at_call 81;refine R.o.mono ?_;rintro _ w5 ⟨rfl,W⟩;have H5:=Zz W;clear W)
   go_wp2_with fail
   go_roundw
   case rel =>
    obtain⟨s,u,ok,M,E,F,i,hn,hu,hf,g⟩:=n.o;obtain⟨q,hl,y⟩:=Z.o;obtain⟨ax,ag,J,V⟩:=H5.o;obtain⟨ay,_,_,aw⟩:=E.ok ok;have f:=H4.o;have U:KF w w4 P B ob:=hf.trans (KF.Ae P B r f) g;have al:=hn.kf (KF.Ae P B ob f);have N:Sk w4 P b:=⟨hu.ne,by obtain⟨cs,fr,e⟩:=hu.Au;exact⟨cs,fr,(f.block b (Zaa e)).trans e⟩⟩;have I:As w ob r:=g;have A:=(s.from_ (p:=m+6) (by omega)).below f;have t:=N.kf J
    obtain⟨o2,ar,au⟩:∃o2,(if c1=m+6 then some (⟨b,o1,none⟩:Addr) else some ⟨b,o1+(m+6),none⟩)=some ⟨b,o2,none⟩/\(if c1=m+6 then (⟨b,o1,none⟩:Addr) else ⟨b,o1+(m+6),none⟩)=⟨b,o2,none⟩:=by
     by_cases c0:c1=m+6
     ·exact⟨o1,if_pos c0,if_pos c0⟩
     ·exact⟨o1+(m+6),if_neg c0,if_neg c0⟩
    rw[au] at A
    have ae:(fun j=>BV (Zas l++rs.flatMap Zas) (m+6+j))=BV (rs.flatMap Zas):=by
     funext j
     rw[show m+6+j=(Zas l).length+j by rw[Zeh];omega];exact UE _ _ j
    refine⟨rs,S,o2,c1 - (m+6),n1 - (m+6),ax,by rw[ar],by omega,by omega,?_,ag,ay,aw M,F,fun x hx=>i x (List.mem_cons_of_mem _ hx),al.kf J,⟨N.ne,by obtain⟨cs,fr,e⟩:=N.Au;exact⟨cs,fr,t.trans e⟩⟩,U.trans J I,?_⟩
    ·have h9:=A.at_ t
     rw[ae] at h9;exact h9
    ·exact I.trans (fun k u=>(V k u)) (Zv U.size (Zx _))
   case measure=>simp[lenV];omega
theorem Av.lookS {w:World}{R D bd bn:Nat}{d:Ay}(h:Av w R D bd bn d){i:Nat}(hi:i<3){s:List Int}(c:d.now i=some s):∃b:Nat,(Instr.lookup 89 (.map (some bn)) (.string (Da i)) true).run prog w= .ok (.tuple #[.pointer (some ⟨b,0,none⟩), .bool true]) w/\Zde w b s:=by
 obtain⟨j,e⟩:=h.fn;obtain⟨v,a,f⟩:=e.look hi;obtain⟨b,rfl,g⟩:=f s c;rw[c] at a;exact⟨b,a,g⟩
def FC (w w':World)(b c:Nat)(l:List Int):Prop:=Aw w' (some ⟨b,0,none⟩) l.length c (BV l)/\(∃cs fr,w'.heap[b]? =some (.cells cs 5 fr))/\w.heap.size<=b/\Below w.heap.size w w'
theorem Xb {l:List Int}(hl:BB l){k:Nat}(d:k<l.length):(((Zbm l).data.toList.getD k 0).toNat:Int)=l.getD k 0:=by
 have h:=KP l hl
 have c:(Zbm l).data.toList.length=l.length:=by
  have:=congrArg List.length h;simpa using this
 have a:(((Zbm l).data.toList.map (fun b=>(b.toNat:Int))).getD k 0)=l.getD k 0:=by rw[h]
 rw[ZQ,List.getElem?_map,ZZ (by omega)] at a;rw[ZQ,ZZ (by omega)];exact a
theorem Yd (w:World)(l:List Int)(hl:BB l)(hlen:l.length<=1000000000000):FC w (Lib.bytesWorld w 5 (Zbm l)) w.heap.size (grownCap w (Zbm l).size 0 5) l:=by
 have a:(Zbm l).size=l.length:=Zd9 l;refine⟨?_,⟨_,_,Lib.bytesWorld_at_new w _ _⟩,Zx _,⟨rfl,rfl,rfl,by rw[Lib.bytesWorld_size];omega,fun k b=>Lib.bytesWorld_at_old w _ _ k b⟩⟩
 ·by_cases c:l.length=0
  ·exact Zu c
  ·refine Zj ⟨w.heap.size,0,rfl,by rw[<-a];exact grownCap_ge _ _ _ _,grownCap_le_maxLen _ _ _ _ (by rw[a];unfold maxLen;omega),by rw[Lib.bytesWorld_size];omega,fun k b=> ?_⟩
   rw[Nat.zero_add,Lib.bytesWorld_cell w _ _ k (by rw[a];exact b)];have e:=Xb hl b
   have d:0<=l.getD k 0/\l.getD k 0<256:=by
    rw[ZQ,ZZ b];exact hl _ (List.getElem_mem b)
   unfold BV;exact⟨by rw[<-e];rfl,by omega⟩
theorem PN (w:World)(R D bd bn:Nat)(d:Ay)(i:Nat)(s:List Int)(h:Av w R D bd bn d)(t:d.down=false)(hi:i<3)(u:d.now i=some s)(r:BB s)(hlen:s.length<=1000000000000):Calls prog 318 #[.pointer (some ⟨D,0,none⟩), .string (Da i)] w fun x w'=>∃b c,x= .returned (.tuple #[.slice (some ⟨b,0,none⟩) s.length c, .nilIface])/\FC w w' b c s:=by
 obtain⟨C,E,q1,B⟩:=h.c;obtain⟨sb,q,k⟩:=h.lookS hi u;have t1:=q1.cells.1.1.1.1.2;have t5:=q1.cells.2;rw[t] at t5;have e:=Yd w s r hlen;have a:=Lib.run_convert_string_bytes (P:=prog) w 9 112 5 (Zbm s) underlying9 underlying112 underlying5;have p:w.cell? ⟨sb,0,none⟩=some (.string (Zbm s)):=Zaj k 0;obtain⟨z,n⟩:∃z,z=Lib.bytesWorld w 5 (Zbm s):=⟨_,rfl⟩;obtain⟨c9,f⟩:∃c9,c9=grownCap w (Zbm s).size 0 5:=⟨_,rfl⟩;have m:=Zd9 s;rw[<-n,<-f] at a e;rw[m] at a;obtain⟨nm,j⟩:∃nm,nm=Da i:=⟨_,rfl⟩;obtain⟨y,l⟩:∃y,y=Zbm s:=⟨_,rfl⟩;obtain⟨v,g⟩:∃v,v=s.length:=⟨_,rfl⟩;rw[<-j] at q ⊢;rw[<-l] at a p;rw[<-g] at a ⊢;have A:=Zz e;clear h q1 B t hi j u k n f e l g m r hlen
 go_enter func318,ntmps318
 go_wp2_with fail
 go_ret2
 exact⟨_,c9,rfl,A.o⟩
theorem is_nil (x:Int)(w:World) :
  Calls prog 84 #[.nilIface, .iface 32 (.int .i64 x)] w fun e w'=>e= .returned (.bool false)/\w'=w:=by
 have heq:(binOp .eql 98 .nilIface (.iface 32 (.int .i64 x))).run prog w= .ok (.bool false) w:=by kernel_rfl
 go_enter func84,ntmps84
 go_wp2_with fail
 go_ret
 exact⟨rfl,rfl⟩
theorem Qv (w:World)(R D bd bn:Nat)(d:Ay)(i:Nat)(s:List Int)(h:Av w R D bd bn d)(k:d.down=false)(hi:i<3)(l:d.now i=some s)(j:BB s)(hlen:s.length<=1000000000000):Calls prog 166 #[Bw D, .string (Da i)] w fun x w'=>∃b c,x= .returned (.tuple #[.slice (some ⟨b,0,none⟩) s.length c, .nilIface])/\FC w w' b c s:=by
 have f:=Zz (PN w R D bd bn d i s h k hi l j hlen);obtain⟨nm,e⟩:∃nm,nm=Da i:=⟨_,rfl⟩;obtain⟨m,a⟩:∃m,m=s.length:=⟨_,rfl⟩;have hm:=VO;unfold Bw;rw[<-e,<-a] at f;rw[<-e,<-a];clear h k hi e l j hlen a
 go_enter func166,ntmps166
 go_wp2_with (first
  | (go_at_call 318;refine f.o.mono ?_;rintro _ p ⟨b,c,rfl,g⟩;have n:=Zz g;clear g)
  | (go_at_call 84;refine (is_nil 9 _).mono ?_;rintro _ q ⟨rfl,rfl⟩))
 go_ret2
 exact⟨b,c,rfl,n.o⟩
theorem FC.since {d w w':World}{b c:Nat}{l:List Int}(h:FC w w' b c l)(a:Below d.heap.size d w):FC d w' b c l :=
 ⟨h.1,h.2.1,Zv a.size h.2.2.1,a.trans (h.2.2.2.mono a.size)⟩
theorem FC.set1 {w w':World}{b c k o:Nat}{l:List Int}(h:FC w w' b c l)(a:b≠k)(hw:w.heap.size<=k)(x:Value):FC w (w'.setCell ⟨k,o,none⟩ x) b c l:=by
 have e:(w'.setCell ⟨k,o,none⟩ x).heap[b]? =w'.heap[b]? :=Zl _ ⟨k,o,none⟩ _ b a;exact⟨h.1.at_ e,by obtain⟨cs,fr,y⟩:=h.2.1;exact⟨cs,fr,e.trans y⟩,h.2.2.1,h.2.2.2.setCell (p:=⟨k,o,none⟩) hw _⟩
theorem FC.set3 {w w':World}{b c k:Nat}{l:List Int}(h:FC w w' b c l)(a:b≠k)(hw:w.heap.size<=k)(x y z:Value):FC w (((w'.setCell ⟨k,0,none⟩ x).setCell ⟨k,1,none⟩ y).setCell ⟨k,2,none⟩ z) b c l :=
 ((h.set1 a hw x).set1 a hw y).set1 a hw z
def LB (b n c:Nat):Value:= .agg #[.int .i64 0, .slice none 0 0, .slice (some ⟨b,0,none⟩) n c]
theorem SM {w:World}{rb b n c:Nat}(h:w.heap[rb]? =some (.cells #[.int .i64 0, .slice none 0 0, .slice (some ⟨b,0,none⟩) n c] 220 (0,0))):(loadVar 220 ⟨rb,0,none⟩).run prog w= .ok (LB b n c) w:=by
 have z0:=Zad h 0;have a:=Zad h 1;have z2:=Zad h 2;unfold LB
 go_simp
theorem Lj (w:World)(R D bd bn:Nat)(d:Ay)(s:List Int)(h:Av w R D bd bn d)(J:d.down=false)(O:d.now 0=some s)(hn:∀i,1<=i->i<3->d.now i=none)(e:BB s)(hlen:s.length<=1000000000000)(l:Za4 w):Calls prog 120 #[Bw D] w fun x w'=>∃b c,x= .returned (.tuple #[LB b s.length c, .nilIface])/\FC w w' b c s:=by
 have n:=Zz (show ∀i a,1<=i->i<3->Below w.heap.size w a->Calls prog 166 #[Bw D, .string (Da i)] a fun x w'=>x= .returned (.tuple #[.slice none 0 0, .nilIface])/\Below a.heap.size a w' from fun i a S hi e=>Kf a R D bd bn d i (h.below e) J hi (hn i S hi));have p:=Zz (show ∀a,Below w.heap.size w a->Calls prog 166 #[Bw D, .string (Da 0)] a fun x w'=>∃b c,x= .returned (.tuple #[.slice (some ⟨b,0,none⟩) s.length c, .nilIface])/\FC a w' b c s from fun a I=>Qv a R D bd bn d 0 s (h.below I) J (by decide) O e hlen);obtain⟨z,C⟩:∃z,z=s.length:=⟨_,rfl⟩;rw[<-C] at p ⊢;obtain⟨n0,r⟩:∃s,s=Da 0:=⟨_,rfl⟩;obtain⟨n1,t⟩:∃s,s=Da 1:=⟨_,rfl⟩;obtain⟨n2,u⟩:∃s,s=Da 2:=⟨_,rfl⟩
 have m:=Zz (show ∀a,Below w.heap.size w a->(a.cell? ⟨1,0,none⟩=some (.string n0)/\a.cell? ⟨1,1,none⟩=some (.string n1))/\a.cell? ⟨1,2,none⟩=some (.string n2) from fun a e=>by
  rw[r,t,u];exact⟨⟨cell_later e (l 0 (by decide)),cell_later e (l 1 (by decide))⟩,cell_later e (l 2 (by decide))⟩)
 have L:=Zz (show ∀a,Below w.heap.size w a->Calls prog 166 #[Bw D, .string n0] a fun x w'=>∃b c,x= .returned (.tuple #[.slice (some ⟨b,0,none⟩) z c, .nilIface])/\FC a w' b c s from fun a e=>by rw[r];exact p.o a e);have H1:=Zz (show ∀a,Below w.heap.size w a->Calls prog 166 #[Bw D, .string n1] a fun x w'=>x= .returned (.tuple #[.slice none 0 0, .nilIface])/\Below a.heap.size a w' from fun a e=>by rw[t];exact n.o 1 a (by decide) (by decide) e);have M:=Zz (show ∀a,Below w.heap.size w a->Calls prog 166 #[Bw D, .string n2] a fun x w'=>x= .returned (.tuple #[.slice none 0 0, .nilIface])/\Below a.heap.size a w' from fun a e=>by rw[u];exact n.o 2 a (by decide) (by decide) e);obtain⟨K,y⟩:∃K,K=w.alloc (.cells #[.int .i64 0, .slice none 0 0, .slice none 0 0] 220):=⟨_,rfl⟩;have H:=Zz (show Below w.heap.size w K from by rw[y];exact (Zk _ _).alloc (Zx _) _);have Q:=Zz y;obtain⟨N,B⟩:∃N,N=Bw D:=⟨_,rfl⟩;rw[<-B] at L H1 M ⊢;clear h J hn l r t u n p y B O e hlen C
 go_enter func120,ntmps120
 go_wp2_with fail
 go_loopw [4] (fun G wr=>(G= .int .i64 2\/G= .int .i64 1\/G= .int .i64 0)/\Below w.heap.size w wr/\wr.heap[w.heap.size]? =some (.cells #[.int .i64 0, .slice none 0 0, .slice none 0 0] 220 (0,0))) (fun G _=>(intOf G).toNat)
 case atStart=>exact⟨Zu rfl,by rw[<-Q.o];exact H.o,heap_alloc_new w _⟩
 case round =>
  obtain⟨hi,e,hf⟩:=hrel;rcases hi with rfl | rfl | rfl
  ·obtain⟨⟨q0,q1⟩,P⟩:=m.o wr e
   have HF:=Zz (Zq e hf);clear e hf
   go_wp2_with (first
    | (go_at_call 166;refine (M.o wr HF.o.1).mono ?_;rintro _ A ⟨rfl,j⟩;have f:=Zz j;clear j)
    | (go_at_call 167;refine (Zd3 _).mono ?_;rintro _ w4 ⟨rfl,rfl⟩))
   go_roundw
   case rel=>exact⟨by simp,HF.o.1.trans (f.o.mono HF.o.1.size),(f.o.block _ (Zaa HF.o.2)).trans HF.o.2⟩
   case measure=>decide
  ·obtain⟨⟨q0,q1⟩,P⟩:=m.o wr e
   have HF:=Zz (Zq e hf);clear e hf
   go_wp2_with (first
    | (go_at_call 166;refine (H1.o wr HF.o.1).mono ?_;rintro _ A ⟨rfl,j⟩;have f:=Zz j;clear j)
    | (go_at_call 167;refine (Zd3 _).mono ?_;rintro _ w4 ⟨rfl,rfl⟩))
   go_roundw
   case rel=>exact⟨by simp,HF.o.1.trans (f.o.mono HF.o.1.size),(f.o.block _ (Zaa HF.o.2)).trans HF.o.2⟩
   case measure=>decide
  ·obtain⟨⟨q0,q1⟩,P⟩:=m.o wr e
   have HF:=Zz (Zq e hf);clear e hf;go_wp2_with (go_at_call 166;refine (L.o wr HF.o.1).mono ?_;rintro _ A ⟨nb,nc,rfl,q⟩;have g:=(q.2.2.2.block _ (Zaa HF.o.2)).trans HF.o.2;have f:=Zz (Zq q g);have T:=Zad g 0;have U:=Zad g 1;have V:=Zad g 2;have f0:A.frozen? ⟨w.heap.size,0,none⟩=false:=(by simp[World.frozen?,g]);have f1:A.frozen? ⟨w.heap.size,1,none⟩=false:=(by simp[World.frozen?,g]);have f2:A.frozen? ⟨w.heap.size,2,none⟩=false:=(by simp[World.frozen?,g]);clear q g)
   have F:(((A.setCell ⟨w.heap.size,0,none⟩ (.int .i64 0)).setCell ⟨w.heap.size,1,none⟩ (.slice none 0 0)).setCell ⟨w.heap.size,2,none⟩ (.slice (some ⟨nb,0,none⟩) z nc)).heap[w.heap.size]? =some (.cells #[.int .i64 0, .slice none 0 0, .slice (some ⟨nb,0,none⟩) z nc] 220 (0,0)):=by
    rw[Zab (Zab (Zab f.o.2 _) _) _];rfl
   have E:=SM F;refine bodyPost_ret (v:= .tuple #[LB nb z nc, .nilIface]) (by rw[results_cell_tmp rfl];simp[Result.andThen,asAddr,E]) rfl ⟨nb,nc,rfl,?_⟩;have hl:=Zaa HF.o.2;exact ((f.o.1.since HF.o.1).set3 (k:=w.heap.size) (by have:=f.o.1.2.2.1;omega) (Zx _) _ _ _)
end Go.Proofs.YtgdcjccbdmcebaaGreatDoor
namespace Go.Proofs.YtgdcjccbdmcebaaGreatDoor.Laid
open Go.RowKit Go.ChangeShapes Go.WideShapes Go.Proofs.YtgdcjccbdmcebaaGreatDoor
def Nt {H:Type}(zs:List ByteArray):DataW H:= .agg (zs.map fun s=> .lit (.string s.data.toList))
theorem KY {H:Type}{enc:TypeId×Value->H}{P:Program}{w:World}{base:Nat}{sp:Nat->Bool}{held:Bool}{fuel:Nat}{t e:TypeId}{n:Nat}{cs:List Value}{c:List ByteArray}{p:List MemPlace}
  (ht:P.underlying t=some (.array n e)) (he:P.underlying e=some .string) (hce:P.cellsOf e=1) (hct:P.cellsOf t=n)
  (h:DataW.trod enc P w base sp held fuel t cs=some (Nt c,p)):cs=c.map fun s=>Value.string s:=by
 cases fuel with
 | zero=>simp[DataW.trod] at h
 | succ fuel =>
  simp only[DataW.trod,ht,hce,hct,Nat.mul_one] at h
  split at h
  ·rename_i hl
   obtain⟨xs,hm,o⟩:=Option.map_eq_some_iff.1 h
   have a:xs.map (·.1)=c.map fun s=>(DataW.lit (.string s.data.toList):DataW H):=by
    have:=congrArg Prod.fst o;simpa[Nt] using this
   have q:xs.length=n:=by simpa using Lib.mapM_length hm
   have r:c.length=n:=by
    have:=congrArg List.length a;simp at this;omega
   apply List.ext_getElem?
   intro i;by_cases hi:i<n
   ·obtain⟨b,l,hf⟩:=Lib.mapM_at hm i i (by simp[hi])
    obtain⟨s,m,rfl,_⟩:=DataW.trod_string he hf
    have j:cs[i]? =some (.string s):=by
     have:=congrArg (·[0]?) m;simpa[List.getElem?_take,List.getElem?_drop] using this
    have d:(xs.map (·.1))[i]? =some (DataW.lit (.string s.data.toList):DataW H):=by simp[l]
    rw[a] at d;simp only[List.getElem?_map,Option.map_eq_some_iff,DataW.lit.injEq,Lit.string.injEq] at d;obtain⟨g,f,k⟩:=d
    obtain rfl:g=s:=by
     cases g;cases s
     simp only[ByteArray.mk.injEq];exact Array.toList_inj.1 k
    simp[j,f]
   ·rw[List.getElem?_eq_none (by omega),List.getElem?_eq_none (by simp;omega)]
  ·cases h
theorem gNam:prog.globalNamed "flowkeeper/logs.names"=some 1:=by kernel_rfl
theorem Vi:(prog.globals[1]?).map (·.type)=some 298:=by kernel_rfl
theorem Yf:prog.cellsOf 298=3:=by kernel_rfl
theorem Ye:prog.cellsOf 9=1:=by kernel_rfl
theorem VW {W:World}(e:laidMetH prog [("flowkeeper/logs.names",Rows.laid_flowkeeper_logs_names)] W):Za4 W:=by
 have h:laidMet prog [("flowkeeper/logs.names",Nt [Da 0,Da 1,Da 2])] W:=e;obtain⟨ps,⟨j,k,cs,fuel,p,q,c,d,a,g,_,_⟩,_⟩:=h;obtain rfl:=Option.some.inj (gNam.symm.trans c);obtain rfl:=Option.some.inj (Vi.symm.trans d);have b:=KY underlying298 underlying9 Ye Yf g;intro i hi;have:=World.var?_cell gNam a i;rw[this];have f:cs.toList=_:=b;rw[<-Array.getElem?_toList,f]
 match i,hi with
 | 0,_=>rfl
 | 1,_=>rfl
 | 2,_=>rfl
theorem WV {W:World}(h:W.ShapedOpen prog):4<W.heap.size:=by
 obtain⟨o,b,a,_⟩:=h.2 4 (by decide) (of_decide_eq_true (by kernel_rfl));exact (Array.getElem?_eq_some_iff.1 a).1
theorem tab_lt {W:World}(h:AL W):2<W.heap.size:=World.block_lt_of_cell? _ _ (h 0 (by omega))
theorem err_lt {W:World}(h:Az W):0<W.heap.size:=World.block_lt_of_cell? _ _ h
def layNam:Obj->Obj
 | .cells _ t frozen=> .cells #[.string (Da 0), .string (Da 1), .string (Da 2)] t frozen
 | o=>o
noncomputable def Kh (os:Os):World :=
 { World.holding prog os ⟨#[],#[],[]⟩ with heap:=((((World.holding prog os ⟨#[],#[],[]⟩).heap.modify 3 lay32).modify 2 lay64).modify 0 layErr).modify 1 layNam }
end Go.Proofs.YtgdcjccbdmcebaaGreatDoor.Laid
