import Derived.Test.YtgdcjccbdmcebabGreatDoorM09
import Derived.Test.YtgdcjccbdmcebabGreatDoorM23
import Derived.OwnWalk
set_option linter.unusedSimpArgs false
set_option linter.unusedVariables false
namespace Go.Proofs.YtgdcjccbdmcebabGreatDoor
open Go.RowKit
set_option maxRecDepth 100000
theorem FaultAt.spare {w w':World}{N q:Nat}{x y:Int}(h:FaultAt w q x y)(hq:N<=q)(hq2:q<w.heap.size)(hk:∀z,N<=z->z<w.heap.size->w'.heap[z]? =w.heap[z]?):FaultAt w' q x y :=
 ⟨(World.cell?_of_block (a:=⟨q,0,none⟩) (hk q hq hq2)).trans h.1,(World.cell?_of_block (a:=⟨q,1,none⟩) (hk q hq hq2)).trans h.2⟩
set_option maxHeartbeats 1000000 in
theorem fkencode_any (F:FlowD)(B:Nat)(la:Option Addr)(lc:Nat)(Na:Nat->Option Addr)(Nc:Nat->Nat)(w:World)(hn:F.n<=maxLen)(hT:TabIn w)(hg:2<w.heap.size)
  (h:CopyAt B w F (.slice la F.n lc) F.n Na Nc) :
  Calls Tryz.prog 25 #[flV F.dl (.slice la F.n lc)] w fun e w'=>EncEnds F w w' e/\Below w.heap.size w w':=by
 have hkb:Hid (∀o,Below w.heap.size w (w.alloc o)):=Hid.mk fun o=>(Below.refl _ _).alloc (Nat.le_refl _) _
 have H:=Hid.mk h
 have HT:=Hid.mk hT
 clear h hT
 go_enter Tryz.func25,Tryz.ntmps25
 go_wp2_with fail
 refine (fencode_any F B la lc Na Nc _ hn (HT.out.keep hg (hkb.out _)) (by simp;omega) (H.out.below (hkb.out _))).mono ?_
 rintro e w' ⟨hx,hb⟩
 have HB:Below w.heap.size w w':=(hkb.out _).trans (hb.mono (by simp))
 clear hb
 rcases hx with⟨v,rfl,hchk,hrow⟩ | ⟨x,y,q,rfl,hx,hchk,hq1,hq2,hfa⟩
 ·have HX:=Hid.mk (And.intro hchk hrow)
  clear hchk hrow
  go_wp2_with fail
  go_ret2
  exact⟨Or.inl ⟨v,rfl,HX.out.1,Zci HX.out.2 (by simp)⟩,HB⟩
 ·have HX:=Hid.mk hchk
  clear hchk
  go_wp2_with fail
  go_ret2
  exact⟨Or.inr ⟨x,y,q,rfl,hx,HX.out,by simp at hq1;omega,hq2,hfa⟩,HB⟩
def EncIs (F:FlowD)(N:Nat)(w':World)(e:Ending):Prop :=
 ∃(v:Value) (x y:Int) (l:List Int),e= .returned (.tuple #[v, .int .i64 x, .int .i64 y])/\ChkIs F x y/\ByteRow N w' v l/\(x=0->l=Zat F)/\(x≠0->l=[]/\v= .slice none 0 0)
set_option maxHeartbeats 2000000 in
theorem pencode_any (F:FlowD)(a:Option Addr)(cap:Nat)(Aa:Nat->Option Addr)(Ac:Nat->Nat)(w:World)(h:FlowIn w F a cap Aa Ac)(hE:ErrTypeIn w) :
  Calls Tryz.prog 8 #[flV F.dl (.slice a F.n cap)] w fun e w'=>EncIs F w.heap.size w' e/\Below w.heap.size w w':=by
 have hkb:Hid (∀o,Below w.heap.size w (w.alloc o)):=Hid.mk fun o=>(Below.refl _ _).alloc (Nat.le_refl _) _
 have H:=Hid.mk h
 have HE:=Hid.mk hE
 clear h hE
 go_enter Tryz.func8,Tryz.ntmps8
 go_wp2_with fail
 refine (copied_any F a cap Aa Ac _ (H.out.keep (hkb.out _))).mono ?_
 rintro e w1 ⟨la,lc,Na,Nc,rfl,hc,hb⟩
 have hb1:Hid (Below w.heap.size w w1):=Hid.mk ((hkb.out _).trans (hb.mono (by simp)))
 have hsz1:w.heap.size+1<=w1.heap.size:=by have:=hb.size;simpa using this
 have HC:=Hid.mk hc
 clear hc hb
 go_wp2_with fail
 have hkb1:Below w1.heap.size w1 (w1.alloc (.cells #[.int .i64 F.dl, .slice la F.n lc] 31)):=(Below.refl _ _).alloc (Nat.le_refl _) _
 refine (fkencode_any F _ la lc Na Nc _ H.out.len ((H.out.tab.keep H.out.tabg hb1.out).keep (by have:=H.out.tabg;omega) hkb1) (by have:=H.out.tabg;simp;omega) (HC.out.below hkb1)).mono ?_
 rintro e w2 ⟨hx,hb2⟩
 have hb12:Hid (Below w1.heap.size w1 w2):=Hid.mk (hkb1.trans (hb2.mono (by simp)))
 have d0:w2.cell? ⟨w1.heap.size,0,none⟩=some (.int .i64 F.dl):=cell_later hb2 (by simp)
 have d1:w2.cell? ⟨w1.heap.size,1,none⟩=some (.slice la F.n lc):=cell_later hb2 (by simp)
 have hsz2:w1.heap.size<=w2.heap.size:=hb12.out.size
 clear hb2 hkb1
 rcases hx with⟨v,rfl,hchk,hrow⟩ | ⟨x,y,q,rfl,hx,hchk,hq1,hq2,hfa⟩
 ·have HX:=Hid.mk (And.intro hchk hrow)
  clear hchk hrow
  go_wp2_with fail
  refine (turn_copy F _ la lc Na Nc w1 w2 (by simp;omega) H.out.len HC.out hb12.out).mono ?_
  rintro e w3 ⟨rfl,hb3,hsp⟩
  have hb03:Hid (Below w.heap.size w w3):=Hid.mk ((hb1.out.trans (hb12.out.mono (by omega))).trans (hb3.mono (by simp)))
  have HR:Hid (ByteRow w1.heap.size w3 v (Zat F)):=Hid.mk (own_spare (Zci HX.out.2 (by simp)) hsp)
  clear hb3 hsp d0 d1
  go_wp2_with fail
  refine (told_nil _).mono ?_
  rintro e w4 ⟨rfl,hb4⟩
  have HB:Below w.heap.size w w4:=hb03.out.trans (hb4.mono hb03.out.size)
  have HR4:=Hid.mk (Zci (HR.out.below hb4) (B':=w.heap.size) (by omega))
  clear hb4
  go_wp2_with fail
  go_ret3
  exact⟨⟨v,0,-1,Zat F,rfl,HX.out.1,HR4.out,fun _=>rfl,fun h=>absurd rfl h⟩,HB⟩
 ·have HX:=Hid.mk hchk
  clear hchk
  go_wp2_with fail
  refine (turn_copy F _ la lc Na Nc w1 w2 (by simp;omega) H.out.len HC.out hb12.out).mono ?_
  rintro e w3 ⟨rfl,hb3,hsp⟩
  have hb03:Hid (Below w.heap.size w w3):=Hid.mk ((hb1.out.trans (hb12.out.mono (by omega))).trans (hb3.mono (by simp)))
  have hfa3:FaultAt w3 q x y:=hfa.spare (N:=w1.heap.size) (by simp at hq1;omega) hq2 hsp
  have hq3:q<w3.heap.size:=by have:=hb3.size;omega
  clear hb3 hsp d0 d1 hfa
  go_wp2_with fail
  refine (told_fault q x y _ hfa3 hq3 (HE.out.keep hb03.out)).mono ?_
  rintro e w4 ⟨rfl,hb4⟩
  have HB:Below w.heap.size w w4:=hb03.out.trans (hb4.mono hb03.out.size)
  clear hb4
  go_wp2_with fail
  go_ret3
  exact⟨⟨.slice none 0 0,x,y,[],rfl,HX.out,ByteRow.nil _ _,fun h=>absurd h hx,fun _=>⟨rfl,rfl⟩⟩,HB⟩
end Go.Proofs.YtgdcjccbdmcebabGreatDoor
namespace Go.Proofs.YtgdcjccbdmcebabGreatDoor
open Go.RowKit
def Zcl (n:Nat)(f:Nat->Nat)(p:Nat):Option (Nat×Nat) :=
 if n<=p then none else if f p<128 then some (f p,p+1) else
 if n<=p+1 then none else if f (p+1)<128 then (if f (p+1)=0 then none else some (f p % 128+f (p+1) * 128,p+2)) else
 if n<=p+2 then none else if f (p+2)<128 then (if f (p+2)=0 then none else some (f p % 128+f (p+1) % 128 * 128+f (p+2) * 16384,p+3)) else none
theorem Zb3 {n:Nat}{f:Nat->Nat}{p v q:Nat}(h:Zcl n f p=some (v,q)):p<q/\q<=n/\v<=2097151:=by
 unfold Zcl at h
 split at h
 ·cases h
 split at h
 ·simp only [Option.some.injEq,Prod.mk.injEq] at h;omega
 split at h
 ·cases h
 split at h
 ·split at h
  ·cases h
  ·simp only [Option.some.injEq,Prod.mk.injEq] at h;omega
 split at h
 ·cases h
 split at h
 ·split at h
  ·cases h
  ·simp only [Option.some.injEq,Prod.mk.injEq] at h;omega
 ·cases h
theorem numAt_ways (n:Nat)(f:Nat->Nat)(p:Nat) :
  (n<=p/\Zcl n f p=none) \/
  (p<n/\f p<128/\Zcl n f p=some (f p,p+1)) \/
  (p<n/\128<=f p/\n<=p+1/\Zcl n f p=none) \/
  (p+1<n/\128<=f p/\f (p+1)=0/\Zcl n f p=none) \/
  (p+1<n/\128<=f p/\0<f (p+1)/\f (p+1)<128/\Zcl n f p=some (f p % 128+f (p+1) * 128,p+2)) \/
  (p+1<n/\128<=f p/\128<=f (p+1)/\n<=p+2/\Zcl n f p=none) \/
  (p+2<n/\128<=f p/\128<=f (p+1)/\f (p+2)=0/\Zcl n f p=none) \/
  (p+2<n/\128<=f p/\128<=f (p+1)/\0<f (p+2)/\f (p+2)<128/\Zcl n f p=some (f p % 128+f (p+1) % 128 * 128+f (p+2) * 16384,p+3)) \/
  (p+2<n/\128<=f p/\128<=f (p+1)/\128<=f (p+2)/\Zcl n f p=none):=by
 unfold Zcl
 by_cases h0:n<=p
 ·simp [h0]
 rw [if_neg h0]
 by_cases h1:f p<128
 ·rw [if_pos h1];right;left;exact⟨by omega,h1,rfl⟩
 rw [if_neg h1]
 by_cases h2:n<=p+1
 ·rw [if_pos h2];right;right;left;exact⟨by omega,by omega,h2,rfl⟩
 rw [if_neg h2]
 by_cases h3:f (p+1)<128
 ·rw [if_pos h3]
  by_cases h4:f (p+1)=0
  ·rw [if_pos h4];right;right;right;left;exact⟨by omega,by omega,h4,rfl⟩
  ·rw [if_neg h4];right;right;right;right;left;exact⟨by omega,by omega,by omega,h3,rfl⟩
 rw [if_neg h3]
 by_cases h5:n<=p+2
 ·rw [if_pos h5];right;right;right;right;right;left;exact⟨by omega,by omega,by omega,h5,rfl⟩
 rw [if_neg h5]
 by_cases h6:f (p+2)<128
 ·rw [if_pos h6]
  by_cases h7:f (p+2)=0
  ·rw [if_pos h7];right;right;right;right;right;right;left;exact⟨by omega,by omega,by omega,h7,rfl⟩
  ·rw [if_neg h7];right;right;right;right;right;right;right;left;exact⟨by omega,by omega,by omega,by omega,h6,rfl⟩
 ·rw [if_neg h6];right;right;right;right;right;right;right;right;exact⟨by omega,by omega,by omega,by omega,rfl⟩
structure RTo (w w':World)(R:Nat):Prop where
 os:w'.os=w.os
 tape:w'.tape=w.tape
 output:w'.output=w.output
 size:w'.heap.size=w.heap.size
 block:∀k,k≠R->w'.heap[k]? =w.heap[k]?
theorem RTo.refl (w:World)(R:Nat):RTo w w R:=⟨rfl,rfl,rfl,rfl,fun _ _=>rfl⟩
theorem RTo.set {w w':World}{R:Nat}(h:RTo w w' R)(o:Nat)(v:Value):RTo w (w'.setCell ⟨R,o,none⟩ v) R :=
 ⟨h.os,h.tape,h.output,by rw [<-h.size];simp [World.setCell],fun k hk=>(Below.heap_setCell w' ⟨R,o,none⟩ v k hk).trans (h.block k hk)⟩
theorem RTo.drewN {w w':World}{R:Nat}(h:RTo w w' R)(q:Nat):RTo w (w'.drewN q) R:=⟨h.os,h.tape,h.output,h.size,h.block⟩
end Go.Proofs.YtgdcjccbdmcebabGreatDoor
namespace Go.Proofs.YtgdcjccbdmcebabGreatDoor
section
open Go.RowKit
set_option maxRecDepth 100000
structure PdAt (w:World)(R:Nat)(a:Option Addr)(n cap:Nat)(p:Int):Prop where
 c0:w.cell? ⟨R,0,none⟩=some (.slice a n cap)
 c1:w.cell? ⟨R,1,none⟩=some (.int .i64 p)
 f1:w.frozen? ⟨R,1,none⟩=false
def PdX (w:World)(R:Nat)(a:Option Addr)(n cap:Nat):Prop:=∃p,PdAt w R a n cap p
theorem PdX.drewN {w:World}{R:Nat}{a:Option Addr}{n cap:Nat}(h:PdX w R a n cap)(k:Nat):PdX (w.drewN k) R a n cap:=by obtain⟨p,hp⟩:=h;exact⟨p,hp.c0,hp.c1,hp.f1⟩
theorem PdX.at' {w:World}{R:Nat}{a:Option Addr}{n cap:Nat}(h:PdX w R a n cap){v v':Int}(hv:v=v'):PdAt (w.setCell ⟨R,1,none⟩ (.int .i64 v)) R a n cap v':=by
 obtain⟨p,hp⟩:=h
 subst hv
 refine⟨?_,World.cell?_setCell_same _ _ _ hp.c1,by rw [World.frozen?_setCell];exact hp.f1⟩
 rw [World.cell?_setCell_other _ _ _ _ (by simp)];exact hp.c0
theorem PdX.setP {w:World}{R:Nat}{a:Option Addr}{n cap:Nat}(h:PdX w R a n cap)(v:Int):PdX (w.setCell ⟨R,1,none⟩ (.int .i64 v)) R a n cap:=⟨v,h.at' rfl⟩
def PnumIs (w':World)(R:Nat)(a:Option Addr)(n cap:Nat)(f:Nat->Nat)(p:Nat)(e:Ending):Prop :=
 (∃v q,Zcl n f p=some (v,q)/\e= .returned (.int .i64 (v:Nat))/\PdAt w' R a n cap (q:Nat)) \/
 (Zcl n f p=none/\e= .panicked [{ v:= .iface 253 (.int .i64 (p:Nat)),recovered:=false }]/\PdX w' R a n cap)
theorem bl8_small {x:Nat}(h:x<128):bl8 x<=7:=(bl8_le x 7).2 h
theorem read_numAt {n p k:Nat}{f:Nat->Nat}{x:Int}{ok:Bool}(h:ReadIs (fun j=>f (p+j)) (min (n - p) 3) x k ok):(ok=true/\∃v,Zcl n f p=some (v,p+k)/\x=(v:Int))\/(ok=false/\Zcl n f p=none):=by
 rcases h with⟨i,hi,⟨e1,e2,e3,_⟩,rfl,rfl,rfl⟩ | ⟨hno,rfl,rfl,rfl⟩
 ·refine Or.inl ⟨rfl,valN (fun j=>f (p+j)) (i+1),?_,rfl⟩
  match i,hi with
  | 0,hi =>
   simp only [Nat.add_zero] at e2
   unfold Zcl
   rw [if_neg (by omega),if_pos e2]
   simp only [valN,Nat.zero_add,Nat.add_zero,Nat.mul_zero,Nat.pow_zero,Nat.mul_one]
   rw [Nat.mod_eq_of_lt e2]
  | 1,hi =>
   have h0:=e1 0 (by omega)
   simp only [Nat.add_zero] at h0
   have h3:f (p+1)≠0:=by
    rcases e3 with h | h
    ·omega
    ·exact Nat.ne_of_gt h
   unfold Zcl
   rw [if_neg (by omega),if_neg (by omega),if_neg (by omega),if_pos e2,if_neg h3]
   simp only [valN,Nat.zero_add,Nat.add_zero,Nat.mul_zero,Nat.pow_zero,Nat.mul_one]
   rw [Nat.mod_eq_of_lt e2]
  | 2,hi =>
   have h0:=e1 0 (by omega)
   have h1:=e1 1 (by omega)
   simp only [Nat.add_zero] at h0
   have h3:f (p+2)≠0:=by
    rcases e3 with h | h
    ·omega
    ·exact Nat.ne_of_gt h
   unfold Zcl
   simp only [] at h1
   rw [if_neg (by omega),if_neg (by omega),if_neg (by omega),if_neg (by omega),if_neg (by omega),if_pos e2,if_neg h3]
   simp only [valN,Nat.zero_add,Nat.add_zero,Nat.mul_zero,Nat.pow_zero,Nat.mul_one]
   rw [Nat.mod_eq_of_lt e2]
  | i+3,hi=>omega
 ·refine Or.inr ⟨rfl,?_⟩
  rcases numAt_ways n f p with⟨h0,hv⟩ | ⟨h0,h1,hv⟩ | ⟨h0,h1,h2,hv⟩ | ⟨h0,h1,h2,hv⟩ | ⟨h0,h1,h2,h3,hv⟩ | ⟨h0,h1,h2,h3,hv⟩ | ⟨h0,h1,h2,h3,hv⟩ | ⟨h0,h1,h2,h3,h4,hv⟩ | ⟨h0,h1,h2,h3,hv⟩
  ·exact hv
  ·exact absurd ⟨fun j hj=>by omega,h1,Or.inl rfl,by have:=bl8_small h1;show 7 * 0+bl8 (f (p+0))<=64;rw [Nat.add_zero];omega⟩ (hno 0 (by omega))
  ·exact hv
  ·exact hv
  ·exact absurd ⟨fun j hj=>by
    obtain rfl:j=0:=by omega
    exact h1,h3,Or.inr h2,by have:=bl8_small h3;show 7 * 1+bl8 (f (p+1))<=64;omega⟩ (hno 1 (by omega))
  ·exact hv
  ·exact hv
  ·exact absurd ⟨fun j hj=>by
    rcases (by omega:j=0\/j=1) with rfl | rfl
    ·exact h1
    ·exact h2,h4,Or.inr h3,by have:=bl8_small h4;show 7 * 2+bl8 (f (p+2))<=64;omega⟩ (hno 2 (by omega))
  ·exact hv
theorem BytesAt.from_ {w:World}{b o n cap p:Nat}{f:Nat->Nat}(h:BytesAt w (some ⟨b,o,none⟩) n cap f)(hp:p<=n):BytesAt w (some (if cap=p then ⟨b,o,none⟩ else ⟨b,o+p,none⟩)) (n - p) (cap - p) (fun j=>f (p+j)):=by
 rcases h with h | ⟨b',o',he,h1,h2,h3,h4⟩
 ·exact Or.inl (by omega)
 ·obtain⟨rfl,rfl⟩:b=b'/\o=o':=by simpa using he
  by_cases e:n=p
  ·exact Or.inl (by omega)
  ·rw [if_neg (by omega)]
   exact Or.inr ⟨b,o+p,rfl,by omega,by omega,h3,fun k hk=>by rw [Nat.add_assoc];exact h4 (p+k) (by omega)⟩
set_option maxHeartbeats 8000000 in
theorem Zcz (w:World)(R:Nat)(a:Option Addr)(n cap:Nat)(f:Nat->Nat)(p:Nat)(hn:n<=maxLen)(hp:p<=n)(h:PdAt w R a n cap p)(hR:∀b o,a=some ⟨b,o,none⟩->b≠R)(hb:BytesAt w a n cap f) :
  Calls Tryz.prog 129 #[.pointer (some ⟨R,0,none⟩)] w fun e w'=>PnumIs w' R a n cap f p e/\RTo w w' R:=by
 have hbn:=hb
 have HB:=Hid.mk hb
 unfold maxLen at hn
 have H:=Hid.mk h
 obtain⟨c0,c1,f1⟩:=h
 obtain⟨x,k,ok,hr⟩:=ReadIs.ex (fun j=>f (p+j)) (min (n - p) 3)
 have HR:=Hid.mk (read_numAt hr)
 have hle:ok=true->(p+k<=n/\0<k)/\(0<=x/\x<=2097151):=by
  intro e
  rcases HR.out with⟨_,v,h1,h2⟩ | ⟨h1,_⟩
  ·have:=Zb3 h1;omega
  ·rw [h1] at e;cases e
 by_cases hpn:p=n
 ·have hok:ok=false:=by
   cases ok
   ·rfl
   ·have:=hle rfl;omega
  subst hok
  have e0:n - p=0:=by omega
  have hr0:=hr
  rw [e0] at hr0
  have hcall:∀m A c,Calls Tryz.prog 189 #[.slice A 0 c, .int .i64 3] (w.drewN m) fun e w'=>e= .returned (.tuple #[.int .u64 x, .int .i64 (k:Nat), .bool false])/\w'=w.drewN m:=fun m A c=>read_the (w.drewN m) A 0 c 3 _ (by omega) (by omega) (Or.inl rfl) hr0
  have HC:=Hid.mk hcall
  have hcap:n=0\/n<=cap:=by
   rcases hb with h | ⟨_,_,_,h,_⟩
   ·exact Or.inl h
   ·exact Or.inr h
  subst hpn
  clear hcall hr hr0 hb hbn hle e0
  cases a with
  | none =>
   have hn0:p=0:=by
    rcases HB.out with h | ⟨b,o,h,_⟩
    ·exact h
    ·cases h
   subst hn0
   go_enter Tryz.func129,Tryz.ntmps129
   go_wp2_with fail
   go_quiet ((go_at_call 189;refine Calls.quiet_of_same (HC.out _ _ _)))
   go_wp2_with fail
   exact⟨rfl,Or.inr ⟨by rcases HR.out with⟨h,_⟩ | ⟨_,h⟩;cases h;exact h,rfl,(by repeat (first | exact⟨_,H.out⟩ | refine PdX.setP ?_ _ | refine PdX.drewN ?_ _))⟩,(by repeat (first | exact RTo.refl _ _ | apply RTo.set | apply RTo.drewN))⟩
  | some a0 =>
   obtain⟨b,o,g⟩:=a0
   rcases hcap with rfl | hcap
   ·go_enter Tryz.func129,Tryz.ntmps129
    go_wp2_with fail
    go_quiet ((go_at_call 189;refine Calls.quiet_of_same (HC.out _ _ _)))
    go_wp2_with fail
    exact⟨rfl,Or.inr ⟨by rcases HR.out with⟨h,_⟩ | ⟨_,h⟩;cases h;exact h,rfl,(by repeat (first | exact⟨_,H.out⟩ | refine PdX.setP ?_ _ | refine PdX.drewN ?_ _))⟩,(by repeat (first | exact RTo.refl _ _ | apply RTo.set | apply RTo.drewN))⟩
   ·by_cases hcp:cap=p
    ·subst hcp
     go_enter Tryz.func129,Tryz.ntmps129
     go_wp2_with fail
     go_quiet ((go_at_call 189;refine Calls.quiet_of_same (HC.out _ _ _)))
     go_wp2_with fail
     exact⟨rfl,Or.inr ⟨by rcases HR.out with⟨h,_⟩ | ⟨_,h⟩;cases h;exact h,rfl,(by repeat (first | exact⟨_,H.out⟩ | refine PdX.setP ?_ _ | refine PdX.drewN ?_ _))⟩,(by repeat (first | exact RTo.refl _ _ | apply RTo.set | apply RTo.drewN))⟩
    ·go_enter Tryz.func129,Tryz.ntmps129
     go_wp2_with fail
     go_quiet ((go_at_call 189;refine Calls.quiet_of_same (HC.out _ _ _)))
     go_wp2_with fail
     exact⟨rfl,Or.inr ⟨by rcases HR.out with⟨h,_⟩ | ⟨_,h⟩;cases h;exact h,rfl,(by repeat (first | exact⟨_,H.out⟩ | refine PdX.setP ?_ _ | refine PdX.drewN ?_ _))⟩,(by repeat (first | exact RTo.refl _ _ | apply RTo.set | apply RTo.drewN))⟩
 ·obtain⟨b,o,rfl,hcap,hmax,hbs,hcell⟩:=hb.resolve_left (by omega)
  have hcall:∀m,Calls Tryz.prog 189 #[.slice (some ⟨b,o+p,none⟩) (n - p) (cap - p), .int .i64 3] (w.drewN m) fun e w'=>e= .returned (.tuple #[.int .u64 x, .int .i64 (k:Nat), .bool ok])/\w'=w.drewN m:=fun m=>by
   have hb2:=hbn.from_ (p:=p) (by omega)
   rw [if_neg (by omega)] at hb2
   exact read_the (w.drewN m) _ (n - p) (cap - p) 3 _ (by unfold maxLen;omega) (by omega) hb2 hr
  have HC:=Hid.mk hcall
  have g1:(p:Int)<=(n:Int):=by omega
  have g2:¬(cap=p):=by omega
  clear hcall hr hb hbn hcell
  cases ok with
  | false =>
   clear hle
   go_enter Tryz.func129,Tryz.ntmps129
   go_wp2_with fail
   go_quiet ((go_at_call 189;refine Calls.quiet_of_same (HC.out _)))
   go_wp2_with fail
   exact⟨rfl,Or.inr ⟨by rcases HR.out with⟨h,_⟩ | ⟨_,h⟩;cases h;exact h,rfl,(by repeat (first | exact⟨_,H.out⟩ | refine PdX.setP ?_ _ | refine PdX.drewN ?_ _))⟩,(by repeat (first | exact RTo.refl _ _ | apply RTo.set | apply RTo.drewN))⟩
  | true =>
   have hk:=hle rfl
   have g3:IntKind.i64.wrap ((p:Int)+(k:Int))=((p+k:Nat):Int):=by unfold maxLen at hmax;rw [IntKind.wrap_i64];omega
   have g4:wrap64 x=x:=by unfold wrap64;omega
   clear hle
   go_enter Tryz.func129,Tryz.ntmps129
   go_wp2_with fail
   go_quiet ((go_at_call 189;refine Calls.quiet_of_same (HC.out _)))
   go_wp2_with fail
   go_ret
   rcases HR.out with⟨_,v,h1,h2⟩ | ⟨h,_⟩
   ·refine⟨Or.inl ⟨v,p+k,h1,ri (by omega),(by refine PdX.at' ?_ (by omega);repeat (first | exact⟨_,H.out⟩ | refine PdX.setP ?_ _ | refine PdX.drewN ?_ _))⟩,(by repeat (first | exact RTo.refl _ _ | apply RTo.set | apply RTo.drewN))⟩
   ·cases h
end
section
open Go.RowKit
inductive RS where
 | good (p s:Nat)
 | bad (s:Nat)
def nxS (n:Nat)(f:Nat->Nat):RS->RS
 | .good p _=>match Zcl n f p with
  | some (_,q)=> .good q p
  | none=> .bad p
 | .bad s=> .bad s
def nxV (n:Nat)(f:Nat->Nat):RS->Nat
 | .good p _=>match Zcl n f p with
  | some (v,_)=>v
  | none=>0
 | .bad _=>0
theorem Zcj {n:Nat}{f:Nat->Nat}{p s v q:Nat}(h:Zcl n f p=some (v,q)):nxS n f (.good p s)= .good q p:=by simp [nxS,h]
theorem Zb2 {n:Nat}{f:Nat->Nat}{p s v q:Nat}(h:Zcl n f p=some (v,q)):nxV n f (.good p s)=v:=by simp [nxV,h]
theorem Zc0 {n:Nat}{f:Nat->Nat}{p s:Nat}(h:Zcl n f p=none):nxS n f (.good p s)= .bad p:=by simp [nxS,h]
theorem nxV_le (n:Nat)(f:Nat->Nat)(r:RS):nxV n f r<=2097151:=by
 cases r with
 | bad s=>simp [nxV]
 | good p s =>
  cases h:Zcl n f p with
  | none=>simp [nxV,h]
  | some x =>
   obtain⟨v,q⟩:=x
   rw [Zb2 h]
   exact (Zb3 h).2.2
def nxN (n:Nat)(f:Nat->Nat):Nat->RS->RS
 | 0,r=>r
 | k+1,r=>nxS n f (nxN n f k r)
theorem nxN_bad (n:Nat)(f:Nat->Nat)(k s:Nat):nxN n f k (.bad s)= .bad s:=by
 induction k with
 | zero=>rfl
 | succ k ih=>simp only [nxN,ih,nxS]
theorem nxN_add (n:Nat)(f:Nat->Nat)(j k:Nat)(r:RS):nxN n f (j+k) r=nxN n f k (nxN n f j r):=by
 induction k with
 | zero=>rfl
 | succ k ih=>rw [<-Nat.add_assoc];simp only [nxN,ih]
theorem Zck {n:Nat}{f:Nat->Nat}{j m:Nat}{r:RS}{s:Nat}(h:nxN n f j r= .bad s)(hjm:j<=m):nxN n f m r= .bad s:=by
 obtain⟨k,rfl⟩:∃k,m=j+k:=⟨m - j,by omega⟩
 rw [nxN_add,h,nxN_bad]
def ndS (n:Nat)(f:Nat->Nat)(r:RS):RS:=nxN n f (7+nxV n f (nxN n f 6 r)) r
def ndN (n:Nat)(f:Nat->Nat):Nat->RS->RS
 | 0,r=>r
 | k+1,r=>ndS n f (ndN n f k r)
theorem ndS_bad (n:Nat)(f:Nat->Nat)(s:Nat):ndS n f (.bad s)= .bad s:=nxN_bad _ _ _ _
theorem ndN_bad (n:Nat)(f:Nat->Nat)(k s:Nat):ndN n f k (.bad s)= .bad s:=by
 induction k with
 | zero=>rfl
 | succ k ih=>simp only [ndN,ih,ndS_bad]
theorem ndN_add (n:Nat)(f:Nat->Nat)(j k:Nat)(r:RS):ndN n f (j+k) r=ndN n f k (ndN n f j r):=by
 induction k with
 | zero=>rfl
 | succ k ih=>rw [<-Nat.add_assoc];simp only [ndN,ih]
theorem ndN_stuck {n:Nat}{f:Nat->Nat}{j m:Nat}{r:RS}{s:Nat}(h:ndN n f j r= .bad s)(hjm:j<=m):ndN n f m r= .bad s:=by
 obtain⟨k,rfl⟩:∃k,m=j+k:=⟨m - j,by omega⟩
 rw [ndN_add,h,ndN_bad]
def st0 (n:Nat)(f:Nat->Nat):RS:=nxN n f 2 (.good 0 0)
def st (n:Nat)(f:Nat->Nat)(i:Nat):RS:=ndN n f i (st0 n f)
def Zag (n:Nat)(f:Nat->Nat):FlowD where
 dl:=nxV n f (.good 0 0)
 n:=nxV n f (nxN n f 1 (.good 0 0))
 bu i:=nxV n f (st n f i)
 cl i:=nxV n f (nxN n f 1 (st n f i))
 be i:=nxV n f (nxN n f 2 (st n f i))
 ba i:=nxV n f (nxN n f 3 (st n f i))
 ca i:=nxV n f (nxN n f 4 (st n f i))
 ji i:=nxV n f (nxN n f 5 (st n f i))
 an i:=nxV n f (nxN n f 6 (st n f i))
 af i k:=nxV n f (nxN n f (7+k) (st n f i))
def stE (n:Nat)(f:Nat->Nat):RS:=st n f (Zag n f).n
def noFlow:FlowD:=⟨0,0,fun _=>0,fun _=>0,fun _=>0,fun _=>0,fun _=>0,fun _=>0,fun _=>0,fun _ _=>0⟩
def DecIs (n:Nat)(f:Nat->Nat)(x y:Int)(G:FlowD):Prop :=
 (∃s,stE n f= .bad s/\x=1/\y=s/\G=noFlow) \/
 (∃p s,stE n f= .good p s/\p<n/\x=1/\y=p/\G=noFlow) \/
 (∃p s,stE n f= .good p s/\n<=p/\ChkIs (Zag n f) x y/\(x=0->G=Zag n f)/\(x≠0->G=noFlow))
end
end Go.Proofs.YtgdcjccbdmcebabGreatDoor
namespace Go.Proofs.YtgdcjccbdmcebabGreatDoor
open Go.RowKit
set_option maxRecDepth 100000
abbrev badP (p:Nat):Ending:= .panicked [{ v:= .iface 253 (.int .i64 (p:Nat)),recovered:=false }]
theorem RTo.grown {w w':World}{R:Nat}(h:RTo w w' R):w.grownBy w' (some R):=⟨h.os,h.tape,h.output,by rw [h.size];exact Nat.le_refl _,fun k _ hk=>h.block k (fun e=>hk (by rw [e]))⟩
theorem Za4 {a b c:World}{R:Nat}(h:a.grownBy b (some R))(h2:b.grownBy c (some R)):a.grownBy c (some R) :=
 ⟨h2.os.trans h.os,h2.tape.trans h.tape,h2.output.trans h.output,Nat.le_trans h.size h2.size,fun k hk hr=>(h2.block k (Nat.lt_of_lt_of_le hk h.size) hr).trans (h.block k hk hr)⟩
theorem BytesAt.grown {w w':World}{R:Nat}{a:Option Addr}{n cap:Nat}{f:Nat->Nat}(h:BytesAt w a n cap f)(hR:∀b o,a=some ⟨b,o,none⟩->b≠R)(ht:w.grownBy w' (some R)):BytesAt w' a n cap f:=by
 rcases h with h0 | ⟨b,o,rfl,h1,h2,h3,h4⟩
 ·exact Or.inl h0
 ·have hr:=hR b o rfl
  exact Or.inr ⟨b,o,rfl,h1,h2,Nat.lt_of_lt_of_le h3 ht.size,fun k hk=>⟨(World.cell?_of_block (ht.block b h3 (by simpa using hr))).trans (h4 k hk).1,(h4 k hk).2⟩⟩
theorem grown_row {a b c:World}{R:Nat}{o:Obj}{r:Option Nat}(h:a.grownBy b (some R))(h2:(b.alloc o).grownBy c r)(hr:∀z,r=some z->a.heap.size<=z):a.grownBy c (some R):=by
 have h3:Below b.heap.size b (b.alloc o):=(Below.refl _ _).alloc (Nat.le_refl _) _
 refine⟨h2.os.trans h.os,h2.tape.trans h.tape,h2.output.trans h.output,Nat.le_trans h.size (Nat.le_trans h3.size h2.size),fun k hk hkr=> ?_⟩
 have hkb:=Nat.lt_of_lt_of_le hk h.size
 rw [h2.block k (Nat.lt_of_lt_of_le hkb h3.size) (fun e=>by have:=hr k e.symm;omega),h3.block k hkb,h.block k hk hkr]
theorem PdAt.grown {w w':World}{R:Nat}{a:Option Addr}{n cap:Nat}{p:Int}{o:Obj}{r:Option Nat}(h:PdAt w R a n cap p)(hR:R<w.heap.size)(hg:(w.alloc o).grownBy w' r)(hr:some R≠r):PdAt w' R a n cap p:=by
 have h3:Below w.heap.size w (w.alloc o):=(Below.refl _ _).alloc (Nat.le_refl _) _
 have e:w'.heap[R]? =w.heap[R]? :=(hg.block R (Nat.lt_of_lt_of_le hR h3.size) hr).trans (h3.block R hR)
 exact⟨(World.cell?_of_block (a:=⟨R,0,none⟩) e).trans h.c0,(World.cell?_of_block (a:=⟨R,1,none⟩) e).trans h.c1,(World.frozen?_of_block (a:=⟨R,1,none⟩) e).trans h.f1⟩
set_option maxHeartbeats 1000000 in
theorem pend_any (w:World)(R:Nat)(a:Option Addr)(n cap:Nat)(p:Nat)(hn:n<=maxLen)(hp:p<=n)(h:PdAt w R a n cap p) :
  Calls Tryz.prog 133 #[.pointer (some ⟨R,0,none⟩)] w fun e w'=>((p<n/\e=badP p)\/(n<=p/\e= .returned (.tuple #[])))/\RTo w w' R:=by
 unfold maxLen at hn
 obtain⟨c0,c1,f1⟩:=h
 have HR:Hid (∀q,RTo w (w.drewN q) R):=Hid.mk fun q=>(RTo.refl _ _).drewN q
 by_cases h1:p<n
 ·go_enter Tryz.func133,Tryz.ntmps133
  go_wp2_with fail
  go_quiet (fail)
  go_wp2_with fail
  exact⟨rfl,Or.inl ⟨h1,rfl⟩,HR.out _⟩
 ·obtain rfl:p=n:=by omega
  go_enter Tryz.func133,Tryz.ntmps133
  go_wp2_with fail
  go_quiet (fail)
  go_wp2_with fail
  go_end0
  exact⟨Or.inr ⟨Nat.le_refl _,rfl⟩,HR.out _⟩
def PlistIs (B:Nat)(w':World)(R:Nat)(a:Option Addr)(n cap:Nat)(f:Nat->Nat)(r:RS)(e:Ending):Prop :=
 (∃q s la lc,nxN n f (1+nxV n f r) r= .good q s/\q<=n/\e= .returned (.slice la (nxV n f r) lc)/\w'.ownsRow B 3 1 (.slice la (nxV n f r) lc) (nxV n f r) (Zc5 (nxV n f r) fun k=>nxV n f (nxN n f (1+k) r))/\PdAt w' R a n cap (q:Nat)) \/
 (∃s,nxN n f (1+nxV n f r) r= .bad s/\e=badP s)
set_option maxHeartbeats 4000000 in
theorem plist_any (w:World)(R:Nat)(a:Option Addr)(n cap:Nat)(f:Nat->Nat)(p s:Nat)(hRB:R<w.heap.size)(hn:n<=maxLen)(hp:p<=n)(h:PdAt w R a n cap p)(hR:∀b o,a=some ⟨b,o,none⟩->b≠R)(hb:BytesAt w a n cap f) :
  Calls Tryz.prog 132 #[.pointer (some ⟨R,0,none⟩), .func (.func 129) #[.pointer (some ⟨R,0,none⟩)] #[]] w fun e w'=>PlistIs w.heap.size w' R a n cap f (.good p s) e/\w.grownBy w' (some R):=by
 obtain⟨i3,hi3,hz30,hz31,hz32⟩:=info_parts info3
 have HI3:=Hid.mk (And.intro hi3 (And.intro hz30 (And.intro hz31 hz32)))
 have HB:=Hid.mk hb
 have HRR:=Hid.mk hR
 clear hi3 hz30 hz31 hz32 hb hR
 go_enter Tryz.func132,Tryz.ntmps132
 go_wp2_with fail
 refine (Zcz _ R a n cap f p hn hp h HRR.out HB.out).mono ?_
 rintro e w1 ⟨⟨m,q,hv,rfl,hpd⟩ | ⟨hv,rfl,hpd⟩,ht⟩
 case inr =>
  have HV:=Hid.mk (And.intro hv ht.grown)
  clear hv hpd ht h
  go_wp2_with fail
  refine⟨rfl,Or.inr ⟨p,?_,rfl⟩,HV.out.2⟩
  exact Zck (j:=1) (by simp only [nxN];exact Zc0 HV.out.1) (by omega)
 have hq:=Zb3 hv
 have hs1:nxN n f 1 (.good p s)= .good q p:=by simp only [nxN];exact Zcj hv
 have hv1:nxV n f (.good p s)=m:=Zb2 hv
 have HS1:=Hid.mk (And.intro hs1 hv1)
 have HT1:=Hid.mk ht.grown
 have HP1:=Hid.mk hpd
 clear hv hs1 hv1 ht hpd h
 go_wp2_with fail
 go_loopw [5,8] (fun lv iv wr=>∃(k:Nat) (la:Option Addr) (lc q s':Nat),iv= .int .i64 k/\k<=m/\lv= .slice la k lc/\wr.ownsRow w.heap.size 3 1 (.slice la k lc) k (Zc5 k fun k=>nxV n f (nxN n f (1+k) (.good p s)))/\nxN n f (1+k) (.good p s)= .good q s'/\q<=n/\PdAt wr R a n cap (q:Nat)/\w.grownBy wr (some R)) (fun _ iv _=>m - (intOf iv).toNat)
 case atStart=>exact⟨0,none,0,q,p,rfl,by omega,rfl,World.ownsRow_nil _ _ _ _,HS1.out.1,hq.2.1,HP1.out,HT1.out⟩
 case round =>
  obtain⟨k,la,lc,q2,s2,rfl,hk,rfl,hown,hst,hq2,hpd2,hg2⟩:=hrel
  rename World=>w2
  have HO:=Hid.mk hown
  have HST:=Hid.mk hst
  have HPD:=Hid.mk hpd2
  have HG2:=Hid.mk hg2
  have hB2:w.heap.size<=w2.heap.size:=hg2.size
  clear hown hst hpd2 hg2
  by_cases h1:k<m
  ·go_wp2_with fail
   refine (Zcz _ R a n cap f q2 hn hq2 HPD.out HRR.out (HB.out.grown HRR.out HG2.out)).mono ?_
   rintro e w3 ⟨⟨v,q3,hv,rfl,hpd⟩ | ⟨hv,rfl,hpd⟩,ht⟩
   case inr =>
    have HV:=Hid.mk (And.intro hv ht.grown)
    clear hv hpd ht
    go_wp2_with fail
    refine⟨rfl,Or.inr ⟨q2,?_,rfl⟩,Za4 HG2.out HV.out.2⟩
    rw [HS1.out.2]
    exact Zck (j:=1+k+1) (by simp only [nxN];rw [HST.out];exact Zc0 HV.out.1) (by omega)
   have hq3:=Zb3 hv
   have HV:=Hid.mk (And.intro hv (And.intro ht hpd))
   have hB3:w.heap.size<=w3.heap.size:=by rw [ht.size];exact hB2
   clear hv ht hpd
   have HO3:Hid (∀ob,(w3.alloc ob).ownsRow w.heap.size 3 1 (.slice la k lc) k (Zc5 k fun k=>nxV n f (nxN n f (1+k) (.good p s)))):=Hid.mk fun ob=>by
    refine (HO.out.kept HV.out.2.1.grown ?_).alloc ob
    cases hob:(Value.slice la k lc).ownBlock with
    | none=>exact Or.inl rfl
    | some z=>right;have:=(HO.out.lt z hob).1;simp;omega
   go_wp2_with (at_builtin;refine wpList_append_own _ rfl (.tmp 10) (.tmp 13) 22 rfl w.heap.size 3 i3 (.int .i64 0) 1 8 Tryz.underlying22 HI3.out.1 HI3.out.2.1 HI3.out.2.2.1 HI3.out.2.2.2 rfl (by decide) (.slice la k lc) k (Zc5 k fun k=>nxV n f (nxN n f (1+k) (.good p s))) rfl (HO3.out _) ⟨w3.heap.size,0,none⟩ 1 1 [.int .i64 v] rfl rfl (news1 _ _ _ _ rfl) (by intro u hu;simp only [List.mem_singleton] at hu;subst hu;rfl) (by unfold maxLen;omega) (by omega) (by simp;omega) ?_;intro v4 w4 hown4 hgrow4 hiff;clear hiff;obtain⟨xa,xc,rfl⟩:=Za3 hown4;have HO4:=Hid.mk (And.intro hown4 hgrow4);clear hown4 hgrow4)
   go_roundw
   case rel =>
    have hrow:∀z,(Value.slice la k lc).ownBlock=some z->w.heap.size<=z:=fun z hz=>(HO.out.lt z hz).1
    refine⟨k+1,xa,xc,q3,q2,by go_num,by omega,rfl,?_,?_,hq3.2.1,?_,grown_row (Za4 HG2.out HV.out.2.1.grown) HO4.out.2 hrow⟩
    ·have e:Zc5 (k+1) (fun k=>(nxV n f (nxN n f (1+k) (.good p s)):Int))=Zc5 k (fun k=>(nxV n f (nxN n f (1+k) (.good p s)):Int))++[.int .i64 v]:=by
      simp only [Zc5,List.range_succ,List.map_append,List.map_cons,List.map_nil]
      rw [HST.out,Zb2 HV.out.1]
     rw [e]
     exact HO4.out.1
    ·show nxN n f (1+k+1) _=_
     simp only [nxN]
     rw [HST.out]
     exact Zcj HV.out.1
    ·exact HV.out.2.2.grown (by omega) HO4.out.2 (fun e=>by have:=hrow R e.symm;omega)
   case measure=>simp [intOf];omega
  ·obtain rfl:k=m:=by omega
   go_wp2_with fail
   go_ret
   exact⟨Or.inl ⟨q2,s2,la,lc,by rw [HS1.out.2];exact HST.out,hq2,(by rw [HS1.out.2];rfl),by rw [HS1.out.2];exact HO.out,HPD.out⟩,HG2.out⟩
end Go.Proofs.YtgdcjccbdmcebabGreatDoor
