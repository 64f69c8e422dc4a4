import Derived.Test.YtgdcjccbdmcebabGreatDoorM25
import Derived.Laws.IdiomStrings
import Derived.StringKeys
set_option linter.unusedSimpArgs false
set_option linter.unusedVariables false
namespace Go.Proofs.YtgdcjccbdmcebabGreatDoor
set_option maxRecDepth 100000
structure OpD where
 kind:Int
 at_:Nat
 data:List Int
def OpD.z:OpD:=⟨0,0,[]⟩
abbrev FilD:=Nat->Option (List Int)
def noFil:FilD:=fun _=>none
def doF (f:FilD)(o:OpD):FilD:=fun i=>if i=o.at_ then (if o.kind=3 then none else if o.kind=2 then some ((f i).getD []++o.data) else some o.data) else f i
structure DkD where
 dur:FilD
 now:FilD
 pend:List OpD
 left:Int
 full:Int
 down:Bool
def wI (x:Int):Int:=(x+9223372036854775808) % 18446744073709551616 - 9223372036854775808
def DkD.wErr (d:DkD):Int:=if d.down=true\/d.left=0 then 11 else if d.full=0 then 10 else 0
def DkD.wrote (d:DkD):DkD:=if d.down=true\/d.left=0 then { d with down:=true } else if d.full=0 then { d with left:=wI (d.left - 1),full:= -1 } else { d with left:=wI (d.left - 1),full:=wI (d.full - 1) }
def DkD.tErr (d:DkD)(o:OpD):Int:=if d.wErr≠0 then d.wErr else if d.now o.at_=none/\o.kind=3 then 9 else 0
def DkD.told (d:DkD)(o:OpD):DkD :=
 if d.wErr=11 then { d.wrote with pend:=d.pend++[o] } else if d.tErr o≠0 then d.wrote else { d.wrote with now:=doF d.now o,pend:=d.pend++[o] }
def DkD.synced (d:DkD):DkD:=if d.wErr≠0 then d.wrote else { d.wrote with dur:=d.pend.foldl doF d.dur,pend:=[] }
def leB (n:Nat):List Int:=if h:n=0 then [] else ((n % 256:Nat):Int)::leB (n / 256)
theorem leB_zero:leB 0=[]:=by unfold leB;rw [dif_pos rfl]
theorem leB_pos {n:Nat}(h:n≠0):leB n=((n % 256:Nat):Int)::leB (n / 256):=by
 rw [leB,dif_neg h]
theorem leB_len:∀k n:Nat,n<256 ^ k->(leB n).length<=k
 | 0,n,h=>by
  have:n=0:=by simpa using h
  subst this;rw [leB_zero];exact Nat.le_refl _
 | k+1,n,h=>by
  by_cases h0:n=0
  ·subst h0;rw [leB_zero];exact Nat.zero_le _
  ·rw [leB_pos h0,List.length_cons]
   have:=leB_len k (n / 256) (Nat.div_lt_of_lt_mul (by rw [Nat.pow_succ] at h;rw [Nat.mul_comm];exact h))
   omega
def recB (op:Int)(data:List Int)(n:Nat):List Int:=op::data++leB n
def fnvS (s c:Nat):Nat:=(s ^^^ c) * 16777619 % 4294967296
def fnvN (l:List Int):Nat:=l.foldl (fun s c=>fnvS s c.toNat) 2166136261
def sealB (l:List Int):List Int:=[((fnvN l % 256:Nat):Int),((fnvN l / 256 % 256:Nat):Int),((fnvN l / 65536 % 256:Nat):Int),((fnvN l / 16777216 % 256 ||| 1:Nat):Int)]
theorem sealB_len (l:List Int):(sealB l).length=4:=rfl
def headB (l:List Int):List Int:=[((l.length % 256:Nat):Int),((l.length / 256 % 256:Nat):Int)]
def frameB (l:List Int):List Int:=headB l++l++sealB l
theorem frameB_len (l:List Int):(frameB l).length=l.length+6:=by unfold frameB headB;simp [sealB_len]
def Zcq (short:Nat)(l:List Int):List Int:=List.replicate short 0++frameB l
theorem wroteB_len (short:Nat)(l:List Int):(Zcq short l).length=short+l.length+6:=by unfold Zcq;rw [List.length_append,List.length_replicate,frameB_len];omega
def SzF (f:FilD)(M:Nat):Prop:=∀i s,f i=some s->s.length<=M
theorem SzF.do_ {f:FilD}{M:Nat}(h:SzF f M)(o:OpD){N:Nat}(hN:M+o.data.length<=N):SzF (doF f o) N:=by
 intro i s hs
 unfold doF at hs
 split at hs
 ·split at hs
  ·cases hs
  ·split at hs
   ·simp only [Option.some.injEq] at hs
    subst hs
    rw [List.length_append]
    cases e:f i with
    | none=>simp;omega
    | some t=>have:=h i t e;simp;omega
   ·simp only [Option.some.injEq] at hs
    subst hs
    omega
 ·have:=h i s hs;omega
theorem SzF.mono {f:FilD}{M N:Nat}(h:SzF f M)(hN:M<=N):SzF f N:=fun i s hs=>Nat.le_trans (h i s hs) hN
end Go.Proofs.YtgdcjccbdmcebabGreatDoor
namespace Go.Proofs.YtgdcjccbdmcebabGreatDoor
section
open Go.RowKit
set_option maxRecDepth 100000
theorem BytesAt.below {w w':World}{a:Option Addr}{n cap:Nat}{f:Nat->Nat}(h:BytesAt w a n cap f)(hb:Below w.heap.size w w'):BytesAt w' a n cap f:=by
 rcases h with h0 | ⟨b,o,rfl,h1,h2,h3,h4⟩
 ·exact Or.inl h0
 ·exact Or.inr ⟨b,o,rfl,h1,h2,Nat.lt_of_lt_of_le h3 hb.size,fun k hk=>⟨(hb.cell (p:=⟨b,o+k,none⟩) h3).trans (h4 k hk).1,(h4 k hk).2⟩⟩
def PdecIs (B:Nat)(w':World)(n:Nat)(f:Nat->Nat)(e:Ending):Prop :=
 (∃(y:Int) (la:Option Addr) (lc:Nat) (Na:Nat->Option Addr) (Nc:Nat->Nat),DecIs n f 0 y (Zag n f)/\e= .returned (.tuple #[flV (Zag n f).dl (.slice la (Zag n f).n lc), .nilIface])/\CopyAt B w' (Zag n f) (.slice la (Zag n f).n lc) (Zag n f).n Na Nc) \/
 (∃(x y:Int) (q:Nat),x≠0/\DecIs n f x y noFlow/\e= .returned (.tuple #[flV 0 (.slice none 0 0), .iface 105 (.pointer (some ⟨q,0,none⟩))])/\FaultAt w' q x y/\q<w'.heap.size/\B<=q)
theorem FaultAt.set {w:World}{q D o:Nat}{x y:Int}(h:FaultAt w q x y)(hD:q≠D)(v:Value):FaultAt (w.setCell ⟨D,o,none⟩ v) q x y :=
 ⟨(Za7 w D q o 0 v hD).trans h.1,(Za7 w D q o 1 v hD).trans h.2⟩
set_option maxHeartbeats 4000000 in
theorem fdecode_any (w:World)(a:Option Addr)(n cap:Nat)(f:Nat->Nat)(hn:n<=maxLen)(hT:TabIn w)(hg:2<w.heap.size)(ha:∀b o,a=some ⟨b,o,none⟩->b<w.heap.size)(hb:BytesAt w a n cap f) :
  Calls Tryz.prog 51 #[.slice a n cap] w fun e w'=>PdecIs w.heap.size w' n f e/\Below w.heap.size w w':=by
 have HB:=Hid.mk hb
 have HT:=Hid.mk hT
 have HA:=Hid.mk ha
 have hkb:Hid (∀o,Below w.heap.size w (w.alloc o)):=Hid.mk fun o=>(Below.refl _ _).alloc (Nat.le_refl _) _
 have hN:(Zag n f).n<=2097151:=nxV_le _ _ _
 clear hb hT ha
 go_enter Tryz.func51,Tryz.ntmps51
 go_wp2_with fail
 refine (pread_any _ a n cap f hn (fun b o h=>by have:=HA.out b o h;simp;omega) (HB.out.below (hkb.out _))).mono ?_
 rintro e w1 ⟨hx,hb1⟩
 have r0:w1.cell? ⟨w.heap.size,0,none⟩=some (.int .i64 0):=cell_later hb1 (by simp)
 have r1:w1.cell? ⟨w.heap.size,1,none⟩=some (.slice none 0 0):=cell_later hb1 (by simp)
 have rf0:w1.frozen? ⟨w.heap.size,0,none⟩=false:=(hb1.frozen (p:=⟨w.heap.size,0,none⟩) (by simp)).trans (by simp)
 have rf1:w1.frozen? ⟨w.heap.size,1,none⟩=false:=(hb1.frozen (p:=⟨w.heap.size,1,none⟩) (by simp)).trans (by simp)
 have hs1:w.heap.size<w1.heap.size:=by have:=hb1.size;simp at this;omega
 have HB1:Hid (Below w.heap.size w w1):=Hid.mk ((hkb.out _).trans (hb1.mono (by simp)))
 clear hb1
 rcases hx with⟨q,s,la,lc,Na,Nc,hst,hle,rfl,hcp⟩ | ⟨y,blk,x,la,c,lc,hst,rfl,hfa,hblk,hBb⟩
 ·have HX:=Hid.mk (And.intro hst (And.intro hle hcp))
  clear hst hcp
  have hk1:Hid (∀o,Below w1.heap.size w1 (w1.alloc o)):=Hid.mk fun o=>(Below.refl _ _).alloc (Nat.le_refl _) _
  go_wp2_with fail
  refine (check_any (Zag n f) _ la lc Na Nc _ (by unfold maxLen;omega) ((HT.out.keep hg HB1.out).keep (by omega) (hk1.out _)) (by simp;omega) (HX.out.2.2.below (hk1.out _))).mono ?_
  rintro e w2 ⟨hce,hb2⟩
  have p0:w2.cell? ⟨w.heap.size,0,none⟩=some (.int .i64 0):=cell_later (((hk1.out _).trans (hb2.mono (by simp)))) r0
  have p1:w2.cell? ⟨w.heap.size,1,none⟩=some (.slice none 0 0):=cell_later (((hk1.out _).trans (hb2.mono (by simp)))) r1
  have pf0:w2.frozen? ⟨w.heap.size,0,none⟩=false:=((((hk1.out _).trans (hb2.mono (by simp)))).frozen (p:=⟨w.heap.size,0,none⟩) hs1).trans rf0
  have pf1:w2.frozen? ⟨w.heap.size,1,none⟩=false:=((((hk1.out _).trans (hb2.mono (by simp)))).frozen (p:=⟨w.heap.size,1,none⟩) hs1).trans rf1
  have d0:w2.cell? ⟨w1.heap.size,0,none⟩=some (.int .i64 (Zag n f).dl):=cell_later hb2 (by simp)
  have d1:w2.cell? ⟨w1.heap.size,1,none⟩=some (.slice la (Zag n f).n lc):=cell_later hb2 (by simp)
  have HB2:Hid (Below w1.heap.size w1 w2):=Hid.mk ((hk1.out _).trans (hb2.mono (by simp)))
  have hs2:w1.heap.size<=w2.heap.size:=HB2.out.size
  clear r0 r1 rf0 rf1
  rcases hce with⟨rfl,hchk⟩ | ⟨x,y,q2,rfl,hx,hchk,hq1,hq2,hfa⟩
  ·have HK:=Hid.mk hchk
   clear hchk hb2
   have HC:Hid (CopyAt w.heap.size w2 (Zag n f) (.slice la (Zag n f).n lc) (Zag n f).n Na Nc):=Hid.mk ((HX.out.2.2.below HB2.out).base (by simp))
   have HC2:Hid (CopyAt (w.heap.size+1) w2 (Zag n f) (.slice la (Zag n f).n lc) (Zag n f).n Na Nc):=Hid.mk ((HX.out.2.2.below HB2.out).base (by simp))
   go_wp2_with fail
   refine bodyPost_ret (v:= .tuple #[flV (Zag n f).dl (.slice la (Zag n f).n lc), .nilIface]) (by simp [results,Tryz.results51,go_sem,p0,p1]) rfl ⟨Or.inl ⟨-1,la,lc,Na,Nc,Or.inr (Or.inr ⟨q,s,HX.out.1,HX.out.2.1,HK.out,fun _=>rfl,fun h=>absurd rfl h⟩),rfl,?_⟩,?_⟩
   ·exact CopyAt.base (B:=w.heap.size+1) ⟨ownsRow_setCell_below (ownsRow_setCell_below HC2.out.own (by simp) _) (by simp) _,fun i hi=>ownsRow_setCell_below (ownsRow_setCell_below (HC2.out.aft i hi) (by simp) _) (by simp) _⟩ (by omega)
   ·exact ((HB1.out.trans (HB2.out.mono (by omega))).setCell (by simp) _).setCell (by simp) _
  ·have HK:=Hid.mk hchk
   have hq1':w1.heap.size<=q2:=by simp at hq1;omega
   clear hchk hb2
   go_wp2_with fail
   refine bodyPost_ret (v:= .tuple #[flV 0 (.slice none 0 0), .iface 105 (.pointer (some ⟨q2,0,none⟩))]) (by simp [results,Tryz.results51,go_sem,p0,p1]) rfl ⟨Or.inr ⟨x,y,q2,hx,Or.inr (Or.inr ⟨q,s,HX.out.1,HX.out.2.1,HK.out,fun h=>absurd h hx,fun _=>rfl⟩),rfl,(hfa.set (by omega) _).set (by omega) _,by simpa [World.setCell] using hq2,by omega⟩,?_⟩
   exact ((HB1.out.trans (HB2.out.mono (by omega))).setCell (by simp) _).setCell (by simp) _
 ·have HX:=Hid.mk hst
  clear hst
  have hBb':w.heap.size+1<=blk:=by simpa using hBb
  have HS:Hid (∀u v,Below w.heap.size w ((w1.setCell ⟨w.heap.size,0,none⟩ u).setCell ⟨w.heap.size,1,none⟩ v)/\FaultAt ((w1.setCell ⟨w.heap.size,0,none⟩ u).setCell ⟨w.heap.size,1,none⟩ v) blk 1 y/\((w1.setCell ⟨w.heap.size,0,none⟩ u).setCell ⟨w.heap.size,1,none⟩ v).cell? ⟨w.heap.size,0,none⟩=some u/\((w1.setCell ⟨w.heap.size,0,none⟩ u).setCell ⟨w.heap.size,1,none⟩ v).cell? ⟨w.heap.size,1,none⟩=some v/\blk<((w1.setCell ⟨w.heap.size,0,none⟩ u).setCell ⟨w.heap.size,1,none⟩ v).heap.size):=Hid.mk fun u v =>
   ⟨(HB1.out.setCell (by simp) _).setCell (by simp) _,(hfa.set (by omega) _).set (by omega) _,(Zab _ _ 1 0 _ (by decide)).trans (World.cell?_setCell_same _ _ _ r0),World.cell?_setCell_same _ _ _ ((Zab _ _ 0 1 _ (by decide)).trans r1),by simpa [World.setCell] using hblk⟩
  go_wp2_with fail
  obtain⟨s1,s2,s3,s4,s5⟩:=HS.out (.int .i64 0) (.slice none 0 0)
  have z0:=cell_later (((Below.refl _ _).alloc (Nat.le_refl _) (.cells #[.int .i64 x, .slice la c lc] 31))) s3
  have z1:=cell_later (((Below.refl _ _).alloc (Nat.le_refl _) (.cells #[.int .i64 x, .slice la c lc] 31))) s4
  have hs5:w.heap.size<=((w1.setCell ⟨w.heap.size,0,none⟩ (.int .i64 0)).setCell ⟨w.heap.size,1,none⟩ (.slice none 0 0)).heap.size:=s1.size
  refine bodyPost_ret (v:= .tuple #[flV 0 (.slice none 0 0), .iface 105 (.pointer (some ⟨blk,0,none⟩))]) (by simp [results,Tryz.results51,go_sem,z0,z1]) rfl ⟨Or.inr ⟨1,y,blk,by decide,?_,rfl,s2.keep s5 ((Below.refl _ _).alloc (Nat.le_refl _) _),by simp;omega,by omega⟩,?_⟩
  ·rcases HX.out with h | ⟨s,h,hlt⟩
   ·exact Or.inl ⟨y,h,rfl,rfl,rfl⟩
   ·exact Or.inr (Or.inl ⟨y,s,h,hlt,rfl,rfl,rfl⟩)
  ·exact s1.alloc hs5 _
end
section
open Go.RowKit
set_option maxRecDepth 100000
end
end Go.Proofs.YtgdcjccbdmcebabGreatDoor
namespace Go.Proofs.YtgdcjccbdmcebabGreatDoor
open Go.RowKit
set_option maxRecDepth 100000
def AllB (l:List Int):Prop:=∀x∈l,0<=x/\x<256
theorem AllB.append {a b:List Int}(h:AllB a)(h2:AllB b):AllB (a++b):=fun x hx=>by
 rcases List.mem_append.1 hx with h3 | h3
 ·exact h x h3
 ·exact h2 x h3
theorem Zby:∀n:Nat,AllB (numL n):=by
 intro n
 induction n using Nat.strongRecOn with
 | _ n ih =>
  by_cases h:n<128
  ·rw [Zb9 h]
   intro x hx
   simp only [List.mem_singleton] at hx
   omega
  ·rw [Zd0 h]
   intro x hx
   rcases List.mem_cons.1 hx with rfl | hx
   ·omega
   ·exact ih (n / 128) (by omega) x hx
theorem nodeB_byte (F:FlowD)(i:Nat):AllB (nodeB F i):=by
 have hs:∀(f:Nat->Nat) (k:Nat),AllB (numsL f k):=by
  intro f k
  induction k with
  | zero=>intro x hx;cases hx
  | succ k ih=>exact ih.append (Zby _)
 exact ((((((((Zby _).append (Zby _)).append (Zby _)).append (Zby _)).append (Zby _)).append (Zby _)).append (Zby _)).append (hs _ _))
theorem flowB_byte (F:FlowD):AllB (Zat F):=by
 have hs:∀k,AllB (nodesB F k):=by
  intro k
  induction k with
  | zero=>intro x hx;cases hx
  | succ k ih=>exact ih.append (nodeB_byte F k)
 exact ((Zby _).append (Zby _)).append (hs _)
theorem flowB_len {F:FlowD}(ht:OkTop F)(h:∀i,i<F.n->NatNode F i):(Zat F).length<=4096:=by
 have h1:=nodesB_len (k:=F.n) h
 have h2:=Zaw (n:=F.dl.toNat) (by have:=ht.dl2;omega)
 have h3:=Zaw (n:=F.n) (by have:=ht.n2;omega)
 have:=ht.n2
 simp only [Zat,List.length_append]
 omega
theorem row_bytes {B:Nat}{w:World}{v:Value}{l:List Int}(h:ByteRow B w v l)(hl:AllB l) :
  ∃(a:Option Addr) (c:Nat),v= .slice a l.length c/\(a=none->l.length=0/\c=0)/\(∀b o,a=some ⟨b,o,none⟩->b<w.heap.size)/\BytesAt w a l.length c (fun k=>(l.getD k 0).toNat)/\(∀k,k<l.length->(l.getD k 0).toNat<256) /\
   (l.length=0\/∃g,a=some ⟨g,0,none⟩/\∀k,k<l.length->w.cell? ⟨g,k,none⟩=(bv l)[k]?):=by
 have hlt:∀k,k<l.length->0<=l.getD k 0/\l.getD k 0<256:=fun k hk=>by
  rw [List.getD_eq_getElem?_getD,List.getElem?_eq_getElem hk]
  exact hl _ (List.getElem_mem _)
 have hat:∀k,k<l.length->(bv l)[k]? =some (.int .u8 (((l.getD k 0).toNat:Nat):Int)):=fun k hk=>by
  have h1:=hlt k hk
  rw [Int.toNat_of_nonneg h1.1,List.getD_eq_getElem?_getD,List.getElem?_eq_getElem hk]
  simp [bv,hk]
 rcases h.2 with⟨rfl,h2⟩ | ⟨g,cap,cur,rfl,hg,hh,h3,h4,h5,h6⟩
 ·refine⟨none,0,by rw [h2],fun _=>⟨h2,rfl⟩,fun b o e=>by (cases e),Or.inl h2,fun k hk=>by omega,Or.inl h2⟩
 ·obtain⟨hlt2,_⟩:=Array.getElem?_eq_some_iff.1 hh
  have key:∀k,k<l.length->w.cell? ⟨g,k,none⟩=(bv l)[k]? :=fun k hk=>h.cellAt k (by omega)
  refine⟨_,_,rfl,fun e=>by (cases e),fun b o e=> ?_,Or.inr ⟨g,0,rfl,h3,h4,hlt2,fun k hk=>⟨by rw [Nat.zero_add,key k hk];exact hat k hk,by show (l.getD k 0).toNat<256;have:=hlt k hk;omega⟩⟩,fun k hk=>by have:=hlt k hk;omega,Or.inr ⟨g,rfl,key⟩⟩
  obtain⟨rfl,_⟩:g=b/\0=o:=by simpa using e
  exact hlt2
def Zcd (l:List Int):ByteArray:=l.foldl (fun r n=>r.push (UInt8.ofNat n.toNat)) ByteArray.empty
theorem run_string_of {w:World}{g c:Nat}{l:List Int}(h:∀k,k<l.length->w.cell? ⟨g,k,none⟩=(bv l)[k]?) :
  (convert 35 9 (.slice (some ⟨g,0,none⟩) l.length c)).run Tryz.prog w= .ok (.string (Zcd l)) w:=by
 rw [run_convert_bytes_string w 35 9 5 _ _ _ Tryz.underlying35 Tryz.underlying5 Tryz.underlying9]
 have hl:=run_loadCells_list (P:=Tryz.prog) w ⟨g,0,none⟩ (bv l) (fun j v hj=>by
  have hj':j<l.length:=by have:=(List.getElem?_eq_some_iff.1 hj).1;simpa [bv] using this
  rw [show (⟨g,0,none⟩:Addr).add j=⟨g,j,none⟩ by rw [Zb5,Nat.zero_add],h j hj',hj])
 rw [bv_length] at hl
 exact run_bytesToString w ⟨g,0,none⟩ l.length c l hl
theorem run_string_nil (w:World):(convert 35 9 (.slice none 0 0)).run Tryz.prog w= .ok (.string ByteArray.empty) w:=by kernel_rfl
end Go.Proofs.YtgdcjccbdmcebabGreatDoor
namespace Go.Proofs.YtgdcjccbdmcebabGreatDoor
open Go.RowKit
open Go.Maps (Keyed)
set_option maxRecDepth 100000
def strR:Value->Option (DataW Unit×List MemPlace)
 | .pointer (some ⟨b,0,none⟩)=>some (.lit (.int .u64 b),[])
 | .pointer none=>some (.nil,[])
 | _=>none
theorem strR_some {v:Value}{b:Int}{ps:List MemPlace}(h:strR v=some (.lit (.int .u64 b),ps)):∃n:Nat,b=n/\v= .pointer (some ⟨n,0,none⟩):=by
 unfold strR at h
 split at h
 ·simp at h;exact⟨_,h.1.symm,rfl⟩
 ·simp at h
 ·cases h
theorem keyedS:Keyed Tryz.prog 9:=Maps.string_keyed Tryz.underlying9
theorem zeroSp (w:World):(zeroValue 102).run Tryz.prog w= .ok (.pointer none) w:=by kernel_rfl
def nmL:Nat->List UInt8
 | 0=>[108,111,103]
 | 1=>[108,111,103,48]
 | _=>[108,111,103,49]
def nmB (i:Nat):ByteArray:=⟨(nmL i).toArray⟩
theorem nmL_inj {i j:Nat}(hi:i<3)(hj:j<3)(h:nmL i=nmL j):i=j:=by
 have:∀i:Fin 3,∀j:Fin 3,nmL i.val=nmL j.val->i=j:=by decide
 exact congrArg Fin.val (this ⟨i,hi⟩ ⟨j,hj⟩ h)
theorem keyOf_nm (i:Nat):keyOf Tryz.prog 9 (.string (nmB i))=some (.string (nmL i)):=by
 have:=WideMaps.keyOf_string_mk (P:=Tryz.prog) Tryz.underlying9 (s:=nmB i) (by unfold maxLen nmB nmL;split<;>decide)
 simpa [nmB] using this
def cntF (f:FilD):Nat:=(if (f 0).isSome then 1 else 0)+(if (f 1).isSome then 1 else 0)+(if (f 2).isSome then 1 else 0)
theorem cntF_le (f:FilD):cntF f<=3:=by unfold cntF;split<;>split<;>split<;>omega
def StrAt (w:World)(b:Nat)(s:List Int):Prop:=w.heap[b]? =some (.cells #[.string (Zcd s)] 9 (0,0))
structure FilAt (w:World)(bm:Nat)(f:FilD)(D:DataW Unit):Prop where
 own:w.ownsMap Tryz.prog 9 strR bm 3 D
 size:Maps.size D=cntF f
 has:∀key,Maps.has D (.string key)=true↔∃i,i<3/\key=nmL i/\(f i).isSome=true
 at_:∀i s,i<3->f i=some s->∃b:Nat,D.atKey (.string (nmL i)) .nil= .lit (.int .u64 b)/\StrAt w b s
theorem FilAt.hasI {w:World}{bm:Nat}{f:FilD}{D:DataW Unit}(h:FilAt w bm f D){i:Nat}(hi:i<3):Maps.has D (.string (nmL i))=(f i).isSome:=by
 cases e:(f i).isSome with
 | true=>exact (h.has _).2 ⟨i,hi,rfl,e⟩
 | false =>
  cases e2:Maps.has D (.string (nmL i)) with
  | false=>rfl
  | true =>
   obtain⟨j,hj,h1,h2⟩:=(h.has _).1 e2
   have:=nmL_inj hi hj h1
   subst this
   rw [e] at h2;cases h2
theorem FilAt.look {w:World}{bm:Nat}{f:FilD}{D:DataW Unit}(h:FilAt w bm f D){i:Nat}(hi:i<3):∃v,(Instr.lookup 98 (.map (some bm)) (.string (nmB i)) true).run Tryz.prog w= .ok (.tuple #[v, .bool (f i).isSome]) w/\∀s,f i=some s->∃b:Nat,v= .pointer (some ⟨b,0,none⟩)/\StrAt w b s:=by
 obtain⟨v,ps,hrun,hv⟩:=World.ownsMap.look_ok h.own keyedS Tryz.underlying98 (zeroSp w) (zd:= .nil) (zp:=[]) rfl (keyOf_nm i)
 rw [h.hasI hi] at hrun
 refine⟨v,hrun,fun s hs=> ?_⟩
 obtain⟨b,hb,hS⟩:=h.at_ i s hi hs
 rw [hb] at hv
 obtain⟨n,hn,hv2⟩:=strR_some hv
 have:b=n:=by omega
 subst this
 exact⟨b,hv2,hS⟩
theorem FilAt.keepS {w w':World}{bm:Nat}{f:FilD}{D:DataW Unit}(h:FilAt w bm f D)(hm:w'.heap[bm]? =w.heap[bm]?)(hs:∀k s,StrAt w k s->w'.heap[k]? =w.heap[k]?):FilAt w' bm f D:=by
 refine⟨?_,h.size,h.has,fun i s hi e=> ?_⟩
 ·obtain⟨es,clock,hb,r⟩:=h.own
  exact⟨es,clock,hm.trans hb,r⟩
 ·obtain⟨b,h1,h2⟩:=h.at_ i s hi e
  exact⟨b,h1,(hs b _ h2).trans h2⟩
theorem FilAt.keep {w w':World}{bm:Nat}{f:FilD}{D:DataW Unit}(h:FilAt w bm f D)(hm:w'.heap[bm]? =w.heap[bm]?)(hs:∀(k:Nat) (cs:Array Value) (fr:Nat×Nat),w.heap[k]? =some (Obj.cells cs 9 fr)->w'.heap[k]? =w.heap[k]?):FilAt w' bm f D :=
 h.keepS hm (fun k _ e=>hs k _ _ e)
theorem cnt_put {f:FilD}{i:Nat}{s:List Int}(hi:i<3){g:FilD}(hg:∀j,g j=if j=i then some s else f j):cntF g=if (f i).isSome then cntF f else cntF f+1:=by
 have:i=0\/i=1\/i=2:=by omega
 unfold cntF
 rcases this with rfl | rfl | rfl<;>simp [hg]<;>(cases h0:(f 0).isSome<;>cases h1:(f 1).isSome<;>cases h2:(f 2).isSome<;>simp)
theorem cnt_del {f:FilD}{i:Nat}(hi:i<3){g:FilD}(hg:∀j,g j=if j=i then none else f j):cntF g=if (f i).isSome then cntF f - 1 else cntF f:=by
 have:i=0\/i=1\/i=2:=by omega
 unfold cntF
 rcases this with rfl | rfl | rfl<;>simp [hg]<;>(cases h0:(f 0).isSome<;>cases h1:(f 1).isSome<;>cases h2:(f 2).isSome<;>simp)
theorem keyLitS (l:List UInt8):WideAt.IsKeyLit (.string l):=by simp [WideAt.IsKeyLit]
theorem FilAt.store {w:World}{bm:Nat}{f:FilD}{D:DataW Unit}(h:FilAt w bm f D){i:Nat}(hi:i<3){nb:Nat}{s:List Int}(hs:StrAt w nb s){g:FilD}(hg:∀j,g j=if j=i then some s else f j) :
  ∃w' D',(Instr.mapUpdate 98 (.map (some bm)) (.string (nmB i)) (.pointer (some ⟨nb,0,none⟩))).run Tryz.prog w= .ok () w'/\FilAt w' bm g D'/\w.grownBy w' (some bm):=by
 obtain⟨w',hup,hown,hgr⟩:=World.ownsMap.update h.own keyedS Tryz.underlying98 (by unfold maxLen;omega) (keyOf_nm i) (val:= .pointer (some ⟨nb,0,none⟩)) (d:= .lit (.int .u64 nb)) (ps:=[]) rfl
 have htid:=h.own.tidy keyedS
 have hk:=keyLitS (nmL i)
 have hmap:=htid.isMap
 have hne:∀(k:Nat) (cs:Array Value) (fr:Nat×Nat),w.heap[k]? =some (Obj.cells cs 9 fr)->w'.heap[k]? =w.heap[k]? :=fun k cs fr e=>hgr.block k (Zaa e) (fun e2=>by
  obtain⟨es,clock,hb,_⟩:=h.own
  simp only [Option.some.injEq] at e2
  subst e2
  rw [hb] at e;cases e)
 have hsz:Maps.size (D.put (.string (nmL i)) (.lit (.int .u64 nb)))=cntF g:=by
  rw [Maps.size_put htid,h.hasI hi,h.size,cnt_put hi hg]
 refine⟨w',_,hup,⟨?_,hsz,fun key=> ?_,fun j t hj e=> ?_⟩,hgr⟩
 ·have:=Zch hown
  rw [hsz] at this
  exact this.mono (cntF_le g)
 ·by_cases e:key=nmL i
  ·subst e
   rw [Maps.has_put_same hmap hk]
   simp only [true_iff]
   exact⟨i,hi,rfl,by rw [hg,if_pos rfl];rfl⟩
  ·rw [Maps.has_put_other (fun e2=>e (by injection e2)),h.has]
   constructor
   ·rintro⟨j,hj,h1,h2⟩
    exact⟨j,hj,h1,by rw [hg,if_neg (fun x=>e (by rw [h1,x]))];exact h2⟩
   ·rintro⟨j,hj,h1,h2⟩
    rw [hg,if_neg (fun x=>e (by rw [h1,x]))] at h2
    exact⟨j,hj,h1,h2⟩
 ·rw [hg] at e
  by_cases c:j=i
  ·subst c
   rw [if_pos rfl] at e
   simp only [Option.some.injEq] at e
   subst e
   exact⟨nb,Maps.atKey_put_same hmap hk _ _,(hne nb _ _ hs).trans hs⟩
  ·rw [if_neg c] at e
   obtain⟨b,h1,h2⟩:=h.at_ j t hj e
   exact⟨b,by rw [Maps.atKey_put_other (fun e2=>c (nmL_inj hj hi (by injection e2)))];exact h1,(hne b _ _ h2).trans h2⟩
theorem filAt_new (w:World):FilAt (w.alloc (.map #[] 0)) w.heap.size noFil (.map []) :=
 ⟨(World.ownsMap_made w _ _ _).mono (by omega),rfl,fun key=>by simp [Maps.has,noFil],fun i s _ e=>by cases e⟩
end Go.Proofs.YtgdcjccbdmcebabGreatDoor
namespace Go.Proofs.YtgdcjccbdmcebabGreatDoor
set_option maxRecDepth 100000
inductive RecR:EngD->List Int->EngD->Prop
 | submit {e e':EngD} {l:List Int} {y:Int}:DecIs l.length (fun k=>(l.getD k 0).toNat) 0 y (Zag l.length (fun k=>(l.getD k 0).toNat))->AllB l->e.submit (Zag l.length (fun k=>(l.getD k 0).toNat))=some e'->RecR e (recB 1 l 0) e'
 | poll {e e':EngD} {p:PlD} {t k:Int}:e.poll=some (p,t,k,e')->RecR e (recB 2 [] 0) e'
 | beat {e e':EngD} {n:Nat}:n<18446744073709551616->e.beat n=some e'->RecR e (recB 3 [] n) e'
 | complete {e e':EngD} {n:Nat}:n<18446744073709551616->e.complete n=some e'->RecR e (recB 4 [] n) e'
 | fail {e e':EngD} {n:Nat}:n<18446744073709551616->e.fail n=some e'->RecR e (recB 5 [] n) e'
 | cancel {e e':EngD} {n:Nat}:n<18446744073709551616->e.cancel n=some e'->RecR e (recB 6 [] n) e'
 | tick {e e':EngD} {n:Nat}:n<18446744073709551616->TickR e n e'->RecR e (recB 7 [] n) e'
 | seed {e:EngD} {n:Nat}:n<18446744073709551616->RecR e (recB 8 [] n) { e with seed:=n }
inductive LogR:EngD->List (List Int)->EngD->Prop
 | nil (e:EngD):LogR e [] e
 | cons {e e1 e2:EngD} {l:List Int} {r:List (List Int)}:RecR e l e1->LogR e1 r e2->LogR e (l::r) e2
theorem LogR.snoc {e e1 e2:EngD}{r:List (List Int)}{l:List Int}(h:LogR e r e1)(g:RecR e1 l e2):LogR e (r++[l]) e2:=by
 induction h with
 | nil e=>exact .cons g (.nil _)
 | cons h1 _ ih=>exact .cons h1 (ih g)
def filR (recs:List (List Int)):FilD:=fun i=>if i=0 then (if recs=[] then none else some (recs.flatMap frameB)) else none
theorem filR_nil:filR []=noFil:=by funext i;unfold filR noFil;simp
theorem filR_snoc (recs:List (List Int))(l:List Int):doF (filR recs) ⟨2,0,Zcq 0 l⟩=filR (recs++[l]):=by
 funext i
 unfold doF filR
 by_cases h:i=0
 ·subst h
  by_cases h2:recs=[]
  ·subst h2;simp [Zcq]
  ·simp [Zcq,h2]
 ·simp [h]
end Go.Proofs.YtgdcjccbdmcebabGreatDoor
namespace Go.Proofs.YtgdcjccbdmcebabGreatDoor
open Go.RowKit
def byF (l:List Int)(k:Nat):Nat:=(l.getD k 0).toNat
def catL:List Nat->List Int
 | []=>[]
 | v::r=>numL v++catL r
theorem Zdh (a b:List Nat):catL (a++b)=catL a++catL b:=by
 induction a with
 | nil=>rfl
 | cons v r ih=>simp only [List.cons_append,catL,ih,List.append_assoc]
theorem byF_at (pre l post:List Int)(k:Nat)(hk:k<l.length):byF (pre++(l++post)) (pre.length+k)=(l.getD k 0).toNat:=by
 unfold byF
 rw [List.getD_eq_getElem?_getD,List.getD_eq_getElem?_getD,List.getElem?_append_right (by omega),List.getElem?_append_left (by omega)]
 congr 2
 congr 1
 omega
theorem numAt_numL (pre post:List Int)(v:Nat)(hv:v<=2097151):Zcl (pre++(numL v++post)).length (byF (pre++(numL v++post))) pre.length=some (v,pre.length+(numL v).length):=by
 by_cases h1:v<128
 ·have e:numL v=[(v:Int)]:=Zb9 h1
  have b0:=byF_at pre (numL v) post 0 (by rw [e];simp)
  rw [e] at b0 ⊢
  simp only [List.getD_cons_zero,Int.toNat_natCast,Nat.add_zero] at b0
  unfold Zcl
  rw [b0,if_neg (by simp),if_pos h1]
  simp
 by_cases h2:v<16384
 ·have e:numL v=[((v % 128+128:Nat):Int),((v / 128:Nat):Int)]:=by rw [Zd0 h1,Zb9 (by omega)]
  have b0:=byF_at pre (numL v) post 0 (by rw [e];simp)
  have b1:=byF_at pre (numL v) post 1 (by rw [e];simp)
  rw [e] at b0 b1 ⊢
  simp only [List.getD_cons_zero,List.getD_cons_succ,Int.toNat_natCast,Nat.add_zero] at b0 b1
  unfold Zcl
  rw [b0,b1,if_neg (by simp),if_neg (by omega),if_neg (by simp),if_pos (by omega),if_neg (by omega)]
  have e3:(v % 128+128) % 128+v / 128 * 128=v:=by omega
  rw [e3]
  rfl
 ·have e:numL v=[((v % 128+128:Nat):Int),((v / 128 % 128+128:Nat):Int),((v / 128 / 128:Nat):Int)]:=by rw [Zd0 h1,Zd0 (by omega),Zb9 (by omega)]
  have b0:=byF_at pre (numL v) post 0 (by rw [e];simp)
  have b1:=byF_at pre (numL v) post 1 (by rw [e];simp)
  have b2:=byF_at pre (numL v) post 2 (by rw [e];simp)
  rw [e] at b0 b1 b2 ⊢
  simp only [List.getD_cons_zero,List.getD_cons_succ,Int.toNat_natCast,Nat.add_zero] at b0 b1 b2
  unfold Zcl
  rw [b0,b1,b2,if_neg (by simp),if_neg (by omega),if_neg (by simp),if_neg (by omega),if_neg (by simp),if_pos (by omega),if_neg (by omega)]
  have e3:(v % 128+128) % 128+(v / 128 % 128+128) % 128 * 128+v / 128 / 128 * 16384=v:=by omega
  rw [e3]
  rfl
theorem nxN_cat (vs:List Nat)(hv:∀v∈vs,v<=2097151):∀k,k<=vs.length->∃s,nxN (catL vs).length (byF (catL vs)) k (.good 0 0)= .good (catL (vs.take k)).length s:=by
 intro k
 induction k with
 | zero=>intro _;exact⟨0,rfl⟩
 | succ k ih =>
  intro hk
  obtain⟨s,hs⟩:=ih (by omega)
  have hlt:k<vs.length:=by omega
  have e:catL vs=catL (vs.take k)++(numL vs[k]++catL (vs.drop (k+1))):=by
   conv=>lhs;rw [<-List.take_append_drop k vs,List.drop_eq_getElem_cons hlt]
   rw [Zdh]
   rfl
  have hn:=numAt_numL (catL (vs.take k)) (catL (vs.drop (k+1))) vs[k] (hv _ (List.getElem_mem _))
  rw [<-e] at hn
  refine⟨(catL (vs.take k)).length,?_⟩
  simp only [nxN]
  rw [hs,Zcj hn,List.take_succ_eq_append_getElem hlt,Zdh,List.length_append]
  simp [catL]
theorem nxV_cat (vs:List Nat)(hv:∀v∈vs,v<=2097151)(k:Nat)(hk:k<vs.length):nxV (catL vs).length (byF (catL vs)) (nxN (catL vs).length (byF (catL vs)) k (.good 0 0))=vs[k]:=by
 obtain⟨s,hs⟩:=nxN_cat vs hv k (by omega)
 have e:catL vs=catL (vs.take k)++(numL vs[k]++catL (vs.drop (k+1))):=by
  conv=>lhs;rw [<-List.take_append_drop k vs,List.drop_eq_getElem_cons hk]
  rw [Zdh]
  rfl
 have hn:=numAt_numL (catL (vs.take k)) (catL (vs.drop (k+1))) vs[k] (hv _ (List.getElem_mem _))
 rw [<-e] at hn
 rw [hs,Zb2 hn]
def nodeN (F:FlowD)(i:Nat):List Nat :=
 [(F.bu i).toNat,(F.cl i).toNat,(F.be i).toNat,(F.ba i).toNat,(F.ca i).toNat,(F.ji i).toNat,F.an i]++(List.range (F.an i)).map fun k=>(F.af i k).toNat
def Zc7 (F:FlowD):Nat->List Nat
 | 0=>[]
 | k+1=>Zc7 F k++nodeN F k
def flowN (F:FlowD):List Nat:=[F.dl.toNat,F.n]++Zc7 F F.n
theorem numsL_cat (f:Nat->Nat)(n:Nat):numsL f n=catL ((List.range n).map f):=by
 induction n with
 | zero=>rfl
 | succ n ih=>simp only [numsL,List.range_succ,List.map_append,List.map_cons,List.map_nil,Zdh,ih,catL,List.append_nil]
theorem nodeB_cat (F:FlowD)(i:Nat):nodeB F i=catL (nodeN F i):=by
 unfold nodeB nodeN
 rw [numsL_cat]
 simp [catL]
theorem nodesB_cat (F:FlowD)(k:Nat):nodesB F k=catL (Zc7 F k):=by
 induction k with
 | zero=>rfl
 | succ k ih=>simp only [nodesB,Zc7,Zdh,ih,nodeB_cat]
theorem flowB_cat (F:FlowD):Zat F=catL (flowN F):=by
 unfold Zat flowN
 rw [nodesB_cat]
 simp [catL]
end Go.Proofs.YtgdcjccbdmcebabGreatDoor
namespace Go.Proofs.YtgdcjccbdmcebabGreatDoor
open Go.RowKit
set_option maxRecDepth 100000
theorem CopyAt.nodesAt {B:Nat}{w:World}{F:FlowD}{la:Option Addr}{lc:Nat}{Na:Nat->Option Addr}{Nc:Nat->Nat}(h:CopyAt B w F (.slice la F.n lc) F.n Na Nc):NodesAt w la lc F Na Nc:=by
 by_cases h0:F.n=0
 ·exact Or.inl h0
 ·rcases h.own.2 with⟨_,h2⟩ | ⟨g,cap,cur,h2,hg',hh,h3,h4,h5,h6⟩
  ·exact absurd h2 h0
  ·obtain⟨h7,_,h8⟩:la=some ⟨g,0,none⟩/\F.n=F.n/\lc=cap:=by simpa using h2
   subst h7 h8
   exact Or.inr ⟨g,0,rfl,h3,h4,h.lt.2,h.node⟩
theorem CopyAt.flowIn {B:Nat}{w:World}{F:FlowD}{la:Option Addr}{lc:Nat}{Na:Nat->Option Addr}{Nc:Nat->Nat}(h:CopyAt B w F (.slice la F.n lc) F.n Na Nc)(hn:F.n<=2097151)(ha:∀i,i<F.n->F.an i<=2097151)(hT:TabIn w)(hg:2<w.heap.size):FlowIn w F la lc Na Nc:=by
 refine⟨h.nodesAt,by unfold maxLen;omega,by omega,fun i hi e=> ?_,fun i hi=>by have:=ha i hi;omega,hT,hg⟩
 have:=h.aft i hi
 rw [e] at this
 exact own_nil this
def gg (u0 u1 u2 u3 u4 u5:Int)(v:Value)(j:Nat):Value :=
 if j=0 then .int .i64 u0 else if j=1 then .int .i64 u1 else if j=2 then .int .i64 u2 else if j=3 then .int .i64 u3 else if j=4 then .int .i64 u4 else if j=5 then .int .i64 u5 else v
theorem grown_block {x y:World}{o:Obj}{r:Option Nat}(hg:(x.alloc o).grownBy y r){b:Nat}(hb:b<x.heap.size)(hr:some b≠r):y.heap[b]? =x.heap[b]? :=
 (hg.block b (by simp;omega) hr).trans (Zaj x o b hb)
def nthI (n:Nat)(f:Nat->Int)(i:Nat):Int:=if i<n then f i else 0
theorem nthI_lo {w:World}{a:Option Addr}{n cap:Nat}{f:Nat->Int}(h:IntsIn w a n cap f)(i:Nat): -9223372036854775808<=nthI n f i/\nthI n f i<=9223372036854775807:=by
 unfold nthI
 split
 ·exact⟨h.lo i ‹_›,h.hi i ‹_›⟩
 ·omega
set_option maxHeartbeats 1000000 in
theorem knth_any (w:World)(a:Option Addr)(n cap:Nat)(f:Nat->Int)(i:Nat)(hi:i<=1024)(h:IntsIn w a n cap f) :
  Calls Tryz.prog 11 #[.slice a n cap, .int .i64 i] w fun e w'=>e= .returned (.int .i64 (nthI n f i))/\w'=w:=by
 by_cases h1:i<n
 ·have hl:=h.len
  unfold maxLen at hl
  rcases h.at' with h0 | ⟨b,o,rfl,h2,h3,h4,h5⟩
  ·omega
  have y:=h5 i h1
  unfold maxLen at h3
  have HN:Hid (nthI n f i=f i):=Hid.mk (by unfold nthI;rw [if_pos h1])
  clear h h5
  go_enter Tryz.func11,Tryz.ntmps11
  go_wp2_with fail
  go_ret
  exact⟨ri HN.out.symm,rfl⟩
 ·have HN:Hid (nthI n f i=0):=Hid.mk (by unfold nthI;rw [if_neg h1])
  clear h
  go_enter Tryz.func11,Tryz.ntmps11
  go_wp2_with fail
  go_ret
  exact⟨ri HN.out.symm,rfl⟩
structure SameTo (F G:FlowD)(k:Nat):Prop where
 bu:∀i,i<k->F.bu i=G.bu i
 cl:∀i,i<k->F.cl i=G.cl i
 be:∀i,i<k->F.be i=G.be i
 ba:∀i,i<k->F.ba i=G.ba i
 ca:∀i,i<k->F.ca i=G.ca i
 ji:∀i,i<k->F.ji i=G.ji i
 an:∀i,i<k->F.an i=G.an i
 af:∀i,i<k->∀j,j<F.an i->F.af i j=G.af i j
end Go.Proofs.YtgdcjccbdmcebabGreatDoor
namespace Go.Proofs.YtgdcjccbdmcebabGreatDoor
open Go.RowKit
set_option maxRecDepth 100000
attribute [local go_sem ↓] Go.wp_at_zero Go.wp_at_succ
structure KxI (w2 x:World)(g:Nat->Value):Prop where
 os:x.os=w2.os
 tape:x.tape=w2.tape
 output:x.output=w2.output
 size:w2.heap.size<x.heap.size
 block:∀k,k<w2.heap.size->x.heap[k]? =w2.heap[k]?
 nd:Nd x w2.heap.size g
theorem KxI.start (w2:World)(u0 u1 u2 u3 u4 u5:Int):KxI w2 (w2.alloc (.cells #[.int .i64 u0, .int .i64 u1, .int .i64 u2, .int .i64 u3, .int .i64 u4, .int .i64 u5, .slice none 0 0] 34)) (gg u0 u1 u2 u3 u4 u5 (.slice none 0 0)):=by
 refine⟨rfl,rfl,rfl,by simp,fun k hk=>Zaj _ _ _ hk,fun j hj=> ?_⟩
 have e:=heap_alloc_new w2 (.cells #[.int .i64 u0, .int .i64 u1, .int .i64 u2, .int .i64 u3, .int .i64 u4, .int .i64 u5, .slice none 0 0] 34)
 refine⟨(Zai e j).trans ?_,Zdr e j⟩
 rcases (show j=0\/j=1\/j=2\/j=3\/j=4\/j=5\/j=6 by omega) with rfl | rfl | rfl | rfl | rfl | rfl | rfl<;>rfl
theorem KxI.set6 {w2 x:World}{u0 u1 u2 u3 u4 u5:Int}{v:Value}(h:KxI w2 x (gg u0 u1 u2 u3 u4 u5 v))(v':Value):KxI w2 (x.setCell ⟨w2.heap.size,6,none⟩ v') (gg u0 u1 u2 u3 u4 u5 v'):=by
 refine⟨h.os,h.tape,h.output,by simpa [World.setCell] using h.size,fun k hk=>(Below.heap_setCell x ⟨w2.heap.size,6,none⟩ v' k (by simp;omega)).trans (h.block k hk),fun j hj=> ?_⟩
 have:=h.nd.set 6 (by omega) v' j hj
 rcases (show j=0\/j=1\/j=2\/j=3\/j=4\/j=5\/j=6 by omega) with rfl | rfl | rfl | rfl | rfl | rfl | rfl<;>exact this
end Go.Proofs.YtgdcjccbdmcebabGreatDoor
