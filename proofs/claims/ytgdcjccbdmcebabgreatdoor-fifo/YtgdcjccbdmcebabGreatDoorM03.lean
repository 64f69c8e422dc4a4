import Derived.Test.YtgdcjccbdmcebabGreatDoorM01
import Derived.Maps.OwnSet
import Derived.DeepKeys4
set_option linter.unusedSimpArgs false
set_option linter.unusedVariables false
namespace Go.Proofs.YtgdcjccbdmcebabGreatDoor
open Go.RowKit
set_option maxRecDepth 100000
def updF {α:Type}(f:Nat->α)(k:Nat)(v:α):Nat->α:=fun j=>if j=k then v else f j
theorem Za9 {α:Type}(f:Nat->α)(k:Nat)(v:α):updF f k v k=v:=by unfold updF;rw [if_pos rfl]
theorem Zaz {α:Type}(f:Nat->α)(k:Nat)(v:α){j:Nat}(h:j≠k):updF f k v j=f j:=by unfold updF;rw [if_neg h]
def keyC (id:Int):List Value:=[.int .u64 (id / 64), .int .i64 (id / 4 % 16 - 1), .int .i64 (id % 4)]
theorem Zcw {r nd q id:Int}(h:KeyOk r nd q id):keyC id=[.int .u64 r, .int .i64 nd, .int .i64 q]:=by
 obtain⟨h1,h2,h3⟩:=h.parts
 unfold keyC;rw [h1,h2,h3]
theorem Zdp (id:Int):(keyC id).length=3:=rfl
def idsL (l:List Int):List Value:=l.flatMap keyC
theorem Zdc (l:List Int):(idsL l).length=l.length * 3:=by
 induction l with
 | nil=>rfl
 | cons a l ih=>unfold idsL at *;rw [List.flatMap_cons,List.length_append,ih,Zdp,List.length_cons];omega
theorem idsL_append (a b:List Int):idsL (a++b)=idsL a++idsL b:=by simp [idsL]
theorem idsL_at (l:List Int){i j:Nat}(hi:i<l.length)(hj:j<3):(idsL l)[i * 3+j]? =(keyC (l.getD i 0))[j]? :=by
 induction l generalizing i with
 | nil=>simp at hi
 | cons a l ih =>
  unfold idsL at *
  rw [List.flatMap_cons]
  cases i with
  | zero=>rw [List.getElem?_append_left (by rw [Zdp];omega)];simp
  | succ i =>
   rw [List.getElem?_append_right (by rw [Zdp];omega),Zdp,show (i+1) * 3+j - 3=i * 3+j by omega,ih (by simpa using hi)]
   simp
structure PwAt (w:World)(P B:Nat)(K:Nat->Prop)(now:Nat)(dm:Value)(rw_:Nat->Value)(ls:Nat->List Int)(wd:Nat->Nat):Prop where
 c0:w.cell? ⟨P,11,none⟩=some (.int .u64 now)
 c1:w.cell? ⟨P,12,none⟩=some dm
 cs:∀k,k<704->w.cell? ⟨P,13+k,none⟩=some (rw_ k)
 cw:∀k,k<11->w.cell? ⟨P,717+k,none⟩=some (.int .u64 (wd k))
 fz:∀o,w.frozen? ⟨P,o,none⟩=false
 own:∀k,k<704->w.ownsRow B 183 3 (rw_ k) (ls k).length (idsL (ls k))
 apart:∀j k,j<704->k<704->j≠k->∀z,(rw_ j).ownBlock=some z->(rw_ k).ownBlock≠some z
 pb:P<B
 bs:B<=w.heap.size
 sp:∀k,k<704->∀z,(rw_ k).ownBlock=some z->¬K z
 kb:∀z,K z->B<=z/\∃cs fr,w.heap[z]? =some (.cells cs 183 fr)
theorem kb_setP {w:World}{P B:Nat}{K:Nat->Prop}(h:∀z,K z->B<=z/\∃cs fr,w.heap[z]? =some (.cells cs 183 fr))(hP:P<B)(o:Nat)(v:Value):∀z,K z->B<=z/\∃cs fr,(w.setCell ⟨P,o,none⟩ v).heap[z]? =some (.cells cs 183 fr):=fun z hz=>by
 obtain⟨h1,cs,fr,h2⟩:=h z hz
 exact⟨h1,cs,fr,by rw [Below.heap_setCell w ⟨P,o,none⟩ v z (by show z≠P;omega)];exact h2⟩
theorem own_kept {w w':World}{B:Nat}{e:TypeId}{size n:Nat}{v:Value}{xs:List Value}(h:w.ownsRow B e size v n xs)(hb:∀k,B<=k->(∃cs fr,w.heap[k]? =some (.cells cs e fr))->v.ownBlock=some k->w'.heap[k]? =w.heap[k]?):w'.ownsRow B e size v n xs:=by
 obtain⟨h1,h2⟩:=h
 refine⟨h1,?_⟩
 rcases h2 with h2 | ⟨g,cap,cur,rfl,hg,hh,hr⟩
 ·exact Or.inl h2
 ·exact Or.inr ⟨g,cap,cur,rfl,hg,by rw [hb g hg ⟨_,_,hh⟩ rfl];exact hh,hr⟩
theorem PwAt.keepK {w w':World}{P B:Nat}{K:Nat->Prop}{now:Nat}{dm:Value}{rw_:Nat->Value}{ls:Nat->List Int}{wd:Nat->Nat}(h:PwAt w P B K now dm rw_ ls wd)(hs:w.heap.size<=w'.heap.size)(hP:w'.heap[P]? =w.heap[P]?)(hb:∀k,B<=k->(∃cs fr,w.heap[k]? =some (.cells cs 183 fr))->w'.heap[k]? =w.heap[k]?):PwAt w' P B K now dm rw_ ls wd :=
 ⟨(World.cell?_of_block (a:=⟨P,11,none⟩) hP).trans h.c0,(World.cell?_of_block (a:=⟨P,12,none⟩) hP).trans h.c1,fun k hk=>(World.cell?_of_block (a:=⟨P,13+k,none⟩) hP).trans (h.cs k hk),fun k hk=>(World.cell?_of_block (a:=⟨P,717+k,none⟩) hP).trans (h.cw k hk),fun o=>(World.frozen?_of_block (a:=⟨P,o,none⟩) hP).trans (h.fz o),fun k hk=>own_kept (h.own k hk) (fun z hz he _=>hb z hz he),h.apart,h.pb,Nat.le_trans h.bs hs,h.sp,fun z hz=>⟨(h.kb z hz).1,(h.kb z hz).2.choose,(h.kb z hz).2.choose_spec.choose,(hb z (h.kb z hz).1 (h.kb z hz).2).trans (h.kb z hz).2.choose_spec.choose_spec⟩⟩
theorem PwAt.keep {w w':World}{P B:Nat}{K:Nat->Prop}{now:Nat}{dm:Value}{rw_:Nat->Value}{ls:Nat->List Int}{wd:Nat->Nat}(h:PwAt w P B K now dm rw_ ls wd)(hb:Below w.heap.size w w'):PwAt w' P B K now dm rw_ ls wd:=by
 refine h.keepK hb.size (hb.block P (Nat.lt_of_lt_of_le h.pb h.bs)) (fun k _ he=>hb.block k ?_)
 obtain⟨cs,fr,e⟩:=he
 exact (Array.getElem?_eq_some_iff.1 e).1
theorem PwAt.setNow {w:World}{P B:Nat}{K:Nat->Prop}{now:Nat}{dm:Value}{rw_:Nat->Value}{ls:Nat->List Int}{wd:Nat->Nat}(h:PwAt w P B K now dm rw_ ls wd)(u:Nat):PwAt (w.setCell ⟨P,11,none⟩ (.int .u64 u)) P B K u dm rw_ ls wd :=
 ⟨World.cell?_setCell_same _ _ _ h.c0,(Zab w P 11 12 _ (by decide)).trans h.c1,fun k hk=>(Zab w P 11 (13+k) _ (by omega)).trans (h.cs k hk),fun k hk=>(Zab w P 11 (717+k) _ (by omega)).trans (h.cw k hk),fun o=>by rw [World.frozen?_setCell];exact h.fz o,fun k hk=>ownsRow_setCell_below (h.own k hk) h.pb _,h.apart,h.pb,by simpa [World.setCell] using h.bs,h.sp,kb_setP h.kb h.pb _ _⟩
theorem PwAt.setDue {w:World}{P B:Nat}{K:Nat->Prop}{now:Nat}{dm:Value}{rw_:Nat->Value}{ls:Nat->List Int}{wd:Nat->Nat}(h:PwAt w P B K now dm rw_ ls wd)(u:Value):PwAt (w.setCell ⟨P,12,none⟩ u) P B K now u rw_ ls wd :=
 ⟨(Zab w P 12 11 _ (by decide)).trans h.c0,World.cell?_setCell_same _ _ _ h.c1,fun k hk=>(Zab w P 12 (13+k) _ (by omega)).trans (h.cs k hk),fun k hk=>(Zab w P 12 (717+k) _ (by omega)).trans (h.cw k hk),fun o=>by rw [World.frozen?_setCell];exact h.fz o,fun k hk=>ownsRow_setCell_below (h.own k hk) h.pb _,h.apart,h.pb,by simpa [World.setCell] using h.bs,h.sp,kb_setP h.kb h.pb _ _⟩
theorem PwAt.setWord {w:World}{P B:Nat}{K:Nat->Prop}{now:Nat}{dm:Value}{rw_:Nat->Value}{ls:Nat->List Int}{wd:Nat->Nat}(h:PwAt w P B K now dm rw_ ls wd)(L x:Nat)(hL:L<11):PwAt (w.setCell ⟨P,717+L,none⟩ (.int .u64 x)) P B K now dm rw_ ls (updF wd L x):=by
 refine⟨(Zab w P (717+L) 11 _ (by omega)).trans h.c0,(Zab w P (717+L) 12 _ (by omega)).trans h.c1,fun k hk=>(Zab w P (717+L) (13+k) _ (by omega)).trans (h.cs k hk),fun k hk=> ?_,fun o=>by rw [World.frozen?_setCell];exact h.fz o,fun k hk=>ownsRow_setCell_below (h.own k hk) h.pb _,h.apart,h.pb,by simpa [World.setCell] using h.bs,h.sp,kb_setP h.kb h.pb _ _⟩
 by_cases e:k=L
 ·subst e;rw [Za9];exact World.cell?_setCell_same _ _ _ (h.cw k hk)
 ·rw [Zaz _ _ _ e];exact (Zab w P (717+L) (717+k) _ (by omega)).trans (h.cw k hk)
theorem PwAt.slot {w w7:World}{P B:Nat}{K:Nat->Prop}{now:Nat}{dm:Value}{rw_:Nat->Value}{ls:Nat->List Int}{wd:Nat->Nat}(h:PwAt w P B K now dm rw_ ls wd){k:Nat}(hk:k<704){v':Value}{xs:List Int}{n':Nat}(hn:n'=xs.length)(hs:w.heap.size<=w7.heap.size)(hb:∀j,j<w.heap.size->some j≠(rw_ k).ownBlock->w7.heap[j]? =w.heap[j]?)(hown:w7.ownsRow B 183 3 v' n' (idsL xs))(hat:∀z,v'.ownBlock=some z->(rw_ k).ownBlock=some z\/w.heap.size<=z) :
  PwAt (w7.setCell ⟨P,13+k,none⟩ v') P B K now dm (updF rw_ k v') (updF ls k xs) wd:=by
 subst hn
 have hPs:P<w.heap.size:=Nat.lt_of_lt_of_le h.pb h.bs
 have hPb:w7.heap[P]? =w.heap[P]? :=hb P hPs fun e=>by
  have:=((h.own k hk).lt P e.symm).1
  have:=h.pb
  omega
 refine⟨(Zab w7 P (13+k) 11 _ (by omega)).trans ((World.cell?_of_block (a:=⟨P,11,none⟩) hPb).trans h.c0),(Zab w7 P (13+k) 12 _ (by omega)).trans ((World.cell?_of_block (a:=⟨P,12,none⟩) hPb).trans h.c1),fun j hj=> ?_,fun j hj=>(Zab w7 P (13+k) (717+j) _ (by omega)).trans ((World.cell?_of_block (a:=⟨P,717+j,none⟩) hPb).trans (h.cw j hj)),fun o=>by rw [World.frozen?_setCell];exact (World.frozen?_of_block (a:=⟨P,o,none⟩) hPb).trans (h.fz o),fun j hj=> ?_,fun i j hi hj hij z hz=> ?_,h.pb,by have:=h.bs;simp [World.setCell];omega,fun j hj z hz=> ?_,fun z hz=> ?_⟩
 ·by_cases e:j=k
  ·subst e;rw [Za9];exact World.cell?_setCell_same _ _ _ ((World.cell?_of_block (a:=⟨P,13+j,none⟩) hPb).trans (h.cs j hj))
  ·rw [Zaz _ _ _ e];exact (Zab w7 P (13+k) (13+j) _ (by omega)).trans ((World.cell?_of_block (a:=⟨P,13+j,none⟩) hPb).trans (h.cs j hj))
 ·by_cases e:j=k
  ·subst e;rw [Za9,Za9];exact ownsRow_setCell_below hown h.pb _
  ·rw [Zaz _ _ _ e,Zaz _ _ _ e]
   refine ownsRow_setCell_below (own_kept (h.own j hj) (fun z _ he hz=> ?_)) h.pb _
   refine hb z ?_ (fun e2=>h.apart j k hj hk e z hz e2.symm)
   obtain⟨cs,fr,e3⟩:=he
   exact (Array.getElem?_eq_some_iff.1 e3).1
 ·by_cases e1:i=k
  ·subst e1
   rw [Za9] at hz
   rw [Zaz _ _ _ (Ne.symm hij)]
   rcases hat z hz with e2 | e2
   ·exact fun e3=>h.apart j i hj hk (Ne.symm hij) z e3 e2
   ·exact fun e3=>by have:=((h.own j hj).lt z e3).2;omega
  ·rw [Zaz _ _ _ e1] at hz
   by_cases e2:j=k
   ·subst e2
    rw [Za9]
    intro e3
    rcases hat z e3 with e4 | e4
    ·exact h.apart i j hi hk e1 z hz e4
    ·have:=((h.own i hi).lt z hz).2;omega
   ·rw [Zaz _ _ _ e2];exact h.apart i j hi hj hij z hz
 ·by_cases e:j=k
  ·subst e
   rw [Za9] at hz
   rcases hat z hz with e2 | e2
   ·exact h.sp j hj z e2
   ·exact fun x=>by obtain⟨_,cs,fr,h2⟩:=h.kb z x;have:=(Array.getElem?_eq_some_iff.1 h2).1;omega
  ·rw [Zaz _ _ _ e] at hz
   exact h.sp j hj z hz
 ·obtain⟨h1,cs,fr,h2⟩:=h.kb z hz
  refine⟨h1,cs,fr,?_⟩
  rw [Below.heap_setCell w7 ⟨P,13+k,none⟩ _ z (by show z≠P;have:=h.pb;omega),hb z (Array.getElem?_eq_some_iff.1 h2).1 (fun e=>h.sp k hk z e.symm hz)]
  exact h2
structure PF (w w':World)(P B:Nat)(K:Nat->Prop):Prop where
 os:w'.os=w.os
 tape:w'.tape=w.tape
 output:w'.output=w.output
 size:w.heap.size<=w'.heap.size
 block:∀k,k<w.heap.size->k≠P->((k<B\/K k)\/∃cs t fr,w.heap[k]? =some (.cells cs t fr)/\t≠183)->w'.heap[k]? =w.heap[k]?
 off:P<w.heap.size->∀o,o<11\/728<=o->w'.cell? ⟨P,o,none⟩=w.cell? ⟨P,o,none⟩
 froz:P<w.heap.size->∀o,w'.frozen? ⟨P,o,none⟩=w.frozen? ⟨P,o,none⟩
theorem PF.refl (w:World)(P B:Nat)(K:Nat->Prop):PF w w P B K:=⟨rfl,rfl,rfl,Nat.le_refl _,fun _ _ _ _=>rfl,fun _ _ _=>rfl,fun _ _=>rfl⟩
theorem PF.of_below {w w':World}{P B:Nat}{K:Nat->Prop}(h:Below w.heap.size w w'):PF w w' P B K:=⟨h.os,h.tape,h.output,h.size,fun k hk _ _=>h.block k hk,fun hP o _=>World.cell?_of_block (a:=⟨P,o,none⟩) (h.block P hP),fun hP o=>World.frozen?_of_block (a:=⟨P,o,none⟩) (h.block P hP)⟩
theorem PF.trans {x y z:World}{P B:Nat}{K:Nat->Prop}(h:PF x y P B K)(g:PF y z P B K):PF x z P B K:=by
 refine⟨g.os.trans h.os,g.tape.trans h.tape,g.output.trans h.output,Nat.le_trans h.size g.size,fun k hk hP hr=> ?_,fun hP o ho=>(g.off (Nat.lt_of_lt_of_le hP h.size) o ho).trans (h.off hP o ho),fun hP o=>(g.froz (Nat.lt_of_lt_of_le hP h.size) o).trans (h.froz hP o)⟩
 have e:=h.block k hk hP hr
 refine (g.block k (Nat.lt_of_lt_of_le hk h.size) hP ?_).trans e
 rcases hr with hr | ⟨cs,t,fr,h1,h2⟩
 ·exact Or.inl hr
 ·exact Or.inr ⟨cs,t,fr,e.trans h1,h2⟩
theorem PF.setP (w:World)(P B:Nat)(K:Nat->Prop)(o:Nat)(v:Value)(ho:11<=o/\o<728):PF w (w.setCell ⟨P,o,none⟩ v) P B K :=
 ⟨rfl,rfl,rfl,by simp [World.setCell],fun k _ hP _=>Below.heap_setCell w ⟨P,o,none⟩ v k (by simpa using hP),fun _ o' h'=>Zab w P o o' v (by omega),fun _ o'=>by rw [World.frozen?_setCell]⟩
theorem PF.of_grown {w w':World}{P B:Nat}{K:Nat->Prop}{ob:Option Nat}(h:w.grownBy w' ob)(hP:some P≠ob)(ho:∀z,ob=some z->B<=z/\∀cs t fr,w.heap[z]? =some (.cells cs t fr)->t=183)(hK:∀z,ob=some z->¬K z):PF w w' P B K:=by
 refine⟨h.os,h.tape,h.output,h.size,fun k hk _ hr=>h.block k hk (fun e=> ?_),fun hP' o _=>World.cell?_of_block (a:=⟨P,o,none⟩) (h.block P hP' hP),fun hP' o=>World.frozen?_of_block (a:=⟨P,o,none⟩) (h.block P hP' hP)⟩
 obtain⟨h1,h2⟩:=ho k e.symm
 rcases hr with (hr | hr) | ⟨cs,t,fr,e1,e2⟩
 ·omega
 ·exact hK k e.symm hr
 ·exact e2 (h2 cs t fr e1)
theorem own_int {w:World}{B:Nat}{e:TypeId}{size n:Nat}{v:Value}{xs:List Value}(h:w.ownsRow B e size v n xs):∀z,v.ownBlock=some z->B<=z/\∀cs t fr,w.heap[z]? =some (.cells cs t fr)->t=e:=by
 intro z hz
 rcases h.2 with⟨rfl,_⟩ | ⟨g,cap,cur,rfl,hg,hh,_⟩
 ·simp [Value.ownBlock] at hz
 ·simp only [Value.ownBlock,Option.some.injEq] at hz
  subst hz
  refine⟨hg,fun cs t fr e=> ?_⟩
  rw [hh] at e
  simp at e
  exact e.2.1.symm
end Go.Proofs.YtgdcjccbdmcebabGreatDoor
namespace Go.Proofs.YtgdcjccbdmcebabGreatDoor
open Go.RowKit
open Go.Maps (Keyed)
set_option maxRecDepth 100000
theorem wideK:(match Tryz.prog.underlying 183 with | some (.array _ _) | some (.struct _)=>true | _=>false)=true:=by kernel_rfl
theorem rowK:(183:TypeId)<Tryz.prog.types.size:=of_decide_eq_true (by kernel_rfl)
theorem laid0:laidOutB Tryz.prog=true:=by kernel_rfl
theorem lawK:Keyed Tryz.prog 183:=Keyed.of_law (deep_law_laid laid0 (m:=3) (by omega) rowK (by kernel_rfl) wideK)
def keyV (id:Int):Value:= .agg (keyC id).toArray
def keyL (id:Int):Lit:= .string (keyBytes [.int .u64 (id / 64), .int .i64 (id / 4 % 16 - 1), .int .i64 (id % 4)])
theorem cellsK:Tryz.prog.cellsOf 183=3:=by kernel_rfl
theorem cellsS:Tryz.prog.cellsOf 180=2:=by kernel_rfl
theorem wfI {x:Int}(h0: -1<=x)(h1:x<15):(Lit.int .i64 x).wf=true:=by
 have e1:IntKind.i64.min= -9223372036854775808:=by decide
 have e2:IntKind.i64.max=9223372036854775807:=by decide
 simp only [Lit.wf,e1,e2,Bool.and_eq_true,decide_eq_true_eq]
 omega
theorem wf_u64 {x:Int}(h0:0<=x)(h1:x<18446744073709551616):(Lit.int .u64 x).wf=true:=by
 have e1:IntKind.u64.min=0:=by decide
 have e2:IntKind.u64.max=18446744073709551615:=by decide
 simp only [Lit.wf,e1,e2,Bool.and_eq_true,decide_eq_true_eq]
 omega
theorem keyT:Tryz.prog.keyType 183=true:=by kernel_rfl
theorem cellsU:Tryz.prog.cellsOf 39=1:=by kernel_rfl
theorem cellsN:Tryz.prog.cellsOf 3=1:=by kernel_rfl
theorem cellsQ:Tryz.prog.cellsOf 181=1:=by kernel_rfl
theorem kl_u (d:Nat){x:Int}(h:(Lit.int .u64 x).wf=true):Tryz.prog.keyLits (d+1) 39 [.int .u64 x]=some [.int .u64 x]:=by
 simp [Program.keyLits,Tryz.underlying39,h]
theorem kl_n (d:Nat){x:Int}(h:(Lit.int .i64 x).wf=true):Tryz.prog.keyLits (d+1) 3 [.int .i64 x]=some [.int .i64 x]:=by
 simp [Program.keyLits,Tryz.underlying3,h]
theorem kl_q (d:Nat){x:Int}(h:(Lit.int .i64 x).wf=true):Tryz.prog.keyLits (d+1) 181 [.int .i64 x]=some [.int .i64 x]:=by
 simp [Program.keyLits,Tryz.underlying181,h]
theorem kl_s (d:Nat){x y:Int}(h:(Lit.int .u64 x).wf=true)(g:(Lit.int .i64 y).wf=true):Tryz.prog.keyLits (d+2) 180 [.int .u64 x, .int .i64 y]=some [.int .u64 x, .int .i64 y]:=by
 unfold Program.keyLits
 rw [Tryz.underlying180]
 simp only []
 rw [if_pos ⟨by rw [cellsS];rfl,by kernel_rfl⟩]
 simp [cellsU,cellsN,kl_u _ h,kl_n _ g]
theorem keyLits_k (d:Nat){id:Int}(h:IdOk id):Tryz.prog.keyLits (d+3) 183 (keyC id)=some [.int .u64 (id / 64), .int .i64 (id / 4 % 16 - 1), .int .i64 (id % 4)]:=by
 have h1:(Lit.int .u64 (id / 64)).wf=true:=wf_u64 (by unfold IdOk at h;omega) (by unfold IdOk at h;omega)
 have h2:=wfI (x:=id / 4 % 16 - 1) (by omega) (by omega)
 have h3:=wfI (x:=id % 4) (by omega) (by omega)
 unfold Program.keyLits
 rw [Tryz.underlying183]
 simp only []
 rw [if_pos ⟨by rw [cellsK];rfl,by kernel_rfl⟩]
 simp [keyC,cellsS,cellsQ,kl_s _ h1 h2,kl_q _ h3]
theorem sizeK:Tryz.prog.types.size+1=(Tryz.prog.types.size - 2)+3:=by kernel_rfl
theorem Zc4 {id:Int}(h:IdOk id):keyOf Tryz.prog 183 (keyV id)=some (keyL id):=by
 have hf:(keyV id).formed Tryz.prog 183=true:=by
  simp [Value.formed,Tryz.underlying183,cellsK,keyV,keyC]
 have hc:(keyV id).cells.toList=keyC id:=rfl
 unfold keyOf
 rw [Tryz.underlying183]
 simp only []
 rw [keyT,hf,hc,sizeK,keyLits_k _ h]
 rfl
theorem keyL_inj {a b:Int}(ha:IdOk a)(hb:IdOk b)(h:keyL a=keyL b):a=b:=by
 have e:=lawK.inj (Zc4 ha) (h▸Zc4 hb)
 unfold keyV keyC at e
 simp at e
 omega
theorem zeroU (w:World):(zeroValue 39).run Tryz.prog w= .ok (.int .u64 0) w:=by kernel_rfl
def u0:DataW Unit:= .lit (.int .u64 0)
structure Due (D:DataW Unit)(l:List Tm):Prop where
 size:Maps.size D=l.length
 tm:∀i,i<l.length->D.atKey (keyL (l.getD i .z).id) u0= .lit (.int .u64 (l.getD i .z).tm)
 has:∀id,IdOk id->(Maps.has D (keyL id)=true↔hasId l id l.length)
def IdsOk (l:List Tm):Prop:=∀i,i<l.length->IdOk (l.getD i .z).id
def Za8 (D:DataW Unit)(w:World)(bm n:Nat):Prop:=w.ownsMap Tryz.prog 183 (plainElem Tryz.prog 39) bm n D
def DueAt (w:World)(B:Nat)(dm:Value)(l:List Tm):Prop :=
 (dm= .map none/\l=[])\/∃bm D,dm= .map (some bm)/\B<=bm/\Za8 D w bm (Maps.size D)/\Due D l
theorem Zch {P:Program}{k:TypeId}{R:Value->Option (DataW Unit×List MemPlace)}{w:World}{b n:Nat}{D:DataW Unit}(h:w.ownsMap P k R b n D):w.ownsMap P k R b (Maps.size D) D:=by
 obtain⟨es,clock,hb,F,hs,rfl⟩:=h
 exact⟨es,clock,hb,F,by simp [Maps.size,length_read],rfl⟩
theorem DueAt.kept {w w':World}{B:Nat}{dm:Value}{l:List Tm}(h:DueAt w B dm l)(hb:∀k es c,B<=k->w.heap[k]? =some (.map es c)->w'.heap[k]? =w.heap[k]?):DueAt w' B dm l:=by
 rcases h with h | ⟨bm,D,h1,h2,⟨es,clock,h3,h4⟩,h5⟩
 ·exact Or.inl h
 ·exact Or.inr ⟨bm,D,h1,h2,⟨es,clock,(hb bm es clock h2 h3).trans h3,h4⟩,h5⟩
theorem due_nil:Due (.map []) []:=⟨rfl,fun i h=>by simp at h,fun id _=>by
 constructor
 ·intro h;simp [Maps.has] at h
 ·rintro⟨j,hj,_⟩;simp at hj⟩
theorem hasId_snoc (l:List Tm)(t:Tm)(id:Int):hasId (l++[t]) id (l++[t]).length↔hasId l id l.length\/t.id=id:=by
 have hl:(l++[t]).length=l.length+1:=by simp
 constructor
 ·rintro⟨j,hj,e⟩
  rw [hl] at hj
  rw [Zde l t j hj] at e
  by_cases h:j<l.length
  ·rw [if_pos h] at e;exact Or.inl ⟨j,h,e⟩
  ·rw [if_neg h] at e;exact Or.inr e
 ·rintro (⟨j,hj,e⟩ | e)
  ·exact⟨j,by omega,by rw [Zde l t j (by omega),if_pos hj];exact e⟩
  ·exact⟨l.length,by omega,by rw [Zde l t l.length (by omega),if_neg (by omega)];exact e⟩
theorem hasId_cut {l:List Tm}{b:Nat}(hb:b<l.length)(ha:Apart l)(id:Int):hasId (l.take b++l.drop (b+1)) id (l.take b++l.drop (b+1)).length↔hasId l id l.length/\id≠(l.getD b .z).id:=by
 have hl:=Zcb l b hb
 constructor
 ·rintro⟨j,hj,e⟩
  rw [Zc1 l b j hb] at e
  refine⟨⟨_,?_,e⟩,?_⟩
  ·split<;>omega
  ·rintro rfl
   by_cases h:j<b
   ·rw [if_pos h] at e;exact ha j b h hb e
   ·rw [if_neg h] at e;exact ha b (j+1) (by omega) (by omega) e.symm
 ·rintro⟨⟨j,hj,e⟩,hne⟩
  have hjb:j≠b:=fun h=>hne (by rw [<-e,h])
  by_cases h:j<b
  ·exact⟨j,by omega,by rw [Zc1 l b j hb,if_pos h];exact e⟩
  ·exact⟨j - 1,by omega,by rw [Zc1 l b (j - 1) hb,if_neg (by omega),show j - 1+1=j by omega];exact e⟩
theorem keyLit (id:Int):WideAt.IsKeyLit (keyL id):=trivial
theorem Due.put {D:DataW Unit}{l:List Tm}(h:Due D l)(ht:Maps.Tidy D)(t:Tm)(hn:¬hasId l t.id l.length)(hi0:IdOk t.id)(hids:IdsOk l):Due (D.put (keyL t.id) (.lit (.int .u64 t.tm))) (l++[t]):=by
 have hno:Maps.has D (keyL t.id)=false:=by
  cases e:Maps.has D (keyL t.id)
  ·rfl
  ·exact absurd ((h.has t.id hi0).1 e) hn
 have hk:=keyLit t.id
 refine⟨?_,fun i hi=> ?_,fun id hid=> ?_⟩
 ·rw [Maps.size_put ht,hno,h.size];simp
 ·rw [List.length_append,List.length_singleton] at hi
  rw [Zde l t i hi]
  by_cases hil:i<l.length
  ·rw [if_pos hil,Maps.atKey_put_other (fun e=>hn ⟨i,hil,keyL_inj (hids i hil) hi0 e⟩)]
   exact h.tm i hil
  ·rw [if_neg hil,Maps.atKey_put_same ht.isMap hk]
 ·rw [hasId_snoc]
  by_cases e:id=t.id
  ·subst e
   rw [Maps.has_put_same ht.isMap hk];simp
  ·rw [Maps.has_put_other (fun e2=>e (keyL_inj hid hi0 e2)),h.has id hid]
   constructor
   ·exact Or.inl
   ·rintro (h2 | h2)
    ·exact h2
    ·exact absurd h2.symm e
theorem Due.cut {D:DataW Unit}{l:List Tm}(h:Due D l)(ht:Maps.Tidy D)(ha:Apart l)(hids:IdsOk l){b:Nat}(hb:b<l.length):Due (D.del (keyL (l.getD b .z).id)) (l.take b++l.drop (b+1)):=by
 have hyes:Maps.has D (keyL (l.getD b .z).id)=true:=(h.has _ (hids b hb)).2 ⟨b,hb,rfl⟩
 have hl:=Zcb l b hb
 refine⟨?_,fun i hi=> ?_,fun id hid=> ?_⟩
 ·have:=Maps.size_del (k:=keyL (l.getD b .z).id) ht
  rw [hyes,h.size,if_pos rfl] at this
  omega
 ·rw [Zc1 l b i hb]
  rw [Maps.atKey_del_other]
  ·exact h.tm _ (by split<;>omega)
  ·intro e
   have e:=keyL_inj (hids (if i<b then i else i+1) (by split<;>omega)) (hids b hb) e
   by_cases h1:i<b
   ·rw [if_pos h1] at e;exact ha i b h1 hb e
   ·rw [if_neg h1] at e;exact ha b (i+1) (by omega) (by omega) e.symm
 ·rw [hasId_cut hb ha]
  by_cases e:id=(l.getD b .z).id
  ·subst e;rw [Maps.has_del_same];simp
  ·rw [Maps.has_del_other (fun e2=>e (keyL_inj hid (hids b hb) e2)),h.has id hid];exact⟨fun h2=>⟨h2,e⟩,fun h2=>h2.1⟩
end Go.Proofs.YtgdcjccbdmcebabGreatDoor
