import Derived.Test.YtgdcjccbdmcebabGreatDoorM14
import Derived.Test.YtgdcjccbdmcebabGreatDoorM17
import Derived.Test.YtgdcjccbdmcebabGreatDoorM30
import Derived.Test.YtgdcjccbdmcebabGreatDoorM31
import Derived.Test.YtgdcjccbdmcebabGreatDoorM32
set_option linter.unusedSimpArgs false
set_option linter.unusedVariables false
namespace Go.Proofs.YtgdcjccbdmcebabGreatDoor
open Go.RowKit
set_option maxRecDepth 100000
def QuAt (w:World)(P B:Nat)(xs:List PlD):Prop:=∃a n c f ys,QAt w P B a n c f ys xs
def EnAt (w:World)(P B:Nat)(ob:Option Nat)(xs:List Int):Prop:=∃a n c f ys,EAt w P B a n c f ys xs/\(Value.slice a n c).ownBlock=ob
structure KpM (w:World)(P B:Nat)(ob:Option Nat)(rs:List RnM)(el:List Int)(qu:List PlD)(now:Nat)(l:List Tm)(lr lt sd:Int):Prop where
 kn:∃ka kc,KnAt w P B ka kc rs
 en:EnAt w P B ob el
 qu:QuAt w P B qu
 wh:WhAt w P B noK now l
 lr:w.cell? ⟨P,728,none⟩=some (.int .u64 lr)
 lt:w.cell? ⟨P,729,none⟩=some (.int .u64 lt)
 sd:w.cell? ⟨P,730,none⟩=some (.int .u64 sd)
 fz:∀o,w.frozen? ⟨P,o,none⟩=false
structure GF (w w':World)(P:Nat)(C:Nat->Prop)(S:Nat->Prop):Prop where
 size:w.heap.size<=w'.heap.size
 block:∀k,k<w.heap.size->k≠P->¬S k->w'.heap[k]? =w.heap[k]?
 off:∀o,¬C o->w'.cell? ⟨P,o,none⟩=w.cell? ⟨P,o,none⟩
 froz:∀o,w'.frozen? ⟨P,o,none⟩=w.frozen? ⟨P,o,none⟩
theorem KnAt.gf {w w':World}{P B:Nat}{ka:Option Addr}{kc:Nat}{rs:List RnM}{C S:Nat->Prop}(h:KnAt w P B ka kc rs)(g:GF w w' P C S)(hC:¬C 4)(hS:∀k cs t fr,B<=k->w.heap[k]? =some (.cells cs t fr)->(t=173\/t=178\/t=189\/t=3)->¬S k):KnAt w' P B ka kc rs :=
 h.keepT g.size (g.off 4 hC) g.froz (fun k cs t fr h1 h2 h3=>g.block k (Zaa h2) (by have:=h.pb;omega) (hS k cs t fr h1 h2 h3))
theorem QAt.gf {w w':World}{P B n c first:Nat}{a:Option Addr}{ys xs:List PlD}{C S:Nat->Prop}(h:QAt w P B a n c first ys xs)(g:GF w w' P C S)(hC:∀o,8<=o->o<11->¬C o)(hS:∀k cs t fr,B<=k->w.heap[k]? =some (.cells cs t fr)->t=180->¬S k):QAt w' P B a n c first ys xs:=by
 refine h.frame g.size (fun o h1 h2=>g.off o (hC o h1 h2)) g.froz (fun z hz=> ?_)
 have hz2:=(h.row.lt z hz).1
 have hz3:=(h.row.lt z hz).2
 refine g.block z hz3 (by have:=h.pb;omega) ?_
 rcases h.row.2 with⟨h2,_⟩ | ⟨g',cap,cur,h2,_,hh,_⟩
 ·rw [h2] at hz;simp [Value.ownBlock] at hz
 ·rw [h2] at hz
  simp only [Value.ownBlock,Option.some.injEq] at hz
  subst hz
  exact hS _ _ _ _ hz2 hh rfl
theorem EAt.gf {w w':World}{P B n c first:Nat}{a:Option Addr}{ys xs:List Int}{C S:Nat->Prop}(h:EAt w P B a n c first ys xs)(g:GF w w' P C S)(hC:∀o,5<=o->o<8->¬C o)(hS:∀k cs t fr,B<=k->w.heap[k]? =some (.cells cs t fr)->t=39->(Value.slice a n c).ownBlock=some k->¬S k):EAt w' P B a n c first ys xs:=by
 refine h.frame g.size (fun o h1 h2=>g.off o (hC o h1 h2)) g.froz (fun z hz=> ?_)
 have hz2:=(h.row.lt z hz).1
 have hz3:=(h.row.lt z hz).2
 refine g.block z hz3 (by have:=h.pb;omega) ?_
 have hz0:=hz
 rcases h.row.2 with⟨h2,_⟩ | ⟨g',cap,cur,h2,_,hh,_⟩
 ·rw [h2] at hz;simp [Value.ownBlock] at hz
 ·rw [h2] at hz
  simp only [Value.ownBlock,Option.some.injEq] at hz
  subst hz
  exact hS _ _ _ _ hz2 hh rfl hz0
theorem WhAt.gf {w w':World}{P B n:Nat}{l:List Tm}{C S:Nat->Prop}(h:WhAt w P B noK n l)(g:GF w w' P C S)(hC:∀o,11<=o->o<728->¬C o)(hS:∀k cs t fr,B<=k->w.heap[k]? =some (.cells cs t fr)->t=183->¬S k)(hM:∀k es c,B<=k->w.heap[k]? =some (.map es c)->¬S k):WhAt w' P B noK n l :=
 h.keepT g.size (fun o h1 h2=>g.off o (hC o h1 h2)) g.froz (fun k cs fr h1 h2=>g.block k (Zaa h2) (by have:=h.pb;omega) (hS k _ _ _ h1 h2 rfl)) (fun k es c h1 h2=>g.block k (Zaa h2) (by have:=h.pb;omega) (hM k es c h1 h2))
theorem GF.of_pf {w w':World}{P B:Nat}(h:PF w w' P B noK)(hP:P<w.heap.size):GF w w' P (fun o=>11<=o/\o<728) (fun k=>¬(k<B)/\¬∃cs t fr,w.heap[k]? =some (.cells cs t fr)/\t≠183) :=
 ⟨h.size,fun k hk hkP hS=>h.block k hk hkP (by
  by_cases h1:k<B
  ·exact Or.inl (Or.inl h1)
  ·by_cases h2:∃cs t fr,w.heap[k]? =some (.cells cs t fr)/\t≠183
   ·exact Or.inr h2
   ·exact absurd ⟨h1,h2⟩ hS),fun o ho=>h.off hP o (by omega),h.froz hP⟩
theorem GF.of_rf {w w':World}{P:Nat}{ob:Option Nat}{lo hi:Nat}(h:RF w w' P ob lo hi)(hP:P<w.heap.size):GF w w' P (fun o=>lo<=o/\o<hi) (fun k=>some k=ob) :=
 ⟨h.size,fun k hk hkP hS=>h.block k hk hkP hS,fun o ho=>h.off hP o (by omega),h.froz hP⟩
theorem GF.of_rn {w w':World}{P b g:Nat}(h:RnF w w' b g)(hP:P<w.heap.size)(hb:P≠b)(hg:P≠g):GF w w' P (fun _=>False) (fun k=>k=b\/k=g):=by
 have e:=h.block P hP hb hg
 exact⟨h.size,fun k hk _ hS=>h.block k hk (fun x=>hS (Or.inl x)) (fun x=>hS (Or.inr x)),fun o _=>World.cell?_of_block (a:=⟨P,o,none⟩) e,fun o=>World.frozen?_of_block (a:=⟨P,o,none⟩) e⟩
theorem GF.set (w:World)(P o:Nat)(v:Value):GF w (w.setCell ⟨P,o,none⟩ v) P (fun x=>x=o) (fun _=>False) :=
 ⟨by simp [World.setCell],fun k _ hk _=>Below.heap_setCell w ⟨P,o,none⟩ v k hk,fun x hx=>Zab w P o x v (fun e=>hx e.symm),fun x=>by rw [World.frozen?_setCell]⟩
variable {w w':World} {P B:Nat} {ob:Option Nat} {rs:List RnM} {el:List Int} {qu:List PlD} {now:Nat} {l:List Tm} {lr lt sd:Int}
theorem KpM.pb (h:KpM w P B ob rs el qu now l lr lt sd):P<B/\B<=w.heap.size:=h.wh.pb
theorem KpM.pl (h:KpM w P B ob rs el qu now l lr lt sd):P<w.heap.size:=by have:=h.pb;omega
theorem KpM.below (h:KpM w P B ob rs el qu now l lr lt sd)(hb:Below w.heap.size w w'):KpM w' P B ob rs el qu now l lr lt sd:=by
 have e:=hb.block P h.pl
 obtain⟨ka,kc,h1⟩:=h.kn
 obtain⟨a,n,c,f,ys,h2,h2b⟩:=h.en
 obtain⟨a',n',c',f',ys',h3⟩:=h.qu
 exact⟨⟨ka,kc,h1.below hb⟩,⟨a,n,c,f,ys,h2.below hb,h2b⟩,⟨a',n',c',f',ys',h3.below hb⟩,h.wh.keep hb,(World.cell?_of_block (a:=⟨P,728,none⟩) e).trans h.lr,(World.cell?_of_block (a:=⟨P,729,none⟩) e).trans h.lt,(World.cell?_of_block (a:=⟨P,730,none⟩) e).trans h.sd,fun o=>(World.frozen?_of_block (a:=⟨P,o,none⟩) e).trans (h.fz o)⟩
theorem KpM.wheel (h:KpM w P B ob rs el qu now l lr lt sd)(hf:PF w w' P B noK){now':Nat}{l':List Tm}(hw:WhAt w' P B noK now' l'):KpM w' P B ob rs el qu now' l' lr lt sd:=by
 have g:=GF.of_pf hf h.pl
 obtain⟨ka,kc,h1⟩:=h.kn
 obtain⟨a,n,c,f,ys,h2,h2b⟩:=h.en
 obtain⟨a',n',c',f',ys',h3⟩:=h.qu
 refine⟨⟨ka,kc,h1.gf g (by omega) (fun k cs t fr _ e ht hS=>hS.2 ⟨cs,t,fr,e,by rcases ht with rfl | rfl | rfl | rfl<;>decide⟩)⟩,
  ⟨a,n,c,f,ys,h2.gf g (fun o _ _=>by omega) (fun k cs t fr _ e ht _ hS=>hS.2 ⟨cs,t,fr,e,by subst ht;decide⟩),h2b⟩,
  ⟨a',n',c',f',ys',h3.gf g (fun o _ _=>by omega) (fun k cs t fr _ e ht hS=>hS.2 ⟨cs,t,fr,e,by subst ht;decide⟩)⟩,hw,(g.off 728 (by omega)).trans h.lr,(g.off 729 (by omega)).trans h.lt,(g.off 730 (by omega)).trans h.sd,fun o=>(g.froz o).trans (h.fz o)⟩
theorem KpM.queue (h:KpM w P B ob rs el qu now l lr lt sd){a0:Option Addr}{n0 c0 f0:Nat}{ys0:List PlD}(hq:QAt w P B a0 n0 c0 f0 ys0 qu)(hf:RF w w' P (Value.slice a0 n0 c0).ownBlock 8 11){qu':List PlD}(hw:QuAt w' P B qu'):KpM w' P B ob rs el qu' now l lr lt sd:=by
 have g:=GF.of_rf hf h.pl
 have hb:∀k,some k=(Value.slice a0 n0 c0).ownBlock->∃cs,w.heap[k]? =some (.cells cs 180 (0,0)):=by
  intro k hk
  rcases hq.row.2 with⟨h2,_⟩ | ⟨g',cap,cur,h2,_,hh,_⟩
  ·rw [h2] at hk;simp [Value.ownBlock] at hk
  ·rw [h2] at hk
   simp only [Value.ownBlock,Option.some.injEq] at hk
   subst hk
   exact⟨cur,hh⟩
 have no:∀{k:Nat} {cs:Array Value} {t:TypeId} {fr:Nat×Nat},w.heap[k]? =some (.cells cs t fr)->t≠180->¬some k=(Value.slice a0 n0 c0).ownBlock:=by
  intro k cs t fr e ht hk
  obtain⟨c2,e2⟩:=hb k hk
  exact Zak e e2 ht rfl
 obtain⟨ka,kc,h1⟩:=h.kn
 obtain⟨a,n,c,f,ys,h2,h2b⟩:=h.en
 refine⟨⟨ka,kc,h1.gf g (by omega) (fun k cs t fr _ e ht=>no e (by rcases ht with rfl | rfl | rfl | rfl<;>decide))⟩,
  ⟨a,n,c,f,ys,h2.gf g (fun o _ _=>by omega) (fun k cs t fr _ e ht _=>no e (by subst ht;decide)),h2b⟩,hw,
  h.wh.gf g (fun o _ _=>by omega) (fun k cs t fr _ e ht=>no e (by subst ht;decide)) (fun k es c _ e hk=>by obtain⟨c2,e2⟩:=hb k hk;rw [e] at e2;cases e2),(g.off 728 (by omega)).trans h.lr,(g.off 729 (by omega)).trans h.lt,(g.off 730 (by omega)).trans h.sd,fun o=>(g.froz o).trans (h.fz o)⟩
theorem KpM.ended (h:KpM w P B ob rs el qu now l lr lt sd){a0:Option Addr}{n0 c0 f0:Nat}{ys0:List Int}(hq:EAt w P B a0 n0 c0 f0 ys0 el)(hf:RF w w' P (Value.slice a0 n0 c0).ownBlock 5 8){ob':Option Nat}{el':List Int}(hw:EnAt w' P B ob' el'):KpM w' P B ob' rs el' qu now l lr lt sd:=by
 have g:=GF.of_rf hf h.pl
 have hb:∀k,some k=(Value.slice a0 n0 c0).ownBlock->∃cs,w.heap[k]? =some (.cells cs 39 (0,0)):=by
  intro k hk
  rcases hq.row.2 with⟨h2,_⟩ | ⟨g',cap,cur,h2,_,hh,_⟩
  ·rw [h2] at hk;simp [Value.ownBlock] at hk
  ·rw [h2] at hk
   simp only [Value.ownBlock,Option.some.injEq] at hk
   subst hk
   exact⟨cur,hh⟩
 have no:∀{k:Nat} {cs:Array Value} {t:TypeId} {fr:Nat×Nat},w.heap[k]? =some (.cells cs t fr)->t≠39->¬some k=(Value.slice a0 n0 c0).ownBlock:=by
  intro k cs t fr e ht hk
  obtain⟨c2,e2⟩:=hb k hk
  exact Zak e e2 ht rfl
 obtain⟨ka,kc,h1⟩:=h.kn
 obtain⟨a,n,c,f,ys,h2⟩:=h.qu
 refine⟨⟨ka,kc,h1.gf g (by omega) (fun k cs t fr _ e ht=>no e (by rcases ht with rfl | rfl | rfl | rfl<;>decide))⟩,hw,
  ⟨a,n,c,f,ys,h2.gf g (fun o _ _=>by omega) (fun k cs t fr _ e ht=>no e (by subst ht;decide))⟩,
  h.wh.gf g (fun o _ _=>by omega) (fun k cs t fr _ e ht=>no e (by subst ht;decide)) (fun k es c _ e hk=>by obtain⟨c2,e2⟩:=hb k hk;rw [e] at e2;cases e2),(g.off 728 (by omega)).trans h.lr,(g.off 729 (by omega)).trans h.lt,(g.off 730 (by omega)).trans h.sd,fun o=>(g.froz o).trans (h.fz o)⟩
theorem KpM.run (h:KpM w P B ob rs el qu now l lr lt sd){i:Nat}(hi:i<rs.length){r':RnM}(hr:RnAt w' B r')(hb:r'.b=(rnAt rs i).b)(hg:r'.ng=(rnAt rs i).ng)(hf:RnF w w' (rnAt rs i).b (rnAt rs i).ng):KpM w' P B ob (rs.set i r') el qu now l lr lt sd:=by
 obtain⟨ka,kc,h1⟩:=h.kn
 obtain⟨cg,hgh,_,_,hgB,_⟩:=(h1.runs i hi).rowBlk
 have htop:=(h1.runs i hi).top
 have hPb:P≠(rnAt rs i).b:=by have:=(h1.runs i hi).bb;have:=h1.pb;omega
 have hPg:P≠(rnAt rs i).ng:=by have:=h1.pb;omega
 have g:=GF.of_rn hf h.pl hPb hPg
 have no:∀{k:Nat} {cs:Array Value} {t:TypeId} {fr:Nat×Nat},w.heap[k]? =some (.cells cs t fr)->t≠178->t≠189->¬(k=(rnAt rs i).b\/k=(rnAt rs i).ng):=by
  intro k cs t fr e ht ht2 hk
  rcases hk with hk | hk
  ·exact Zak e htop ht hk
  ·exact Zak e hgh ht2 hk
 obtain⟨a,n,c,f,ys,h2,h2b⟩:=h.en
 obtain⟨a',n',c',f',ys',h3⟩:=h.qu
 refine⟨⟨ka,kc,h1.onRun hi hr hb hg hf⟩,⟨a,n,c,f,ys,h2.gf g (fun o _ _ h=>h) (fun k cs t fr _ e ht _=>no e (by subst ht;decide) (by subst ht;decide)),h2b⟩,⟨a',n',c',f',ys',h3.gf g (fun o _ _ h=>h) (fun k cs t fr _ e ht=>no e (by subst ht;decide) (by subst ht;decide))⟩,
  h.wh.gf g (fun o _ _ h=>h) (fun k cs t fr _ e ht=>no e (by subst ht;decide) (by subst ht;decide)) (fun k es c _ e hk=>by
   rcases hk with hk | hk
   ·subst hk;rw [htop] at e;cases e
   ·subst hk;rw [hgh] at e;cases e),(g.off 728 (fun h=>h)).trans h.lr,(g.off 729 (fun h=>h)).trans h.lt,(g.off 730 (fun h=>h)).trans h.sd,fun o=>(g.froz o).trans (h.fz o)⟩
theorem KpM.num (h:KpM w P B ob rs el qu now l lr lt sd)(o:Nat)(v lr' lt' sd':Int)(ho:(o=728/\lr'=v/\lt'=lt/\sd'=sd)\/(o=729/\lr'=lr/\lt'=v/\sd'=sd)\/(o=730/\lr'=lr/\lt'=lt/\sd'=v)):KpM (w.setCell ⟨P,o,none⟩ (.int .u64 v)) P B ob rs el qu now l lr' lt' sd':=by
 have g:=GF.set w P o (.int .u64 v)
 obtain⟨ka,kc,h1⟩:=h.kn
 obtain⟨a,n,c,f,ys,h2,h2b⟩:=h.en
 obtain⟨a',n',c',f',ys',h3⟩:=h.qu
 refine⟨⟨ka,kc,h1.gf g (by omega) (fun _ _ _ _ _ _ _ h=>h)⟩,⟨a,n,c,f,ys,h2.gf g (fun o _ _=>by omega) (fun _ _ _ _ _ _ _ _ h=>h),h2b⟩,⟨a',n',c',f',ys',h3.gf g (fun o _ _=>by omega) (fun _ _ _ _ _ _ _ h=>h)⟩,h.wh.gf g (fun o _ _=>by omega) (fun _ _ _ _ _ _ _ h=>h) (fun _ _ _ _ _ h=>h),?_,?_,?_,fun x=>(g.froz x).trans (h.fz x)⟩
 ·rcases ho with⟨rfl,rfl,rfl,rfl⟩ | ⟨rfl,rfl,rfl,rfl⟩ | ⟨rfl,rfl,rfl,rfl⟩
  ·exact World.cell?_setCell_same _ _ _ h.lr
  ·exact (g.off 728 (by omega)).trans h.lr
  ·exact (g.off 728 (by omega)).trans h.lr
 ·rcases ho with⟨rfl,rfl,rfl,rfl⟩ | ⟨rfl,rfl,rfl,rfl⟩ | ⟨rfl,rfl,rfl,rfl⟩
  ·exact (g.off 729 (by omega)).trans h.lt
  ·exact World.cell?_setCell_same _ _ _ h.lt
  ·exact (g.off 729 (by omega)).trans h.lt
 ·rcases ho with⟨rfl,rfl,rfl,rfl⟩ | ⟨rfl,rfl,rfl,rfl⟩ | ⟨rfl,rfl,rfl,rfl⟩
  ·exact (g.off 730 (by omega)).trans h.sd
  ·exact (g.off 730 (by omega)).trans h.sd
  ·exact World.cell?_setCell_same _ _ _ h.sd
end Go.Proofs.YtgdcjccbdmcebabGreatDoor
namespace Go.Proofs.YtgdcjccbdmcebabGreatDoor
open Go.RowKit
set_option maxRecDepth 100000
structure KF (w w':World)(P B:Nat)(ob:Option Nat):Prop where
 os:w'.os=w.os
 tape:w'.tape=w.tape
 output:w'.output=w.output
 size:w.heap.size<=w'.heap.size
 block:∀k,k<w.heap.size->k≠P->(k<B\/∃cs t fr,w.heap[k]? =some (.cells cs t fr)/\t≠183/\t≠180/\t≠173/\t≠178/\t≠189/\(t=39->some k≠ob))->w'.heap[k]? =w.heap[k]?
 off:P<w.heap.size->∀o,o<4->w'.cell? ⟨P,o,none⟩=w.cell? ⟨P,o,none⟩
 froz:P<w.heap.size->∀o,w'.frozen? ⟨P,o,none⟩=w.frozen? ⟨P,o,none⟩
def ObTo (w:World)(ob ob':Option Nat):Prop:=∀k,ob'=some k->ob=some k\/w.heap.size<=k
theorem ObTo.refl (w:World)(ob:Option Nat):ObTo w ob ob:=fun _ h=>Or.inl h
theorem ObTo.trans {x y:World}{a b c:Option Nat}(h:ObTo x a b)(g:ObTo y b c)(hs:x.heap.size<=y.heap.size):ObTo x a c:=fun k hk=>by
 rcases g k hk with h1 | h1
 ·exact h k h1
 ·exact Or.inr (Nat.le_trans hs h1)
theorem KF.refl (w:World)(P B:Nat)(ob:Option Nat):KF w w P B ob:=⟨rfl,rfl,rfl,Nat.le_refl _,fun _ _ _ _=>rfl,fun _ _ _=>rfl,fun _ _=>rfl⟩
theorem KF.of_below {w w':World}(P B:Nat)(ob:Option Nat)(h:Below w.heap.size w w'):KF w w' P B ob:=⟨h.os,h.tape,h.output,h.size,fun k hk _ _=>h.block k hk,fun hP o _=>World.cell?_of_block (a:=⟨P,o,none⟩) (h.block P hP),fun hP o=>World.frozen?_of_block (a:=⟨P,o,none⟩) (h.block P hP)⟩
theorem KF.trans {x y z:World}{P B:Nat}{ob ob':Option Nat}(h:KF x y P B ob)(g:KF y z P B ob')(ho:ObTo x ob ob'):KF x z P B ob:=by
 refine⟨g.os.trans h.os,g.tape.trans h.tape,g.output.trans h.output,Nat.le_trans h.size g.size,fun k hk hP hr=> ?_,fun hP o hl=>(g.off (Nat.lt_of_lt_of_le hP h.size) o hl).trans (h.off hP o hl),fun hP o=>(g.froz (Nat.lt_of_lt_of_le hP h.size) o).trans (h.froz hP o)⟩
 have e:=h.block k hk hP hr
 refine (g.block k (Nat.lt_of_lt_of_le hk h.size) hP ?_).trans e
 rcases hr with hr | ⟨cs,t,fr,h1,h2,h3,h4,h5,h6,h7⟩
 ·exact Or.inl hr
 ·refine Or.inr ⟨cs,t,fr,e.trans h1,h2,h3,h4,h5,h6,fun ht hk'=> ?_⟩
  rcases ho k hk'.symm with h8 | h8
  ·exact h7 ht h8.symm
  ·omega
theorem KF.of_pf {w w':World}{P B:Nat}(h:PF w w' P B noK)(ob:Option Nat):KF w w' P B ob :=
 ⟨h.os,h.tape,h.output,h.size,fun k hk hP hr=>h.block k hk hP (by
  rcases hr with hr | ⟨cs,t,fr,h1,h2,_⟩
  ·exact Or.inl (Or.inl hr)
  ·exact Or.inr ⟨cs,t,fr,h1,h2⟩),fun hP o ho=>h.off hP o (Or.inl (by omega)),h.froz⟩
theorem KF.of_rfq {w w':World}{P B n c first:Nat}{a:Option Addr}{ys xs:List PlD}(hq:QAt w P B a n c first ys xs)(h:RF w w' P (Value.slice a n c).ownBlock 8 11)(ob:Option Nat):KF w w' P B ob:=by
 refine⟨h.os,h.tape,h.output,h.size,fun k hk hP hr=>h.block k hk hP (fun hk'=> ?_),fun hP o ho=>h.off hP o (Or.inl (by omega)),h.froz⟩
 rcases hq.row.2 with⟨h2,_⟩ | ⟨g',cap,cur,h2,hg,hh,_⟩
 ·rw [h2] at hk';simp [Value.ownBlock] at hk'
 ·rw [h2] at hk'
  simp only [Value.ownBlock,Option.some.injEq] at hk'
  subst hk'
  rcases hr with hr | ⟨cs,t,fr,h1,_,h3,_⟩
  ·omega
  ·rw [hh] at h1
   simp only [Option.some.injEq,Obj.cells.injEq] at h1
   exact h3 h1.2.1.symm
theorem KF.of_rfe {w w':World}{P B n c first:Nat}{a:Option Addr}{ys xs:List Int}(hq:EAt w P B a n c first ys xs)(h:RF w w' P (Value.slice a n c).ownBlock 5 8):KF w w' P B (Value.slice a n c).ownBlock:=by
 refine⟨h.os,h.tape,h.output,h.size,fun k hk hP hr=>h.block k hk hP (fun hk'=> ?_),fun hP o ho=>h.off hP o (Or.inl (by omega)),h.froz⟩
 have hk0:=hk'
 rcases hq.row.2 with⟨h2,_⟩ | ⟨g',cap,cur,h2,hg,hh,_⟩
 ·rw [h2] at hk';simp [Value.ownBlock] at hk'
 ·rw [h2] at hk'
  simp only [Value.ownBlock,Option.some.injEq] at hk'
  subst hk'
  rcases hr with hr | ⟨cs,t,fr,h1,_,_,_,_,_,h7⟩
  ·omega
  ·rw [hh] at h1
   simp only [Option.some.injEq,Obj.cells.injEq] at h1
   exact h7 h1.2.1.symm hk0
theorem KF.of_rn {w w':World}{P B:Nat}{ob:Option Nat}{r:RnM}(hr:RnAt w B r)(h:RnF w w' r.b r.ng)(hP:P<B):KF w w' P B ob:=by
 obtain⟨cg,hgh,_,_,hgB,_⟩:=hr.rowBlk
 have hPb:P≠r.b:=by have:=hr.bb;omega
 have hPg:P≠r.ng:=by omega
 refine⟨h.os,h.tape,h.output,h.size,fun k hk _ hd=>h.block k hk (fun e=> ?_) (fun e=> ?_),fun hP o _=>World.cell?_of_block (a:=⟨P,o,none⟩) (h.block P hP hPb hPg),fun hP o=>World.frozen?_of_block (a:=⟨P,o,none⟩) (h.block P hP hPb hPg)⟩
 ·subst e
  rcases hd with hd | ⟨cs,t,fr,h1,_,_,_,h5,_⟩
  ·have:=hr.bb;omega
  ·rw [hr.top] at h1
   simp only [Option.some.injEq,Obj.cells.injEq] at h1
   exact h5 h1.2.1.symm
 ·subst e
  rcases hd with hd | ⟨cs,t,fr,h1,_,_,_,_,h6,_⟩
  ·omega
  ·rw [hgh] at h1
   simp only [Option.some.injEq,Obj.cells.injEq] at h1
   exact h6 h1.2.1.symm
theorem KF.setP (w:World)(P B o:Nat)(ob:Option Nat)(v:Value)(ho:4<=o):KF w (w.setCell ⟨P,o,none⟩ v) P B ob :=
 ⟨rfl,rfl,rfl,by simp [World.setCell],fun k _ hP _=>Below.heap_setCell w ⟨P,o,none⟩ v k hP,fun _ o' h'=>Zab w P o o' v (by omega),fun _ o'=>by rw [World.frozen?_setCell]⟩
structure NdIs (F:FlowD)(k:Nat)(s:StD)(n:NdM):Prop where
 tok:n.tok=s.tok
 bu:n.bu=F.bu k
 cl:n.cl=F.cl k
 be:n.be=F.be k
 ba:n.ba=F.ba k
 ca:n.ca=F.ca k
 ji:n.ji=F.ji k
 af:n.af=(List.range (F.an k)).map (F.af k)
structure NdGone (n:NdM):Prop where
 tok:n.tok=0
 bu:n.bu=0
 cl:n.cl=0
 be:n.be=0
 ba:n.ba=0
 ca:n.ca=0
 ji:n.ji=0
 af:n.af=[]
structure RnIs (r:RnM)(d:RunD):Prop where
 id:r.id=d.id
 st:r.st=d.st
 len:r.ns.length=d.steps.length
 nd:∀k,k<d.steps.length->(r.at_ k).st=(d.at_ k).st/\(r.at_ k).tries=(d.at_ k).tries
 live:d.st=1->∀k,k<d.steps.length->NdIs d.fl k (d.at_ k) (r.at_ k)
 over:d.st≠1->∀k,k<d.steps.length->NdGone (r.at_ k)
def ElIs (el:List Int)(e:EngD):Prop:=∃is:List Nat,el=is.map (fun i=>(e.at_ i).id)/\(∀i,i∈is↔i<e.runs.length/\0<(e.at_ i).ended)/\is.Pairwise (fun i j=>(e.at_ i).ended<(e.at_ j).ended)
structure KpX (w:World)(P B:Nat)(ob:Option Nat)(e:EngD)(rs:List RnM)(l:List Tm):Prop where
 ex:∃el now,KpM w P B ob rs el e.queue now l e.lastRun e.lastTok e.seed/\e.time=((now:Nat):Int)/\ElIs el e
 len:rs.length=e.runs.length
 runs:∀i,i<e.runs.length->RnIs (rnAt rs i) (e.at_ i)
def KpAt (w:World)(P B:Nat)(ob:Option Nat)(e:EngD):Prop:=∃rs l,KpX w P B ob e rs l/\TimR e l
def SameB (rs rs':List RnM):Prop:=rs'.length=rs.length/\∀j,j<rs.length->(rnAt rs' j).b=(rnAt rs j).b
theorem SameB.refl (rs:List RnM):SameB rs rs:=⟨rfl,fun _ _=>rfl⟩
theorem SameB.trans {a b c:List RnM}(h:SameB a b)(g:SameB b c):SameB a c:=⟨g.1.trans h.1,fun j hj=>(g.2 j (by rw [h.1];exact hj)).trans (h.2 j hj)⟩
theorem KpX.below {w w':World}{P B:Nat}{ob:Option Nat}{e:EngD}{rs:List RnM}{l:List Tm}(h:KpX w P B ob e rs l)(hb:Below w.heap.size w w'):KpX w' P B ob e rs l:=by
 obtain⟨el,now,h1,h2,h3⟩:=h.ex
 exact⟨⟨el,now,h1.below hb,h2,h3⟩,h.len,h.runs⟩
theorem KpAt.below {w w':World}{P B:Nat}{ob:Option Nat}{e:EngD}(h:KpAt w P B ob e)(hb:Below w.heap.size w w'):KpAt w' P B ob e:=by
 obtain⟨rs,l,h1,h2⟩:=h
 exact⟨rs,l,h1.below hb,h2⟩
end Go.Proofs.YtgdcjccbdmcebabGreatDoor
namespace Go.Proofs.YtgdcjccbdmcebabGreatDoor
open Go.RowKit
theorem RnIs.step {r:RnM}{d:RunD}(h:RnIs r d)(h1:d.st=1){k:Nat}(hk:k<d.steps.length){f:NdM->NdM}{g:StD->StD}(hs:(f (r.at_ k)).st=(g (d.at_ k)).st)(ht:(f (r.at_ k)).tries=(g (d.at_ k)).tries)(hn:NdIs d.fl k (g (d.at_ k)) (f (r.at_ k))):RnIs (r.onNd k f) (d.onStep k g):=by
 have hk':k<r.ns.length:=by rw [h.len];exact hk
 refine⟨h.id,h.st,by rw [RnM.onNd_len,Zal];exact h.len,fun m hm=> ?_,fun _ m hm=> ?_,fun h2=>absurd h1 h2⟩
 ·rw [Zal] at hm
  rw [RnM.onNd_at _ _ _ _ (by rw [h.len];exact hm),Zdu _ _ _ _ hm]
  by_cases e:k=m
  ·subst e;rw [if_pos rfl,if_pos rfl];exact⟨hs,ht⟩
  ·rw [if_neg e,if_neg e];exact h.nd m hm
 ·rw [Zal] at hm
  rw [RnM.onNd_at _ _ _ _ (by rw [h.len];exact hm),Zdu _ _ _ _ hm,onStep_fl]
  by_cases e:k=m
  ·subst e;rw [if_pos rfl,if_pos rfl];exact hn
  ·rw [if_neg e,if_neg e];exact h.live h1 m hm
theorem NdIs.st {F:FlowD}{k:Nat}{s:StD}{n:NdM}(h:NdIs F k s n)(x y:Int):NdIs F k { s with st:=x } { n with st:=y }:=⟨h.tok,h.bu,h.cl,h.be,h.ba,h.ca,h.ji,h.af⟩
theorem RnIs.setSt {r:RnM}{d:RunD}(h:RnIs r d)(h1:d.st=1){k:Nat}(hk:k<d.steps.length)(v:Int):RnIs (r.onNd k (fun n=>{ n with st:=v })) (d.onStep k (fun s=>{ s with st:=v })) :=
 h.step h1 hk rfl (h.nd k hk).2 ((h.live h1 k hk).st v v)
theorem RnIs.ended {r:RnM}{d:RunD}(h:RnIs r d)(st ends:Int)(hst:st≠1):RnIs (r.ended st) (Zdq st ends d):=by
 have hl:(r.ended st).ns.length=r.ns.length:=by unfold RnM.ended;simp
 have hat:∀k,k<r.ns.length->(r.ended st).at_ k=(r.at_ k).over:=by
  intro k hk
  have:=RnM.endTo_at (r:=r) (st:=st) (k:=r.ns.length) hk
  rw [RnM.endTo_all,if_pos hk] at this
  exact this
 refine⟨h.id,rfl,by rw [hl,Zbk];exact h.len,fun k hk=> ?_,fun h2=>absurd h2 hst,fun _ k hk=> ?_⟩
 ·rw [Zbk] at hk
  rw [hat k (by rw [h.len];exact hk),Zdw st ends d hk]
  obtain⟨h1,h2⟩:=h.nd k hk
  unfold NdM.over overSt endSt
  simp only [h1]
  split<;>exact⟨rfl,h2⟩
 ·rw [Zbk] at hk
  rw [hat k (by rw [h.len];exact hk)]
  exact⟨rfl,rfl,rfl,rfl,rfl,rfl,rfl,rfl⟩
theorem RnIs.within {r:RnM}{d:RunD}(h:RnIs r d)(h1:d.st=1)(hf:FlOk d.fl)(hl:d.steps.length=d.fl.n):r.within:=by
 intro k hk
 have hk':k<d.steps.length:=by rw [<-h.len];exact hk
 have ha:=(h.live h1 k hk').af
 have he:=hf.edge k (by omega)
 have hr:∀a,a<d.fl.an k->(a:Int)<=d.fl.af k a:=by
  intro a
  induction a with
  | zero=>intro h0;have:=(he 0 h0).1;omega
  | succ a ih=>intro h0;have:=ih (by omega);have:=(he (a+1) h0).2.2 (by omega);simp only [Nat.add_sub_cancel] at this;omega
 have hn12:=hf.top.n2
 have han:d.fl.an k<=12:=by
  rcases Nat.lt_or_ge (d.fl.an k) 13 with hx | hx
  ·omega
  ·have:=hr 12 (by omega)
   have:=(he 12 (by omega)).2.1
   omega
 rw [ha]
 refine⟨by simp;omega,fun a hm=> ?_⟩
 obtain⟨j,hj,rfl⟩:=List.mem_map.1 hm
 have:=he j (List.mem_range.1 hj)
 exact⟨this.1,by have:=this.2.1;have:=h.len;omega⟩
theorem RnIs.af_in {r:RnM}{d:RunD}(hl:d.steps.length=d.fl.n)(hf:FlOk d.fl){k:Nat}(hk:k<d.steps.length){j:Nat}(hj:j<d.fl.an k):(d.fl.af k j).toNat<d.steps.length:=by
 have h:=hf.edge k (by omega) j hj
 have:=h.1
 have:=h.2.1
 omega
theorem RnIs.free {r:RnM}{d:RunD}(h:RnIs r d)(h1:d.st=1)(hf:FlOk d.fl)(hl:d.steps.length=d.fl.n){k:Nat}(hk:k<d.steps.length):r.free k=d.free k:=by
 unfold RnM.free RunD.free
 rw [(h.nd k hk).1,(h.live h1 k hk).af,List.all_map]
 congr 1
 rw [Bool.eq_iff_iff,List.all_eq_true,List.all_eq_true]
 constructor
 ·intro g j hj
  have:=g j hj
  have hin:=RnIs.af_in (r:=r) hl hf hk (List.mem_range.1 hj)
  simp only [Function.comp] at this
  rw [(h.nd _ hin).1] at this
  exact this
 ·intro g j hj
  have:=g j hj
  have hin:=RnIs.af_in (r:=r) hl hf hk (List.mem_range.1 hj)
  simp only [Function.comp]
  rw [(h.nd _ hin).1]
  exact this
theorem RnIs.awake {r:RnM}{d:RunD}(h:RnIs r d)(h1:d.st=1)(hf:FlOk d.fl)(hl:d.steps.length=d.fl.n):r.awake=(List.range d.steps.length).filter d.free:=by
 unfold RnM.awake RnM.freeL
 rw [h.len]
 exact List.filter_congr (fun k hk=>h.free h1 hf hl (List.mem_range.1 hk))
theorem RnIs.lost {r:RnM}{d:RunD}(h:RnIs r d)(h1:d.st=1)(hf:FlOk d.fl)(hl:d.steps.length=d.fl.n){k:Nat}(hk:k<d.steps.length):r.lost k=d.lost k:=by
 unfold RnM.lost RunD.lost RnM.fell
 rw [(h.nd k hk).1,(h.live h1 k hk).af,List.any_map]
 congr 1
 rw [Bool.eq_iff_iff,List.any_eq_true,List.any_eq_true]
 constructor
 ·rintro⟨j,hj,g⟩
  have hin:=RnIs.af_in (r:=r) hl hf hk (List.mem_range.1 hj)
  simp only [Function.comp] at g
  rw [(h.nd _ hin).1] at g
  exact⟨j,hj,g⟩
 ·rintro⟨j,hj,g⟩
  have hin:=RnIs.af_in (r:=r) hl hf hk (List.mem_range.1 hj)
  refine⟨j,hj,?_⟩
  simp only [Function.comp]
  rw [(h.nd _ hin).1]
  exact g
theorem SkR.snoc {a b:RunD}(h:SkR a b){k:Nat}(hk:k<b.steps.length)(hl:b.lost k=true):SkR a (b.onStep k skp):=h.trans (.step b _ k hk hl (.refl _))
theorem SkM.is {r r2:RnM}{d:RunD}(hs:SkM r r2)(h:RnIs r d)(h1:d.st=1)(hf:FlOk d.fl)(hl:d.steps.length=d.fl.n):∃d2,SkR d d2/\RnIs r2 d2:=by
 induction hs with
 | refl=>exact⟨d, .refl d,h⟩
 | step r2 k _ hk hlo ih =>
  obtain⟨d2,hd,hi⟩:=ih
  have hsm:=hd.same
  have hlen:=hd.len
  have hk2:k<d2.steps.length:=by rw [<-hi.len];exact hk
  have e:=hi.lost (by rw [hsm.2.2.1];exact h1) (by rw [hsm.2.1];exact hf) (by rw [hlen,hsm.2.1];exact hl) hk2
  rw [hlo] at e
  exact⟨d2.onStep k skp,hd.snoc hk2 e.symm,hi.setSt (by rw [hsm.2.2.1];exact h1) hk2 7⟩
theorem RnM.shut.is {r2:RnM}{d2:RunD}(hs:r2.shut)(h:RnIs r2 d2)(h1:d2.st=1)(hf:FlOk d2.fl)(hl:d2.steps.length=d2.fl.n):Shut d2:=by
 intro k hk
 rw [<-h.lost h1 hf hl hk]
 exact hs k (by rw [h.len];exact hk)
def outI:Option Int->Int
 | none=>1
 | some st=>st
theorem ns_all {r:RnM}{p:NdM->Bool}:r.ns.all p=true↔∀k,k<r.ns.length->p (r.at_ k)=true:=by
 rw [List.all_eq_true]
 constructor
 ·intro h k hk
  exact h _ (Zbj (z:=NdM.z) hk)
 ·intro h x hx
  obtain⟨k,hk,e⟩:=Zbz (z:=NdM.z) hx
  have:=h k hk
  unfold RnM.at_ at this
  rw [e] at this;exact this
theorem RnIs.outcome {r:RnM}{d:RunD}(h:RnIs r d):r.outc=outI d.outcome:=by
 have e1:∀p:Int->Bool,r.ns.all (fun n=>p n.st)=d.steps.all (fun s=>p s.st):=by
  intro p
  rw [Bool.eq_iff_iff,ns_all,all_at,h.len]
  constructor
  ·intro g k hk;have:=g k hk;rw [(h.nd k hk).1] at this;exact this
  ·intro g k hk;have:=g k hk;rw [(h.nd k hk).1];exact this
 unfold RnM.outc RunD.outcome
 have a:=e1 (fun x=>x == 5||x == 6||x == 7)
 have b:=e1 (fun x=>x == 5)
 rw [a,b]
 split
 ·rfl
 ·rfl
theorem WorkIs.task {rs:List RnM}{tok:Int}{o:Option (Nat×Nat)}{e:EngD}(h:WorkIs rs tok o)(hl:rs.length=e.runs.length)(hi:∀i,i<e.runs.length->RnIs (rnAt rs i) (e.at_ i))(wk:EngWk e):e.task tok=o:=by
 have key:∀i k,i<e.runs.length->k<(e.at_ i).steps.length->(((rnAt rs i).at_ k).works tok↔((e.at_ i).at_ k).st=3/\((e.at_ i).at_ k).tok=tok):=by
  intro i k h1 h2
  unfold NdM.works
  rw [((hi i h1).nd k h2).1]
  by_cases h3:((e.at_ i).at_ k).st=3
  ·have hst:=wk.runs_of h1 h2 (by omega)
   rw [((hi i h1).live hst k h2).tok]
  ·constructor<;>(intro h4;exact absurd h4.1 h3)
 cases h with
 | no hn =>
  refine task_no (fun i h1=>work_no (fun k h2=> ?_))
  rw [<-key i k h1 h2]
  exact hn i k (by omega) (by rw [(hi i h1).len];exact h2)
 | at_ i k h1 h2 h3 h4 h5 =>
  have h1':i<e.runs.length:=by omega
  have h2':k<(e.at_ i).steps.length:=by rw [<-(hi i h1').len];exact h2
  refine task_at h1' (work_at h2' ((key i k h1' h2').1 h3) (fun j hj=> ?_)) (fun j hj=>work_no (fun m hm=> ?_))
  ·rw [<-key i j h1' (by omega)];exact h4 j hj
  ·rw [<-key j m (by omega) hm]
   exact h5 j m hj (by rw [(hi j (by omega)).len];exact hm)
theorem findR_is {rs:List RnM}{id:Int}{e:EngD}(hl:rs.length=e.runs.length)(hi:∀i,i<e.runs.length->RnIs (rnAt rs i) (e.at_ i)):findR rs id=e.find id:=by
 have e1:∀j (hj:j<e.runs.length),e.at_ j=e.runs[j]:=fun j hj=>by unfold EngD.at_;rw [List.getD_eq_getElem?_getD,List.getElem?_eq_getElem hj];rfl
 cases h:e.find id with
 | none =>
  unfold EngD.find at h
  rw [List.findIdx?_eq_none_iff] at h
  refine findR_none (fun j hj=> ?_)
  have hj':j<e.runs.length:=by omega
  have:=h (e.at_ j) (by rw [e1 j hj'];exact List.getElem_mem hj')
  rw [(hi j hj').id]
  simpa using this
 | some i =>
  unfold EngD.find at h
  rw [List.findIdx?_eq_some_iff_getElem] at h
  obtain⟨h1,h2,h3⟩:=h
  refine findR_some (by omega) ?_ (fun j hj=> ?_)
  ·rw [(hi i h1).id,e1 i h1];simpa using h2
  ·have:=h3 j hj
   rw [(hi j (by omega)).id,e1 j (by omega)]
   simpa using this
theorem Zc8 {rs:List RnM}{i j:Nat}{r:RnM}(hi:i<rs.length)(hj:j<rs.length):rnAt (rs.set i r) j=if i=j then r else rnAt rs j:=by
 unfold rnAt
 rw [List.getD_eq_getElem?_getD,List.getD_eq_getElem?_getD,List.getElem?_set]
 by_cases e:i=j
 ·subst e;rw [if_pos rfl,if_pos hi,if_pos rfl];rfl
 ·rw [if_neg e,if_neg e]
theorem runs_set {rs:List RnM}{e e':EngD}{i:Nat}{r:RnM}{f:RunD->RunD}(hl:rs.length=e.runs.length)(hi:∀i,i<e.runs.length->RnIs (rnAt rs i) (e.at_ i))(h:i<e.runs.length)(he:e'.runs=(e.onRun i f).runs)(hr:RnIs r (f (e.at_ i))):(rs.set i r).length=e'.runs.length/\∀j,j<e'.runs.length->RnIs (rnAt (rs.set i r) j) (e'.at_ j):=by
 have hl2:e'.runs.length=e.runs.length:=by rw [he];exact Zbh e i f
 refine⟨by rw [List.length_set,hl2];exact hl,fun j hj=> ?_⟩
 rw [hl2] at hj
 have ha:e'.at_ j=(e.onRun i f).at_ j:=by unfold EngD.at_;rw [he]
 rw [Zc8 (by omega) (by omega),ha,Zb1 e i j f hj]
 by_cases c:i=j
 ·subst c;rw [if_pos rfl,if_pos rfl];exact hr
 ·rw [if_neg c,if_neg c];exact hi j hj
theorem ElIs.same {el:List Int}{e e':EngD}(h:ElIs el e)(hl:e'.runs.length=e.runs.length)(hs:∀j,j<e.runs.length->(e'.at_ j).id=(e.at_ j).id/\(e'.at_ j).ended=(e.at_ j).ended):ElIs el e':=by
 obtain⟨is,h1,h2,h3⟩:=h
 have hin:∀i,i∈is->i<e.runs.length:=fun i hi=>((h2 i).1 hi).1
 refine⟨is,?_,fun i=> ?_,?_⟩
 ·rw [h1]
  exact List.map_congr_left (fun i hi=>((hs i (hin i hi)).1).symm)
 ·rw [h2,hl]
  constructor
  ·rintro⟨a,b⟩;exact⟨a,by rw [(hs i a).2];exact b⟩
  ·rintro⟨a,b⟩;exact⟨a,by rw [<-(hs i a).2];exact b⟩
 ·refine h3.imp_of_mem (fun {a b} ha hb hab=> ?_)
  rw [(hs a (hin a ha)).2,(hs b (hin b hb)).2]
  exact hab
theorem ElIs.snoc {el:List Int}{e e':EngD}{i:Nat}(h:ElIs el e)(hl:e'.runs.length=e.runs.length)(hi:i<e.runs.length)(h0:(e.at_ i).ended=0)(hs:∀j,j<e.runs.length->j≠i->(e'.at_ j).id=(e.at_ j).id/\(e'.at_ j).ended=(e.at_ j).ended)(hid:(e'.at_ i).id=(e.at_ i).id)(hen:(e'.at_ i).ended=e.ends+1)(he0:0<=e.ends)(hB:∀j,j<e.runs.length->(e.at_ j).ended<=e.ends):ElIs (el++[(e.at_ i).id]) e':=by
 obtain⟨is,h1,h2,h3⟩:=h
 have hin:∀j,j∈is->j<e.runs.length/\j≠i:=fun j hj=>⟨((h2 j).1 hj).1,fun c=>by have:=((h2 j).1 hj).2;rw [c,h0] at this;omega⟩
 refine⟨is++[i],?_,fun j=> ?_,?_⟩
 ·rw [h1,List.map_append]
  congr 1
  ·exact List.map_congr_left (fun j hj=>((hs j (hin j hj).1 (hin j hj).2).1).symm)
  ·simp [hid]
 ·rw [List.mem_append,List.mem_singleton,h2,hl]
  constructor
  ·rintro (⟨a,b⟩ | rfl)
   ·by_cases c:j=i
    ·subst c;exact⟨a,by rw [hen];omega⟩
    ·exact⟨a,by rw [(hs j a c).2];exact b⟩
   ·exact⟨hi,by rw [hen];omega⟩
  ·rintro⟨a,b⟩
   by_cases c:j=i
   ·exact Or.inr c
   ·exact Or.inl ⟨a,by rw [<-(hs j a c).2];exact b⟩
 ·rw [List.pairwise_append]
  refine⟨h3.imp_of_mem (fun {a b} ha hb hab=>by rw [(hs a (hin a ha).1 (hin a ha).2).2,(hs b (hin b hb).1 (hin b hb).2).2];exact hab),List.pairwise_singleton _ _,fun a ha b hb=> ?_⟩
  rw [List.mem_singleton] at hb
  subst hb
  rw [hen,(hs a (hin a ha).1 (hin a ha).2).2]
  have:=hB a (hin a ha).1
  omega
end Go.Proofs.YtgdcjccbdmcebabGreatDoor
