import Derived.Test.YtgdcjccbdmcebabGreatDoorM44
set_option linter.unusedSimpArgs false
set_option linter.unusedVariables false
namespace Go.Proofs.YtgdcjccbdmcebabGreatDoor
open Go.RowKit
set_option maxRecDepth 100000
attribute [local go_sem ↓] Go.wp_at_zero Go.wp_at_succ
structure InfoC (w:World)(rb:Nat)(a b:Int)(v1 v2:Value):Prop where
 blk:w.heap[rb]? =some (.cells #[.int .u64 a, .int .i64 b,v1,v2] 50 (0,0))
theorem InfoC.cells {w:World}{rb:Nat}{a b:Int}{v1 v2:Value}(h:InfoC w rb a b v1 v2):((w.cell? ⟨rb,0,none⟩=some (.int .u64 a)/\w.cell? ⟨rb,1,none⟩=some (.int .i64 b))/\w.cell? ⟨rb,2,none⟩=some v1)/\w.cell? ⟨rb,3,none⟩=some v2:=by
 refine⟨⟨⟨?_,?_⟩,?_⟩,?_⟩<;>(unfold World.cell?;rw [h.blk];rfl)
theorem InfoC.froz {w:World}{rb:Nat}{a b:Int}{v1 v2:Value}(h:InfoC w rb a b v1 v2):((w.frozen? ⟨rb,0,none⟩=false/\w.frozen? ⟨rb,1,none⟩=false)/\w.frozen? ⟨rb,2,none⟩=false)/\w.frozen? ⟨rb,3,none⟩=false:=by
 refine⟨⟨⟨?_,?_⟩,?_⟩,?_⟩<;>simp [World.frozen?,h.blk]
theorem InfoC.at_ {w w':World}{rb:Nat}{a b:Int}{v1 v2:Value}(h:InfoC w rb a b v1 v2)(e:w'.heap[rb]? =w.heap[rb]?):InfoC w' rb a b v1 v2:=⟨e.trans h.blk⟩
theorem InfoC.set (w:World)(rb:Nat){a b:Int}{v1 v2:Value}(h:InfoC w rb a b v1 v2)(x y:Int)(z t:Value):InfoC ((((w.setCell ⟨rb,0,none⟩ (.int .u64 x)).setCell ⟨rb,1,none⟩ (.int .i64 y)).setCell ⟨rb,2,none⟩ z).setCell ⟨rb,3,none⟩ t) rb x y z t:=by
 refine⟨?_⟩
 rw [Zac (Zac (Zac (Zac h.blk _) _) _) _]
 rfl
theorem InfoC.set2 {w:World}{rb:Nat}{a b:Int}{v1 v2:Value}(h:InfoC w rb a b v1 v2)(z:Value):InfoC (w.setCell ⟨rb,2,none⟩ z) rb a b z v2:=⟨by rw [Zac h.blk];rfl⟩
theorem InfoC.set3 {w:World}{rb:Nat}{a b:Int}{v1 v2:Value}(h:InfoC w rb a b v1 v2)(z:Value):InfoC (w.setCell ⟨rb,3,none⟩ z) rb a b v1 z:=⟨by rw [Zac h.blk];rfl⟩
theorem info_res {w:World}{rb:Nat}{a b:Int}{a1 a2:Option Addr}{n1 c1 n2 c2:Nat}(h:InfoC w rb a b (.slice a1 n1 c1) (.slice a2 n2 c2)):(loadVar 50 ⟨rb,0,none⟩).run Tryz.prog w= .ok (.agg #[.int .u64 a, .int .i64 b, .slice a1 n1 c1, .slice a2 n2 c2]) w:=by
 obtain⟨⟨⟨z0,z1⟩,z2⟩,z3⟩:=h.cells
 go_simp
def infoV (id st:Int)(v1 v2:Value):Value:= .agg #[.int .u64 id, .int .i64 st,v1,v2]
def RunD.sts (r:RunD):List Int:=r.steps.map (·.st)
def RunD.trs (r:RunD):List Int:=r.steps.map (·.tries)
def stV (r:RunD)(i:Nat):List Value:=(r.sts.take i).map (Value.int .i64)
def trV (r:RunD)(i:Nat):List Value:=(r.trs.take i).map (Value.int .i64)
theorem stV_succ {r:RunD}{i:Nat}(h:i<r.steps.length):stV r (i+1)=stV r i++[.int .i64 (r.at_ i).st]:=by
 unfold stV RunD.sts
 rw [List.take_add_one,List.map_append,List.getElem?_map,List.getElem?_eq_getElem h]
 unfold RunD.at_
 rw [List.getD_eq_getElem?_getD,List.getElem?_eq_getElem h]
 rfl
theorem trV_succ {r:RunD}{i:Nat}(h:i<r.steps.length):trV r (i+1)=trV r i++[.int .i64 (r.at_ i).tries]:=by
 unfold trV RunD.trs
 rw [List.take_add_one,List.map_append,List.getElem?_map,List.getElem?_eq_getElem h]
 unfold RunD.at_
 rw [List.getD_eq_getElem?_getD,List.getElem?_eq_getElem h]
 rfl
theorem stV_all (r:RunD):stV r r.steps.length=r.sts.map (Value.int .i64):=by unfold stV;rw [List.take_of_length_le (by unfold RunD.sts;simp)]
theorem trV_all (r:RunD):trV r r.steps.length=r.trs.map (Value.int .i64):=by unfold trV;rw [List.take_of_length_le (by unfold RunD.trs;simp)]
structure QryAt (w wr:World)(rb ib:Nat)(id st:Int)(d:RunD)(i:Nat)(a1 a2:Option Addr)(c1 c2:Nat):Prop where
 info:InfoC wr ib id st (.slice a1 i c1) (.slice a2 i c2)
 res:InfoC wr rb 0 0 (.slice none 0 0) (.slice none 0 0)
 r1:wr.ownsRow w.heap.size 3 1 (.slice a1 i c1) i (stV d i)
 r2:wr.ownsRow w.heap.size 3 1 (.slice a2 i c2) i (trV d i)
 ap:∀z,(Value.slice a1 i c1).ownBlock=some z->(Value.slice a2 i c2).ownBlock≠some z
 bel:Below w.heap.size w wr
 rw_:w.heap.size<=rb
 iw_:w.heap.size<=ib
 ne:rb≠ib
theorem QryAt.below {w wr wx:World}{rb ib:Nat}{id st:Int}{d:RunD}{i:Nat}{a1 a2:Option Addr}{c1 c2:Nat}(h:QryAt w wr rb ib id st d i a1 a2 c1 c2)(hb:Below wr.heap.size wr wx):QryAt w wx rb ib id st d i a1 a2 c1 c2 :=
 ⟨h.info.at_ (hb.block _ (Zaa h.info.blk)),h.res.at_ (hb.block _ (Zaa h.res.blk)),Zah h.r1 hb,Zah h.r2 hb,h.ap,h.bel.trans (hb.mono h.bel.size),h.rw_,h.iw_,h.ne⟩
structure QryMid (w wr:World)(rb ib:Nat)(id st:Int)(d:RunD)(i:Nat)(a1 a2:Option Addr)(c1 c2:Nat):Prop where
 info:InfoC wr ib id st (.slice a1 (i+1) c1) (.slice a2 i c2)
 res:InfoC wr rb 0 0 (.slice none 0 0) (.slice none 0 0)
 r1:wr.ownsRow w.heap.size 3 1 (.slice a1 (i+1) c1) (i+1) (stV d (i+1))
 r2:wr.ownsRow w.heap.size 3 1 (.slice a2 i c2) i (trV d i)
 ap:∀z,(Value.slice a1 (i+1) c1).ownBlock=some z->(Value.slice a2 i c2).ownBlock≠some z
 bel:Below w.heap.size w wr
 rw_:w.heap.size<=rb
 iw_:w.heap.size<=ib
 ne:rb≠ib
theorem Zcv {w:World}{B rb n:Nat}{v:Value}{xs:List Value}{a b:Int}{v1 v2:Value}(h:w.ownsRow B 3 1 v n xs)(hi:InfoC w rb a b v1 v2):v.ownBlock≠some rb:=fun e=>by
 rcases h.2 with⟨h2,_⟩ | ⟨g,cap,cur,h2,_,hh,_⟩
 ·rw [h2] at e;simp [Value.ownBlock] at e
 ·rw [h2] at e
  simp only [Value.ownBlock,Option.some.injEq] at e
  subst e
  exact Zak hh hi.blk (by decide) rfl
theorem QryAt.one {w wr w2 wA w7:World}{rb ib:Nat}{id st:Int}{d:RunD}{i gg gcap:Nat}{a1 a2:Option Addr}{c1 c2:Nat}{x:Value}(h:QryAt w wr rb ib id st d i a1 a2 c1 c2)(hi:i<d.steps.length)(hx:x= .int .i64 (d.at_ i).st)(hb:Below wr.heap.size wr w2)(hA:wA=w2.alloc (.cells #[x] 3))
  (hown:w7.ownsRow w.heap.size 3 1 (.slice (some ⟨gg,0,none⟩) (i+1) gcap) (i+1) (stV d i++[x])) (hg:wA.grownBy w7 (Value.slice a1 i c1).ownBlock) (hat:(Value.slice a1 i c1).ownBlock=some gg\/gg=wA.heap.size) :
  QryMid w (w7.setCell ⟨ib,2,none⟩ (.slice (some ⟨gg,0,none⟩) (i+1) gcap)) rb ib id st d i (some ⟨gg,0,none⟩) a2 gcap c2:=by
 have h2:=(h.below hb).below (wx:=wA) (by rw [hA];exact (Below.refl _ _).alloc (Nat.le_refl _) _)
 have n1:=Zcv h2.r1 h2.info
 have n2:=Zcv h2.r1 h2.res
 have e1:w7.heap[ib]? =wA.heap[ib]? :=hg.block ib (Zaa h2.info.blk) (fun e=>n1 e.symm)
 have e2:w7.heap[rb]? =wA.heap[rb]? :=hg.block rb (Zaa h2.res.blk) (fun e=>n2 e.symm)
 have hI:=h2.info.at_ e1
 have hgg:(some gg:Option Nat)≠(Value.slice a2 i c2).ownBlock:=fun e=>by
  rcases hat with q | q
  ·exact h2.ap gg q e.symm
  ·have:=(h2.r2.lt gg e.symm).2;omega
 have hr2:w7.ownsRow w.heap.size 3 1 (.slice a2 i c2) i (trV d i):=h2.r2.kept hg (by
  by_cases e:(Value.slice a2 i c2).ownBlock=none
  ·exact Or.inl e
  ·refine Or.inr (fun e2=> ?_)
   obtain⟨z,hz⟩:=Option.ne_none_iff_exists'.1 e
   rw [hz] at e2
   exact h2.ap z e2.symm hz)
 have hbl:Below w.heap.size w w7:=h2.bel.grown hg h2.bel.size (fun z hz=>(h2.r1.lt z hz).1)
 refine⟨hI.set2 _,(h2.res.at_ e2).at_ (Below.heap_setCell _ _ _ _ h2.ne),Zad ?_ hI.blk (by decide) _,Zad hr2 hI.blk (by decide) _,fun z hz e=>hgg ?_,hbl.setCell h2.iw_ _,h2.rw_,h2.iw_,h2.ne⟩
 ·rw [stV_succ hi,<-hx];exact hown
 ·simp only [Value.ownBlock,Option.some.injEq] at hz;rw [hz];exact e.symm
theorem QryMid.two {w wr wA w7:World}{rb ib:Nat}{id st:Int}{d:RunD}{i gg gcap:Nat}{a1 a2:Option Addr}{c1 c2:Nat}{x:Value}(h:QryMid w wr rb ib id st d i a1 a2 c1 c2)(hi:i<d.steps.length)(hx:x= .int .i64 (d.at_ i).tries)(hA:wA=wr.alloc (.cells #[x] 3))
  (hown:w7.ownsRow w.heap.size 3 1 (.slice (some ⟨gg,0,none⟩) (i+1) gcap) (i+1) (trV d i++[x])) (hg:wA.grownBy w7 (Value.slice a2 i c2).ownBlock) (hat:(Value.slice a2 i c2).ownBlock=some gg\/gg=wA.heap.size) :
  QryAt w (w7.setCell ⟨ib,3,none⟩ (.slice (some ⟨gg,0,none⟩) (i+1) gcap)) rb ib id st d (i+1) a1 (some ⟨gg,0,none⟩) c1 gcap:=by
 have hb:Below wr.heap.size wr wA:=by rw [hA];exact (Below.refl _ _).alloc (Nat.le_refl _) _
 have hI0:=h.info.at_ (hb.block _ (Zaa h.info.blk))
 have hR0:=h.res.at_ (hb.block _ (Zaa h.res.blk))
 have r1:=Zah h.r1 hb
 have r2:=Zah h.r2 hb
 have hbw:=h.bel.trans (hb.mono h.bel.size)
 have n1:=Zcv r2 hI0
 have n2:=Zcv r2 hR0
 have e1:w7.heap[ib]? =wA.heap[ib]? :=hg.block ib (Zaa hI0.blk) (fun e=>n1 e.symm)
 have e2:w7.heap[rb]? =wA.heap[rb]? :=hg.block rb (Zaa hR0.blk) (fun e=>n2 e.symm)
 have hI:=hI0.at_ e1
 have hgg:(some gg:Option Nat)≠(Value.slice a1 (i+1) c1).ownBlock:=fun e=>by
  rcases hat with q | q
  ·exact h.ap gg e.symm q
  ·have:=(r1.lt gg e.symm).2;omega
 have hr1:w7.ownsRow w.heap.size 3 1 (.slice a1 (i+1) c1) (i+1) (stV d (i+1)):=r1.kept hg (by
  by_cases e:(Value.slice a1 (i+1) c1).ownBlock=none
  ·exact Or.inl e
  ·refine Or.inr (fun e2=> ?_)
   obtain⟨z,hz⟩:=Option.ne_none_iff_exists'.1 e
   rw [hz] at e2
   exact h.ap z hz e2.symm)
 have hbl:Below w.heap.size w w7:=hbw.grown hg hbw.size (fun z hz=>(r2.lt z hz).1)
 refine⟨hI.set3 _,(hR0.at_ e2).at_ (Below.heap_setCell _ _ _ _ h.ne),Zad hr1 hI.blk (by decide) _,Zad ?_ hI.blk (by decide) _,fun z hz e=>hgg ?_,hbl.setCell h.iw_ _,h.rw_,h.iw_,h.ne⟩
 ·rw [trV_succ hi,<-hx];exact hown
 ·simp only [Value.ownBlock,Option.some.injEq] at e;rw [e];exact hz.symm
set_option maxHeartbeats 8000000 in
theorem kquery_any (w:World)(P B:Nat)(ob:Option Nat)(e:EngD)(id:Int)(h:KpAt w P B ob e) :
  Calls Tryz.prog 63 #[.pointer (some ⟨P,4,none⟩), .int .u64 id] w fun x w'=>((e.find id=none/\x= .returned (.tuple #[infoV 0 0 (.slice none 0 0) (.slice none 0 0),errV 6]))\/∃i a1 a2 c1 c2,e.find id=some i/\x= .returned (.tuple #[infoV id (e.at_ i).st (.slice a1 (e.at_ i).steps.length c1) (.slice a2 (e.at_ i).steps.length c2), .nilIface])/\w'.ownsRow w.heap.size 3 1 (.slice a1 (e.at_ i).steps.length c1) (e.at_ i).steps.length ((e.at_ i).sts.map (Value.int .i64))/\w'.ownsRow w.heap.size 3 1 (.slice a2 (e.at_ i).steps.length c2) (e.at_ i).steps.length ((e.at_ i).trs.map (Value.int .i64)))/\Below w.heap.size w w':=by
 obtain⟨rs,l,hx,ht⟩:=h
 obtain⟨w0,hw0⟩:∃w0,w0=w.alloc (.cells #[.int .u64 0, .int .i64 0, .slice none 0 0, .slice none 0 0] 50):=⟨_,rfl⟩
 obtain⟨rb,hrb⟩:∃rb,rb=w.heap.size:=⟨_,rfl⟩
 have hB0:Below w.heap.size w w0:=by rw [hw0];exact (Below.refl _ _).alloc (Nat.le_refl _) _
 have hblk:InfoC w0 rb 0 0 (.slice none 0 0) (.slice none 0 0):=⟨by rw [hw0,hrb];exact heap_alloc_new w _⟩
 have hx0:=hx.below hB0
 obtain⟨el,now,hM,htm,hel⟩:=hx0.ex
 obtain⟨ka,kc,hkn⟩:=hM.kn
 have hfind:=find_any w0 P B kc ka rs id hkn
 rw [findR_is hx0.len hx0.runs] at hfind
 have HB0:=Hid.mk (And.intro hB0 (And.intro hrb hw0))
 have HR:=Hid.mk hblk
 cases hf:e.find id with
 | none =>
  rw [hf] at hfind
  have HFI:Hid (Calls Tryz.prog 94 #[.pointer (some ⟨P,4,none⟩), .int .u64 id] w0 fun e w'=>e= .returned (.pointer none)/\w'=w0):=Hid.mk hfind
  obtain⟨⟨⟨f0,f1⟩,f2⟩,f3⟩:=hblk.froz
  obtain⟨⟨⟨z0,z1⟩,z2⟩,z3⟩:=hblk.cells
  clear hfind hf hx hx0 ht hM hkn htm hel hw0 hrb hB0 hblk
  go_enter Tryz.func63,Tryz.ntmps63
  go_upto_region 1 with fail
  rw [<-HB0.out.2.1,<-HB0.out.2.2]
  go_wp2_with (go_at_call 94;refine HFI.out.mono ?_;rintro _ w1 ⟨rfl,hw1⟩;rw [hw1])
  (try simp only [Exit.inBlock,Exit.then])
  have hres:=info_res (HR.out.set _ _ 0 0 (.slice none 0 0) (.slice none 0 0))
  refine bodyPost_ret (v:= .tuple #[infoV 0 0 (.slice none 0 0) (.slice none 0 0),errV 6]) (by rw [results_cell_tmp rfl];simp [Result.andThen,asAddr,hres,infoV,errV]) rfl ?_
  refine⟨Or.inl ⟨trivial,rfl⟩,?_⟩
  have hr:=HB0.out.2.1
  exact (((HB0.out.1.setCell (p:=⟨rb,0,none⟩) (Nat.le_of_eq hr.symm) _).setCell (p:=⟨rb,1,none⟩) (Nat.le_of_eq hr.symm) _).setCell (p:=⟨rb,2,none⟩) (Nat.le_of_eq hr.symm) _).setCell (p:=⟨rb,3,none⟩) (Nat.le_of_eq hr.symm) _
 | some i =>
  rw [hf] at hfind
  have hi:=find_in hf
  have hil:i<rs.length:=by rw [hx.len];exact hi
  have hRn:=hkn.runs i hil
  have hRw:RnAt w B (rnAt rs i):=by
   obtain⟨_,_,hM',_,_⟩:=hx.ex
   obtain⟨_,_,hkn'⟩:=hM'.kn
   exact hkn'.runs i hil
  have hRI:=hx0.runs i hi
  obtain⟨b,hb⟩:∃b,b=(rnAt rs i).b:=⟨_,rfl⟩
  obtain⟨ng,hng⟩:∃ng,ng=(rnAt rs i).ng:=⟨_,rfl⟩
  obtain⟨m,hm⟩:∃m,m=(rnAt rs i).ns.length:=⟨_,rfl⟩
  have HFI:Hid (Calls Tryz.prog 94 #[.pointer (some ⟨P,4,none⟩), .int .u64 id] w0 fun e w'=>e= .returned (.pointer (some ⟨b,0,none⟩))/\w'=w0):=Hid.mk (by rw [hb];exact hfind)
  obtain⟨⟨_,t1,t2⟩,_⟩:=hRn.topC
  rw [<-hb,hRI.st] at t1
  rw [<-hb,<-hng,<-hm] at t2
  obtain⟨_,_,hnc,hcm,_,_⟩:=hRn.rowBlk
  have h12:=hRn.few
  rw [<-hm] at hnc h12
  obtain⟨nc,hncc⟩:∃nc,nc=(rnAt rs i).nc:=⟨_,rfl⟩
  rw [<-hncc] at hnc t2
  have hme:m=(e.at_ i).steps.length:=by rw [hm];exact hRI.len
  obtain⟨d,hd⟩:∃d,d=e.at_ i:=⟨_,rfl⟩
  rw [<-hd] at t1 hme
  obtain⟨st,hst⟩:∃st,st=d.st:=⟨_,rfl⟩
  rw [<-hst] at t1
  obtain⟨i3,hi3,hz0,hz1,hz2⟩:=info_parts infoKI
  have HI:=Hid.mk (And.intro hi3 (And.intro hz0 (And.intro hz1 hz2)))
  have HRn:=Hid.mk (And.intro hRw (And.intro hRI (And.intro hb (And.intro hng (And.intro hm (And.intro hme (And.intro hd (And.intro hst hf))))))))
  clear hfind hf hx hx0 ht hM hkn htm hel hw0 hrb hB0 hblk hi hil hRn hRw hRI hb hng hm hme hd hst hncc hi3 hz0 hz1 hz2 hcm
  obtain⟨w1,hw1⟩:∃w1,w1=w0.alloc (.cells #[.int .u64 id, .int .i64 st, .slice none 0 0, .slice none 0 0] 50):=⟨_,rfl⟩
  obtain⟨ib,hib⟩:∃ib,ib=w0.heap.size:=⟨_,rfl⟩
  have hB1:Below w0.heap.size w0 w1:=by rw [hw1];exact (Below.refl _ _).alloc (Nat.le_refl _) _
  have hq:QryAt w w1 rb ib id st d 0 none none 0 0:=by
   have hrl:=Zaa HR.out.blk
   refine⟨⟨by rw [hw1,hib];exact heap_alloc_new w0 _⟩,HR.out.at_ (hB1.block _ hrl),World.ownsRow_nil _ _ _ _,World.ownsRow_nil _ _ _ _,fun z hz=>by simp [Value.ownBlock] at hz,HB0.out.1.trans (hB1.mono HB0.out.1.size),Nat.le_of_eq HB0.out.2.1.symm,by rw [hib];exact HB0.out.1.size,by omega⟩
  have t2':=cell_later hB1 t2
  have HQ:=Hid.mk (And.intro hq hB1)
  have HW1:=Hid.mk (And.intro hib hw1)
  clear hw1 hib hB1 hq
  go_enter Tryz.func63,Tryz.ntmps63
  go_upto_region 1 with fail
  rw [<-HB0.out.2.1,<-HB0.out.2.2]
  go_upto_region 5 with (go_at_call 94;refine HFI.out.mono ?_;rintro _ wz ⟨rfl,hwz⟩;rw [hwz])
  rw [<-HW1.out.1,<-HW1.out.2]
  clear t2
  go_wp2_with fail
  go_loopw [28] (fun iv wr=>∃(k:Nat) (a1 a2:Option Addr) (c1 c2:Nat),iv= .int .i64 k/\k<=m/\QryAt w wr rb ib id st d k a1 a2 c1 c2) (fun iv _=>m - (intOf iv).toNat)
  case atStart=>exact⟨0,none,none,0,0,rfl,by omega,HQ.out.1⟩
  case round =>
   obtain⟨k,a1,a2,c1,c2,rfl,hk,hq⟩:=hrel
   have HQ2:=Hid.mk hq
   by_cases h1:k<m
   ·have hkl:k<(rnAt rs i).ns.length:=by have:=HRn.out.2.2.2.2.1;omega
    have hkd:k<d.steps.length:=by have:=HRn.out.2.2.2.2.2.1;omega
    obtain⟨nd,hnd⟩:∃nd,nd=(rnAt rs i).at_ k:=⟨_,rfl⟩
    obtain⟨y0,y1,y2,y3,y4,y5,y6,y7,y8,y9⟩:=(HRn.out.1.below hq.bel).nd hkl
    rw [<-HRn.out.2.2.2.1,<-hnd] at y0 y1 y2 y3 y4 y5 y6 y7 y8 y9
    obtain⟨af,haf⟩:∃af,af=nd.af.length:=⟨_,rfl⟩
    rw [<-haf] at y6
    have HND:=Hid.mk (show nd.st=(d.at_ k).st/\nd.tries=(d.at_ k).tries by
     have:=HRn.out.2.1.nd k (by rw [<-HRn.out.2.2.2.2.2.2.1];exact hkd)
     rw [hnd,HRn.out.2.2.2.2.2.2.1];exact this)
    obtain⟨w2,hw2⟩:∃w2,w2=wr.alloc (.cells #[.int .i64 nd.bu, .int .i64 nd.cl, .int .i64 nd.be, .int .i64 nd.ba, .int .i64 nd.ca, .int .i64 nd.ji, .slice nd.aa af nd.ac, .int .i64 nd.st, .int .i64 nd.tries, .int .u64 nd.tok] 189):=⟨_,rfl⟩
    obtain⟨nb,hnb⟩:∃nb,nb=wr.heap.size:=⟨_,rfl⟩
    have hb2:Below wr.heap.size wr w2:=by rw [hw2];exact (Below.refl _ _).alloc (Nat.le_refl _) _
    have hblk:w2.heap[nb]? =some (.cells #[.int .i64 nd.bu, .int .i64 nd.cl, .int .i64 nd.be, .int .i64 nd.ba, .int .i64 nd.ca, .int .i64 nd.ji, .slice nd.aa af nd.ac, .int .i64 nd.st, .int .i64 nd.tries, .int .u64 nd.tok] 189 (0,0)):=by rw [hw2,hnb];exact heap_alloc_new _ _
    have u7:w2.cell? ⟨nb,7,none⟩=some (.int .i64 nd.st):=by unfold World.cell?;rw [hblk];rfl
    have q2:=hq.below hb2
    obtain⟨⟨⟨x0,x1⟩,x2⟩,x3⟩:=q2.info.cells
    have xz:=q2.info.froz.1.2
    have hsz2:w.heap.size<=w2.heap.size:=q2.bel.size
    have hibl:ib<w2.heap.size:=Zaa q2.info.blk
    have hMq:some ib≠(Value.slice a1 k c1).ownBlock:=fun e=>Zcv q2.r1 q2.info e.symm
    have HO:=Hid.mk q2.r1
    have HW2:=Hid.mk (And.intro hw2 (And.intro hnb (And.intro hb2 (And.intro hblk (And.intro hkd q2)))))
    have i1:(k:Int)<(m:Int):=by omega
    clear hnd haf hw2 hnb hb2 hblk hkl hkd hq q2
    go_upto_region 8 with fail
    rw [<-HW2.out.2.1,<-HW2.out.1]
    clear y0 y1 y2 y3 y4 y5 y6 y7 y8 y9 x0 x1 x3
    go_upto_region 9 with (at_builtin;refine wpList_append_lies _ rfl (.tmp 33) (.tmp 36) 22 rfl w.heap.size 3 i3 _ 1 8 Tryz.underlying22 HI.out.1 HI.out.2.1 HI.out.2.2.1 HI.out.2.2.2 rfl (by omega) (.slice a1 k c1) k (stV d k) rfl (HO.out.alloc _) ⟨w2.heap.size,0,none⟩ 1 1 [.int .i64 nd.st] rfl rfl (World.news_of_block (cs:=#[.int .i64 nd.st]) (t:=3) (fr:=(0,0)) (heap_alloc_new w2 _)) (by simp [Value.oneCell']) (by omega) (by unfold maxLen;omega) (by omega) (by simp;omega) (w2.heap.size+1) (by simp) ?_;intro gg gcap w7 hown7 hgrow hat hlt;have s1:=(hgrow.cell_far ⟨ib,2,none⟩ (by simp;omega) hMq).trans (cell_later ((Below.refl w2.heap.size w2).alloc (Nat.le_refl _) (.cells #[.int .i64 nd.st] 3)) x2);have sz:=(hgrow.frozen_far ⟨ib,2,none⟩ (by simp;omega) hMq).trans ((((Below.refl w2.heap.size w2).alloc (Nat.le_refl _) (.cells #[.int .i64 nd.st] 3)).frozen (p:=⟨ib,2,none⟩) (by simp only [];omega)).trans xz))
    have HM3:=Hid.mk (HW2.out.2.2.2.2.2.one HW2.out.2.2.2.2.1 (x:= .int .i64 nd.st) (by rw [HND.out.1]) (Below.refl _ _) rfl hown7 hgrow (by simpa using hat))
    obtain⟨w3,hw3⟩:∃w3,w3=w7.setCell ⟨ib,2,none⟩ (.slice (some ⟨gg,0,none⟩) (k+1) gcap):=⟨_,rfl⟩
    rw [<-hw3] at HM3 ⊢
    have hnb3:w3.heap[nb]? =some (.cells #[.int .i64 nd.bu, .int .i64 nd.cl, .int .i64 nd.be, .int .i64 nd.ba, .int .i64 nd.ca, .int .i64 nd.ji, .slice nd.aa af nd.ac, .int .i64 nd.st, .int .i64 nd.tries, .int .u64 nd.tok] 189 (0,0)):=by
     have hblk:=HW2.out.2.2.2.1
     have hnl:=Zaa hblk
     have hni:nb≠ib:=Zak hblk HW2.out.2.2.2.2.2.info.blk (by decide)
     have hnr:(Value.slice a1 k c1).ownBlock≠some nb:=fun e=>by
      rcases HO.out.2 with⟨h2,_⟩ | ⟨g,cap,cur,h2,_,hh,_⟩
      ·rw [h2] at e;simp [Value.ownBlock] at e
      ·rw [h2] at e
       simp only [Value.ownBlock,Option.some.injEq] at e
       subst e
       exact Zak hh hblk (by decide) rfl
     rw [hw3,Below.heap_setCell _ _ _ _ hni,hgrow.block nb (by simp;omega) (fun e=>hnr e.symm),Zaj _ _ _ hnl]
     exact hblk
    have v8:w3.cell? ⟨nb,8,none⟩=some (.int .i64 nd.tries):=by unfold World.cell?;rw [hnb3];rfl
    obtain⟨⟨⟨x0,x1⟩,x2⟩,x3⟩:=HM3.out.info.cells
    have xz:=HM3.out.info.froz.2
    have hsz3:w.heap.size<=w3.heap.size:=HM3.out.bel.size
    have hibl:ib<w3.heap.size:=Zaa HM3.out.info.blk
    have hMq:some ib≠(Value.slice a2 k c2).ownBlock:=fun e=>Zcv HM3.out.r2 HM3.out.info e.symm
    have HO3:=Hid.mk HM3.out.r2
    clear hw3 hnb3 hown7 hgrow hat hlt s1 sz u7 x0 x1 x2
    go_upto_region 10 with (at_builtin;refine wpList_append_lies _ rfl (.tmp 40) (.tmp 43) 22 rfl w.heap.size 3 i3 _ 1 8 Tryz.underlying22 HI.out.1 HI.out.2.1 HI.out.2.2.1 HI.out.2.2.2 rfl (by omega) (.slice a2 k c2) k (trV d k) rfl (HO3.out.alloc _) ⟨w3.heap.size,0,none⟩ 1 1 [.int .i64 nd.tries] rfl rfl (World.news_of_block (cs:=#[.int .i64 nd.tries]) (t:=3) (fr:=(0,0)) (heap_alloc_new w3 _)) (by simp [Value.oneCell']) (by omega) (by unfold maxLen;omega) (by omega) (by simp;omega) (w3.heap.size+1) (by simp) ?_;intro gg2 gcap2 w8 hown8 hgrow8 hat8 hlt8;have s1:=(hgrow8.cell_far ⟨ib,3,none⟩ (by simp;omega) hMq).trans (cell_later ((Below.refl w3.heap.size w3).alloc (Nat.le_refl _) (.cells #[.int .i64 nd.tries] 3)) x3);have sz:=(hgrow8.frozen_far ⟨ib,3,none⟩ (by simp;omega) hMq).trans ((((Below.refl w3.heap.size w3).alloc (Nat.le_refl _) (.cells #[.int .i64 nd.tries] 3)).frozen (p:=⟨ib,3,none⟩) (by simp only [];omega)).trans xz))
    have HM4:=Hid.mk (HM3.out.two HW2.out.2.2.2.2.1 (x:= .int .i64 nd.tries) (by rw [HND.out.2]) rfl hown8 hgrow8 (by simpa using hat8))
    clear hown8 hgrow8 hat8 hlt8 s1 sz x3 xz v8
    go_wp2_with fail
    go_roundw
    case rel=>exact⟨k+1,_,_,_,_,by go_num,by omega,HM4.out⟩
    case measure=>simp [intOf];omega
   ·have hkm:k=m:=by omega
    subst hkm
    obtain⟨⟨⟨x0,x1⟩,x2⟩,x3⟩:=hq.info.cells
    obtain⟨⟨⟨f0,f1⟩,f2⟩,f3⟩:=hq.res.froz
    obtain⟨⟨⟨z0,z1⟩,z2⟩,z3⟩:=hq.res.cells
    have i1:¬(k:Int)<(k:Int):=by omega
    clear hq
    go_wp2_with fail
    (try simp only [Exit.inBlock,Exit.then])
    have hres:=info_res (HQ2.out.res.set _ _ id st (.slice a1 k c1) (.slice a2 k c2))
    refine bodyPost_ret (v:= .tuple #[infoV id st (.slice a1 k c1) (.slice a2 k c2), .nilIface]) (by rw [results_cell_tmp rfl];simp [Result.andThen,asAddr,hres,infoV]) rfl ?_
    have hr:=HB0.out.2.1
    have hkd:=HRn.out.2.2.2.2.2.1
    have hd:=HRn.out.2.2.2.2.2.2.1
    have s1:=stV_all d
    have s2:=trV_all d
    rw [<-hkd] at s1 s2
    refine⟨⟨a1,a2,c1,c2,?_,?_,?_⟩,?_⟩
    ·rw [<-hd,<-hkd,<-HRn.out.2.2.2.2.2.2.2.1]
    ·rw [<-hd,<-hkd,<-s1]
     exact Zad (Zad (Zad (Zad HQ2.out.r1 HQ2.out.res.blk (by decide) _) (Zac HQ2.out.res.blk _) (by decide) _) (Zac (Zac HQ2.out.res.blk _) _) (by decide) _) (Zac (Zac (Zac HQ2.out.res.blk _) _) _) (by decide) _
    ·rw [<-hd,<-hkd,<-s2]
     exact Zad (Zad (Zad (Zad HQ2.out.r2 HQ2.out.res.blk (by decide) _) (Zac HQ2.out.res.blk _) (by decide) _) (Zac (Zac HQ2.out.res.blk _) _) (by decide) _) (Zac (Zac (Zac HQ2.out.res.blk _) _) _) (by decide) _
    ·exact (((HQ2.out.bel.setCell (p:=⟨rb,0,none⟩) (Nat.le_of_eq hr.symm) _).setCell (p:=⟨rb,1,none⟩) (Nat.le_of_eq hr.symm) _).setCell (p:=⟨rb,2,none⟩) (Nat.le_of_eq hr.symm) _).setCell (p:=⟨rb,3,none⟩) (Nat.le_of_eq hr.symm) _
def EngD.tryOf (e:EngD)(p:PlD):Int:=((e.at_ ((e.find p.run).getD 0)).at_ p.node).tries+1
def tkC (r k t tk:Int):List Value:=[.int .u64 r, .int .i64 k, .int .i64 t, .int .u64 tk]
def EngD.qtask (e:EngD)(p:PlD):List Value:=tkC p.run p.node (e.tryOf p) 0
theorem infoTk:(Tryz.prog.info? 43).map (fun i=>(i.zero,i.size,i.bytes))=some (some (.agg #[.int .u64 0, .int .i64 0, .int .i64 0, .int .u64 0]),4,32):=by kernel_rfl
theorem queue_at {e:EngD}(wk:EngWk e){p:PlD}(hp:p∈e.queue):∃i,i<e.runs.length/\e.find p.run=some i/\p.node<(e.at_ i).steps.length/\((e.at_ i).at_ p.node).st=2/\(e.at_ i).id=p.run/\e.tryOf p=((e.at_ i).at_ p.node).tries+1:=by
 obtain⟨i,hi,h1,h2,h3⟩:=(wk.qm p).1 hp
 have hf:=wk.find_at hi
 rw [h1] at hf
 exact⟨i,hi,hf,h2,h3,h1,by unfold EngD.tryOf;rw [hf];rfl⟩
set_option maxHeartbeats 8000000 in
theorem kqueue_any (w:World)(P B:Nat)(ob:Option Nat)(e:EngD)(h:KpAt w P B ob e)(wk:EngWk e) :
  Calls Tryz.prog 55 #[.pointer (some ⟨P,4,none⟩)] w fun x w'=>∃a c,x= .returned (.slice a e.queue.length c)/\(e.queue=[]->a=none)/\w'.ownsRow w.heap.size 43 4 (.slice a e.queue.length c) e.queue.length (e.queue.flatMap e.qtask)/\Below w.heap.size w w':=by
 obtain⟨rs,l,hx,ht⟩:=h
 obtain⟨el,now,hM,htm,hel⟩:=hx.ex
 obtain⟨qa,qn,qc,qf,qys,hq⟩:=hM.qu
 have HL:=Hid.mk (listTR_any w P B qn qc qf qa qys e.queue hq)
 have hn1000:e.queue.length<=1000:=by have:=hq.ring.few;have:=hq.len;have:=hq.few;omega
 obtain⟨n,hn⟩:∃n,n=e.queue.length:=⟨_,rfl⟩
 rw [<-hn] at HL hn1000 ⊢
 have HX:=Hid.mk hx
 have HN:=Hid.mk hn
 obtain⟨it,hit,hz0,hz1,hz2⟩:=info_parts infoTk
 have HI:=Hid.mk (And.intro hit (And.intro hz0 (And.intro hz1 hz2)))
 clear hx ht hM htm hel hq hn hit hz0 hz1 hz2
 go_enter Tryz.func55,Tryz.ntmps55
 go_wp2_with (go_at_call 93;refine HL.out.mono ?_;rintro _ w1 ⟨la,lc,rfl,ho1,hb1⟩;have HB1:=Hid.mk (And.intro ho1 hb1);clear ho1 hb1)
 go_loopw [3,11] (fun sv iv wr=>∃(k:Nat) (xa:Option Addr) (xc:Nat),iv= .int .i64 k/\sv= .slice xa k xc/\k<=n/\(k=0->xa=none)/\wr.ownsRow w1.heap.size 43 4 (.slice xa k xc) k ((e.queue.take k).flatMap e.qtask)/\Below w1.heap.size w1 wr) (fun _ iv _=>n - (intOf iv).toNat)
 case atStart=>exact⟨0,none,0,rfl,rfl,by omega,fun _=>rfl,World.ownsRow_nil _ _ _ _,Below.refl _ _⟩
 case round =>
  obtain⟨k,xa,xc,rfl,rfl,hk,hxa,hown,hbl⟩:=hrel
  have HR:=Hid.mk (And.intro hxa (And.intro hown hbl))
  by_cases h1:k<n
  ·have hlk:k<e.queue.length:=by have:=HN.out;omega
   obtain⟨p,hp⟩:∃p,p=e.queue.getD k .z:=⟨_,rfl⟩
   have hpm:p∈e.queue:=by rw [hp];exact Zbj (z:=PlD.z) hlk
   obtain⟨i,hi,hfi,hkl,hst,hid,htry⟩:=queue_at wk hpm
   obtain⟨lg,hla,hlg,hlc,t0,t1⟩:∃g,la=some ⟨g,0,none⟩/\g<w1.heap.size/\n<=lc/\wr.cell? ⟨g,k * 2,none⟩=some (.int .u64 p.run)/\wr.cell? ⟨g,k * 2+1,none⟩=some (.int .i64 p.node):=by
    have ho:=HB1.out.1
    rcases ho.2 with⟨_,h2⟩ | ⟨g,cap,cur,h2,hg,hh,h3,_⟩
    ·omega
    ·obtain⟨rfl,_,rfl⟩:la=some ⟨g,0,none⟩/\n=n/\lc=cap:=by simpa using h2
     have hgl:=Zaa hh
     have hc:=cell_spot (i:=k) ho (by rw [HN.out]) h1
     have e1:=hbl.block g hgl
     have hpe:e.queue.getD k ⟨0,0⟩=p:=by rw [hp];rfl
     rw [hpe] at hc
     exact⟨g,rfl,hgl,h3,(World.cell?_of_block (a:=⟨g,k * 2,none⟩) e1).trans hc.1,(World.cell?_of_block (a:=⟨g,k * 2+1,none⟩) e1).trans hc.2⟩
   subst hla
   obtain⟨w2,hw2⟩:∃w2,w2=wr.alloc (.cells #[.int .u64 p.run, .int .i64 p.node] 180):=⟨_,rfl⟩
   obtain⟨sb,hsb⟩:∃sb,sb=wr.heap.size:=⟨_,rfl⟩
   have hb2:Below wr.heap.size wr w2:=by rw [hw2];exact (Below.refl _ _).alloc (Nat.le_refl _) _
   have hs2:SpotAt w2 sb p.run p.node:=by rw [hw2,hsb];exact heap_alloc_new wr _
   obtain⟨u0,u1⟩:=hs2.cells
   have hbw:Below w.heap.size w w2:=(HB1.out.2.trans' hbl).trans' hb2
   obtain⟨b,hb⟩:∃b,b=(rnAt rs i).b:=⟨_,rfl⟩
   obtain⟨ng,hng⟩:∃ng,ng=(rnAt rs i).ng:=⟨_,rfl⟩
   obtain⟨m,hm⟩:∃m,m=(rnAt rs i).ns.length:=⟨_,rfl⟩
   obtain⟨tr,htr⟩:∃tr,tr=((e.at_ i).at_ p.node).tries:=⟨_,rfl⟩
   have hX2:=HX.out.below hbw
   obtain⟨_,_,hM2,_,_⟩:=hX2.ex
   obtain⟨ka,kc,hkn⟩:=hM2.kn
   have hil:i<rs.length:=by rw [HX.out.len];exact hi
   have hRn:=hkn.runs i hil
   have hRI:=HX.out.runs i hi
   have hkr:p.node<(rnAt rs i).ns.length:=by rw [hRI.len];exact hkl
   have t2:=hRn.topC.1.2.2
   have t8:=(hRn.nd hkr).c8
   rw [(hRI.nd p.node hkl).2,<-htr] at t8
   obtain⟨_,_,hnc,_,_,_⟩:=hRn.rowBlk
   rw [<-hm] at hnc hkr t2
   rw [<-hb,<-hng] at t2
   rw [<-hng] at t8
   have hFI:∀wx,Below w2.heap.size w2 wx->Calls Tryz.prog 94 #[.pointer (some ⟨P,4,none⟩), .int .u64 p.run] wx fun x w'=>x= .returned (.pointer (some ⟨b,0,none⟩))/\w'=wx:=fun wx hbx=>by
    have:=find_any wx P B kc ka rs p.run (hkn.below hbx)
    rw [findR_is HX.out.len HX.out.runs,hfi] at this
    rw [hb]
    exact this
   have HFI:=Hid.mk hFI
   have hst5:=(wk.runs i hi).steps p.node hkl
   have htrb:0<=tr/\tr<=5:=by
    have:=hst5.tr0
    have:=hst5.trB
    have hrun:=wk.runs i hi
    have:=(hrun.fl.node p.node (by rw [<-hrun.len];exact hkl)).bu2
    omega
   have HW2:=Hid.mk (And.intro hw2 (And.intro hsb (And.intro hb2 (And.intro hs2 (And.intro hp (And.intro htry htr))))))
   have HO:=Hid.mk (Zah hown hb2)
   have hs12:w1.heap.size<=w2.heap.size:=(hbl.trans' hb2).size
   obtain⟨nc,hncc⟩:∃nc,nc=(rnAt rs i).nc:=⟨_,rfl⟩
   rw [<-hncc] at hnc t2
   have i1:(k:Int)<(n:Int):=by omega
   have i2:(p.node:Int)<(m:Int):=by omega
   have et:IntKind.i64.wrap (tr+1)=tr+1:=by rw [IntKind.wrap_i64];omega
   have hne:∀z cs t fr,w2.heap[z]? =some (.cells cs t fr)->t≠43->z<w2.heap.size/\some z≠(Value.slice xa k xc).ownBlock:=fun z cs t fr hz ht=>⟨Zaa hz,fun e=>by
    rcases HO.out.2 with⟨h2,_⟩ | ⟨g,cap,cur,h2,_,hh,_⟩
    ·rw [h2] at e;simp [Value.ownBlock] at e
    ·rw [h2] at e
     simp only [Value.ownBlock,Option.some.injEq] at e
     subst e
     exact Zak hz hh ht rfl⟩
   obtain⟨cg,hgh,_⟩:=hRn.rowBlk
   obtain⟨l1,n1⟩:=hne sb _ _ _ hs2 (by decide)
   obtain⟨l2,n2⟩:=hne b _ _ _ (by rw [hb];exact hRn.top) (by decide)
   obtain⟨l3,n3⟩:=hne ng _ _ _ (by rw [hng];exact hgh) (by decide)
   have HFar:=Hid.mk (show ∀w7 v,(w2.alloc (.cells #[.int .u64 p.run, .int .i64 p.node, .int .i64 (tr+1), .int .u64 0] 43)).drew.grownBy w7 (Value.slice xa k xc).ownBlock->∀z o,(z=sb\/z=b\/z=ng)->w2.cell? ⟨z,o,none⟩=some v->w7.cell? ⟨z,o,none⟩=some v from fun w7 v hg z o hz hc=>by
    have hzl:z<w2.heap.size/\some z≠(Value.slice xa k xc).ownBlock:=by rcases hz with rfl | rfl | rfl<;>exact⟨by assumption,by assumption⟩
    exact (hg.cell_far ⟨z,o,none⟩ (by show z<(w2.alloc _).heap.size;simp;omega) hzl.2).trans (cell_later (((Below.refl w2.heap.size w2).alloc (Nat.le_refl _) _).drew) hc))
   clear l1 n1 l2 n2 l3 n3 hne hgh
   clear hw2 hsb hb2 hs2 hp htry htr hb hng hm hX2 hM2 hkn hRn hRI hFI hncc hxa hown hbl hpm hfi hst hid hbw hst5
   go_upto_region 5 with fail
   rw [<-HW2.out.2.1,<-HW2.out.1]
   clear t0 t1
   go_region_held3 (fun w'=>((w'.cell? ⟨sb,0,none⟩=some (.int .u64 p.run)/\w'.cell? ⟨sb,1,none⟩=some (.int .i64 p.node))/\w'.cell? ⟨b,2,none⟩=some (.slice (some ⟨ng,0,none⟩) m nc))/\w'.cell? ⟨ng,p.node * 10+8,none⟩=some (.int .i64 tr)) (go_keep) ((first
    | (go_at_call 94;refine (HFI.out w2.drew ((Below.refl _ _).drew)).mono ?_;rintro _ wz ⟨rfl,rfl⟩)
    | (refine step_append_lies _ (by rfl) _ _ _ (by rfl) w1.heap.size 43 it _ 4 32 Tryz.underlying28 HI.out.1 HI.out.2.1 HI.out.2.2.1 HI.out.2.2.2 rfl (by omega) (.slice xa k xc) k ((e.queue.take k).flatMap e.qtask) (by rfl) ((HO.out.alloc _).drew) ⟨w2.heap.size,0,none⟩ 1 1 [.int .u64 p.run, .int .i64 p.node, .int .i64 (tr+1), .int .u64 0] (by rfl) (by rfl) (World.news_of_block (cs:=#[.int .u64 p.run, .int .i64 p.node, .int .i64 (tr+1), .int .u64 0]) (t:=43) (fr:=(0,0)) (heap_alloc_new w2 _)) (by simp [Value.oneCell']) (by omega) (by unfold maxLen;omega) (by omega) (by simp;omega) (w2.heap.size+1) (by simp) ?_;intro gg gcap w7 hown7 hgrow hat hlt;have y0:=HFar.out w7 _ hgrow sb 0 (Or.inl rfl) u0;have y1:=HFar.out w7 _ hgrow sb 1 (Or.inl rfl) u1;have y2:=HFar.out w7 _ hgrow b 2 (Or.inr (Or.inl rfl)) t2;have y3:=HFar.out w7 _ hgrow ng (p.node * 10+8) (Or.inr (Or.inr rfl)) t8;have HG7:=Hid.mk (And.intro hown7 hgrow);clear hown7 hgrow hat hlt)))
   have HG:=HG7
   clear y0 y1 y2 y3 u0 u1 t2 t8
   go_wp2_with fail
   go_roundw
   case rel =>
    obtain⟨g1,g2⟩:=HG.out
    obtain⟨q1,q2,q3,q4,q5,q6,q7⟩:=HW2.out
    refine⟨k+1,some ⟨gg,0,none⟩,gcap,by go_num,rfl,by omega,fun h=>by omega,?_,?_⟩
    ·have e1:(e.queue.take (k+1)).flatMap e.qtask=(e.queue.take k).flatMap e.qtask++[.int .u64 p.run, .int .i64 p.node, .int .i64 (tr+1), .int .u64 0]:=by
      have hlk:k<e.queue.length:=by have:=HN.out;omega
      rw [List.take_add_one,List.getElem?_eq_getElem hlk,List.flatMap_append]
      have hpe:e.queue[k]=p:=by rw [q5,List.getD_eq_getElem?_getD,List.getElem?_eq_getElem hlk];rfl
      rw [Option.toList_some,List.flatMap_singleton,hpe]
      unfold EngD.qtask tkC
      rw [q6,q7]
     rw [e1]
     exact g1
    ·refine ((((HR.out.2.2.trans' q3).alloc hs12 _).drew).grown g2 (by show w1.heap.size<=(w2.alloc _).heap.size;simp;omega) (fun z hz=>(HO.out.lt z hz).1))
   case measure=>simp [intOf];omega
  ·have hkn:k=n:=by omega
   subst hkn
   have i1:¬(k:Int)<(k:Int):=by omega
   clear hxa hown hbl
   go_wp2_with fail
   go_ret
   obtain⟨r1,r2,r3⟩:=HR.out
   refine⟨xa,xc,rfl,fun h=>r1 (by rw [HN.out,h];rfl),?_,HB1.out.2.trans (r3.mono HB1.out.2.size)⟩
   rw [HN.out,List.take_length] at r2
   rw [HN.out]
   exact Zci r2 HB1.out.2.size
end Go.Proofs.YtgdcjccbdmcebabGreatDoor
