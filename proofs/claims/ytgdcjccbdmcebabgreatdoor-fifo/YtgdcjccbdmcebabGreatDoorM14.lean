import Derived.Test.YtgdcjccbdmcebabGreatDoorM13
set_option linter.unusedSimpArgs false
set_option linter.unusedVariables false
namespace Go.Proofs.YtgdcjccbdmcebabGreatDoor
open Go.RowKit
set_option maxRecDepth 100000
attribute [local go_sem ↓] Go.wp_at_zero Go.wp_at_succ
def Zdo (l:List PlD)(id:Int):List PlD:=l.filter (fun p=> !(p.run == id))
theorem kept_all (l:List PlD)(id:Int):kept l id l.length=Zdo l id:=by unfold kept Zdo;rw [List.take_length]
theorem own_takeTR {w:World}{B g n c m:Nat}{ys:List PlD}(h:w.ownsRow B 180 2 (.slice (some ⟨g,0,none⟩) n c) n (ys.flatMap plS))(hl:ys.length=n)(hm:m<=n):w.ownsRow B 180 2 (.slice (some ⟨g,0,none⟩) m c) m ((ys.take m).flatMap plS):=by
 rcases h.2 with⟨h2,_⟩ | ⟨g',cap,cur,h2,hg,hh,h3,h4,h5,h6⟩
 ·cases h2
 ·obtain⟨rfl,rfl⟩:g=g'/\c=cap:=by simpa using h2
  refine⟨by rw [Zao,List.length_take];omega,Or.inr ⟨g,c,cur,rfl,hg,hh,by omega,h4,h5,?_⟩⟩
  rw [<-plS_take,<-h6,List.take_take,Nat.min_eq_left (Nat.mul_le_mul_right _ hm)]
theorem own_setsTR {w:World}{B g n c p:Nat}{ys:List PlD}(h:w.ownsRow B 180 2 (.slice (some ⟨g,0,none⟩) n c) n (ys.flatMap plS))(hl:ys.length=n)(zs:List PlD)(hp:p+zs.length<=n):(w.setCells g (p * 2) (zs.flatMap plS)).ownsRow B 180 2 (.slice (some ⟨g,0,none⟩) n c) n ((ys.take p++zs++ys.drop (p+zs.length)).flatMap plS):=by
 have hfl:=Zao zs
 rcases h.2 with⟨h2,_⟩ | ⟨g',cap,cur,h2,hg,hh,h3,h4,h5,h6⟩
 ·cases h2
 ·obtain⟨rfl,rfl⟩:g=g'/\c=cap:=by simpa using h2
  have hpk:p * 2+zs.length * 2<=n * 2:=by rw [<-Nat.add_mul];exact Nat.mul_le_mul_right _ hp
  have hnk:n * 2<=c * 2:=Nat.mul_le_mul_right _ h3
  obtain⟨cur',k1,k2,k3⟩:=Zcc g 180 (zs.flatMap plS) (p * 2) w cur hh (by omega)
  refine⟨by rw [Zao];simp;omega,Or.inr ⟨g,c,cur',rfl,hg,k1,h3,h4,by omega,?_⟩⟩
  have e0:(ys.take p++zs++ys.drop (p+zs.length)).flatMap plS=(ys.flatMap plS).take (p * 2)++zs.flatMap plS++(ys.flatMap plS).drop (p * 2+zs.length * 2):=by
   rw [List.flatMap_append,List.flatMap_append,plS_take,<-Nat.add_mul,plS_drop]
  rw [e0,<-h6,k3,hfl]
  have e1:(cur.toList.take (n * 2)).take (p * 2)=cur.toList.take (p * 2):=by rw [List.take_take,Nat.min_eq_left (by omega)]
  rw [e1,List.take_append,List.take_of_length_le (by rw [List.length_append,List.length_take,Array.length_toList,hfl];omega),List.length_append,List.length_take,Array.length_toList,hfl,Nat.min_eq_left (by omega),List.drop_take]
structure Amid (w wr:World)(B0 g n c:Nat)(xs:List PlD)(id:Int)(i j:Nat):Prop where
 row:∃ys:List PlD,ys.length=n/\wr.ownsRow B0 180 2 (.slice (some ⟨g,0,none⟩) n c) n (ys.flatMap plS)/\ys.take i=kept xs id j/\ys.drop j=xs.drop j
 bel:Below B0 w wr
 ij:i<j
 jn:j<=n
 il:i=(kept xs id j).length
theorem Amid.below {w wr wr':World}{B0 g n c:Nat}{xs:List PlD}{id:Int}{i j:Nat}(h:Amid w wr B0 g n c xs id i j)(hb:Below wr.heap.size wr wr')(h0:B0<=wr.heap.size):Amid w wr' B0 g n c xs id i j:=by
 obtain⟨⟨ys,y1,y2,y3,y4⟩,h2,h3,h4,h5⟩:=h
 exact⟨⟨ys,y1,Zah y2 hb,y3,y4⟩,h2.trans (hb.mono h0),h3,h4,h5⟩
theorem cell_spot {w:World}{B g n c i:Nat}{ys:List PlD}(ho:w.ownsRow B 180 2 (.slice (some ⟨g,0,none⟩) n c) n (ys.flatMap plS))(hn:ys.length=n)(hi:i<n):w.cell? ⟨g,i * 2,none⟩=some (.int .u64 (ys.getD i ⟨0,0⟩).run)/\w.cell? ⟨g,i * 2+1,none⟩=some (.int .i64 (ys.getD i ⟨0,0⟩).node):=by
 have hyi:ys.getD i ⟨0,0⟩=ys[i]'(by omega):=by rw [List.getD_eq_getElem?_getD,List.getElem?_eq_getElem (by omega)];rfl
 have hcell:∀j u,(plS (ys.getD i ⟨0,0⟩))[j]? =some u->w.cell? ⟨g,i * 2+j,none⟩=some u:=by
  intro j u hj
  have hjk:j<2:=by have:=(List.getElem?_eq_some_iff.1 hj).1;rwa [Zbl] at this
  rw [ho.cellAt _ (by omega)]
  have e5:ys.flatMap plS=(ys.take i).flatMap plS++(plS (ys.getD i ⟨0,0⟩)++(ys.drop (i+1)).flatMap plS):=by
   conv=>lhs;rw [<-List.take_append_drop i ys,List.drop_eq_getElem_cons (by omega)]
   rw [List.flatMap_append,List.flatMap_cons,hyi]
  rw [e5,List.getElem?_append_right (by rw [Zao,List.length_take,Nat.min_eq_left (by omega)];omega),Zao,List.length_take,Nat.min_eq_left (by omega),Nat.add_sub_cancel_left,List.getElem?_append_left (by rw [Zbl];exact hjk)]
  exact hj
 exact⟨hcell 0 _ rfl,hcell 1 _ rfl⟩
theorem Amid.cell {w wr:World}{B0 g n c:Nat}{xs:List PlD}{id:Int}{i j:Nat}(h:Amid w wr B0 g n c xs id i j)(hn:xs.length=n)(hj:j<n):wr.cell? ⟨g,j * 2,none⟩=some (.int .u64 (xs.getD j ⟨0,0⟩).run)/\wr.cell? ⟨g,j * 2+1,none⟩=some (.int .i64 (xs.getD j ⟨0,0⟩).node):=by
 obtain⟨⟨ys,y1,y2,y3,y4⟩,_⟩:=h
 have:=cell_spot y2 y1 hj
 have e:ys.getD j ⟨0,0⟩=xs.getD j ⟨0,0⟩:=by
  have h1:(ys.drop j)[0]? =(xs.drop j)[0]? :=by rw [y4]
  rw [List.getElem?_drop,List.getElem?_drop,Nat.add_zero] at h1
  rw [List.getD_eq_getElem?_getD,List.getD_eq_getElem?_getD,h1]
 rw [e] at this
 exact this
theorem Amid.place {w wr:World}{B0 g n c:Nat}{xs:List PlD}{id:Int}{i j:Nat}(h:Amid w wr B0 g n c xs id i j):∃u v,wr.cell? ⟨g,i * 2,none⟩=some u/\wr.cell? ⟨g,i * 2+1,none⟩=some v/\wr.frozen? ⟨g,i * 2,none⟩=false/\wr.frozen? ⟨g,i * 2+1,none⟩=false:=by
 obtain⟨⟨ys,y1,y2,y3,y4⟩,h2,h3,h4,h5⟩:=h
 obtain⟨c0,c1⟩:=cell_spot (i:=i) y2 y1 (by omega)
 exact⟨_,_,c0,c1,y2.frozenAt _,y2.frozenAt _⟩
theorem Amid.skip {w wr:World}{B0 g n c:Nat}{xs:List PlD}{id:Int}{i j:Nat}(h:Amid w wr B0 g n c xs id i j)(hn:xs.length=n)(hj:j<n)(he:(xs.getD j ⟨0,0⟩).run=id):Amid w wr B0 g n c xs id i (j+1):=by
 obtain⟨⟨ys,y1,y2,y3,y4⟩,h2,h3,h4,h5⟩:=h
 have hk:=kept_succ xs id (k:=j) (by omega)
 rw [if_pos he,List.append_nil] at hk
 refine⟨⟨ys,y1,y2,by rw [hk];exact y3,?_⟩,h2,by omega,by omega,by rw [hk];exact h5⟩
 have:=congrArg (List.drop 1) y4
 rw [List.drop_drop,List.drop_drop] at this
 exact this
theorem Amid.keep {w wr:World}{B0 g n c:Nat}{xs:List PlD}{id:Int}{i j:Nat}(h:Amid w wr B0 g n c xs id i j)(hn:xs.length=n)(hj:j<n)(he:(xs.getD j ⟨0,0⟩).run≠id)(hg:B0<=g) :
  Amid w (wr.setCells g (i * 2) (plS (xs.getD j ⟨0,0⟩))) B0 g n c xs id (i+1) (j+1):=by
 obtain⟨⟨ys,y1,y2,y3,y4⟩,h2,h3,h4,h5⟩:=h
 have hk:=kept_succ xs id (k:=j) (by omega)
 rw [if_neg he] at hk
 have hs:=own_setTR y2 y1 (show i<n by omega) (xs.getD j ⟨0,0⟩)
 refine⟨⟨ys.set i (xs.getD j ⟨0,0⟩),by rw [List.length_set];exact y1,hs,?_,?_⟩,Zdi h2 _ _ _ hg,by omega,by omega,by rw [hk,List.length_append,<-h5];rfl⟩
 ·rw [hk,<-y3,List.take_add_one,List.take_set_of_le (by omega),List.getElem?_set_self (by omega)]
  rfl
 ·rw [List.drop_set_of_lt (by omega)]
  have:=congrArg (List.drop 1) y4
  rw [List.drop_drop,List.drop_drop] at this
  exact this
theorem Amid.end_ {w wr:World}{B0 g n c:Nat}{xs:List PlD}{id:Int}{i:Nat}(h:Amid w wr B0 g n c xs id i n)(hn:xs.length=n)(hg:B0<=g):i=(Zdo xs id).length/\(wr.setCells g (i * 2) ((List.replicate (n - i) (⟨0,0⟩:PlD)).flatMap plS)).ownsRow B0 180 2 (.slice (some ⟨g,0,none⟩) i c) i ((Zdo xs id).flatMap plS)/\Below B0 w (wr.setCells g (i * 2) ((List.replicate (n - i) (⟨0,0⟩:PlD)).flatMap plS)):=by
 obtain⟨⟨ys,y1,y2,y3,y4⟩,h2,h3,h4,h5⟩:=h
 rw [<-hn,kept_all] at y3 h5
 have hs:=own_setsTR y2 y1 (p:=i) (List.replicate (n - i) (⟨0,0⟩:PlD)) (by simp;omega)
 have ht:=own_takeTR hs (by simp;omega) (show i<=n by omega)
 refine⟨h5,?_,Zdi h2 _ _ _ hg⟩
 rw [List.append_assoc,List.take_append_of_le_length (by rw [List.length_take];omega),List.take_take,Nat.min_self,y3] at ht
 exact ht
set_option maxHeartbeats 4000000 in
theorem delf_any (w:World)(B0:Nat)(a:Option Addr)(n c bx rb:Nat)(id:Int)(xs:List PlD)(h:w.ownsRow B0 180 2 (.slice a n c) n (xs.flatMap plS))(hn:xs.length=n)(hfew:n<=1000)(hg:GoneAt w bx rb id)(hbx:bx<B0)(hrb:rb<B0)(hB:B0<=w.heap.size) :
  Calls Tryz.prog 193 #[.slice a n c, .func (.func 147) #[] #[.pointer (some ⟨bx,0,none⟩)]] w fun e w'=>∃a' m c',e= .returned (.slice a' m c')/\m=(Zdo xs id).length/\w'.ownsRow B0 180 2 (.slice a' m c') m ((Zdo xs id).flatMap plS)/\Below B0 w w':=by
 have HI:=Hid.mk (idxS_any w B0 B0 a n c bx rb id xs h hn hfew hg)
 have HO:=Hid.mk (And.intro h (And.intro hn (And.intro hg (And.intro hbx (And.intro hrb hB)))))
 obtain⟨ix,hix⟩:∃ix,ix=idxI xs id:=⟨_,rfl⟩
 rw [<-hix] at HI
 have HX:=Hid.mk hix
 by_cases hf:Zcy xs id<xs.length
 ·have e:ix=(Zcy xs id:Int):=by rw [hix];unfold idxI;rw [if_pos hf]
  obtain⟨f,hff⟩:∃f,f=Zcy xs id:=⟨_,rfl⟩
  rw [<-hff] at e
  subst e
  have hfn:f<n:=by omega
  obtain⟨g,cur,rfl,hgl,hnc,hgB⟩:∃g cur,a=some ⟨g,0,none⟩/\w.heap[g]? =some (.cells cur 180 (0,0))/\n<=c/\B0<=g:=by
   rcases h.2 with⟨h2,_⟩ | ⟨g,cap,cur,h2,hgB,hh,h3,h4,_⟩
   ·simp only [Value.slice.injEq] at h2;omega
   ·obtain⟨rfl,_,rfl⟩:a=some ⟨g,0,none⟩/\n=n/\c=cap:=by simpa using h2
    exact⟨g,cur,rfl,hh,h3,hgB⟩
  have HF:=Hid.mk (And.intro hff (And.intro hf (And.intro hgl hgB)))
  have e1:((f:Int) == -1)=false:=by simp
  have e1':decide ((f:Int)= -1)=false:=decide_eq_false (by omega)
  clear h hn hg hix hff hf hgl
  go_enter Tryz.func193,Tryz.ntmps193
  go_wp2_with (go_at_call 221;refine HI.out.mono ?_;rintro e w1 ⟨rfl,hb1⟩;have HB1:=Hid.mk hb1;clear hb1)
  go_loopw [5,6] (fun iv jv wr=>∃i j:Nat,iv= .int .i64 i/\jv= .int .i64 j/\Amid w wr B0 g n c xs id i j/\w.heap.size<=wr.heap.size) (fun _ jv _=>n - (intOf jv).toNat)
  case atStart =>
   obtain⟨ho,hn,_⟩:=HO.out
   obtain⟨q1,q2,q3,q4⟩:=HF.out
   have hk:=kept_succ xs id q2
   have he:(xs.getD (Zcy xs id) ⟨0,0⟩).run=id:=by
    rw [List.getD_eq_getElem?_getD,List.getElem?_eq_getElem q2]
    exact eq_of_beq (List.findIdx_getElem (p:=fun p:PlD=>p.run == id) (w:=q2))
   rw [if_pos he,List.append_nil,kept_first xs id (Nat.le_refl _),<-q1] at hk
   refine⟨f,f+1,rfl,rfl,⟨⟨xs,hn,Zah ho HB1.out,hk.symm,rfl⟩,HB1.out.mono (by have:=HO.out.2.2.2.2.2;omega),by omega,by omega,by rw [hk,List.length_take];omega⟩,HB1.out.size⟩
  case round =>
   obtain⟨i,j,rfl,rfl,ham,hsz⟩:=hrel
   have HA:=Hid.mk ham
   have HSZ:=Hid.mk hsz
   clear hsz
   by_cases hj:j<n
   ·obtain⟨t0,t1⟩:=ham.cell HO.out.2.1 hj
    obtain⟨x,hx⟩:∃x,x=xs.getD j ⟨0,0⟩:=⟨_,rfl⟩
    rw [<-hx] at t0 t1
    obtain⟨vb,hvb⟩:∃vb,vb=wr.heap.size:=⟨_,rfl⟩
    obtain⟨wa,hwa⟩:∃wa,wa=wr.alloc (.cells #[.int .u64 x.run, .int .i64 x.node] 180):=⟨_,rfl⟩
    have hba:Below wr.heap.size wr wa:=by rw [hwa];exact (Below.refl _ _).alloc (Nat.le_refl _) _
    obtain⟨z0,z1⟩:=(show _/\_ from hwa▸Zcr wr x.run x.node)
    rw [<-hvb] at z0 z1
    have hvl:vb<wa.heap.size:=by rw [hwa];simp;omega
    have hij:=ham.ij
    have HW:=Hid.mk (And.intro hba (And.intro hvb (And.intro hwa hx)))
    have HG:=Hid.mk (gone_any wa bx rb id x.run x.node ((HO.out.2.2.1.below ham.bel HO.out.2.2.2.1 HO.out.2.2.2.2.1).below hba (by have:=HO.out.2.2.2;have:=HSZ.out;omega) (by have:=HO.out.2.2.2;have:=HSZ.out;omega)))
    have i1:(j:Int)<(n:Int):=by omega
    have ii:(i:Int)<(n:Int):=by omega
    clear hba hvb hwa hx ham
    by_cases e:x.run=id
    ·have hd:decide (x.run=id)=true:=decide_eq_true e
     rw [hd] at HG
     have HE:=Hid.mk e
     clear e hd
     go_wp2_with (go_at_call 147;rw [<-HW.out.2.2.1];refine HG.out.mono ?_;rintro e w3 ⟨rfl,hb3⟩;have HB3:=Hid.mk hb3;clear hb3)
     go_roundw
     case rel =>
      obtain⟨q1,q2,q3,q4⟩:=HW.out
      exact⟨i,j+1,by go_num,by go_num,((HA.out.skip HO.out.2.1 hj (by rw [<-q4];exact HE.out)).below q1 (by have:=HO.out.2.2.2.2.2;have:=HSZ.out;omega)).below HB3.out (by have:=HO.out.2.2.2.2.2;have:=HSZ.out;have:=q1.size;omega),by have:=HSZ.out;have:=q1.size;have:=HB3.out.size;omega⟩
     case measure=>simp [intOf];omega
    ·have hd:decide (x.run=id)=false:=decide_eq_false e
     rw [hd] at HG
     have HE:=Hid.mk e
     clear e hd
     go_wp2_with (go_at_call 147;rw [<-HW.out.2.2.1,<-HW.out.2.1];refine HG.out.mono ?_;rintro e w3 ⟨rfl,hb3⟩;have HB3:=Hid.mk hb3;have HA3:=Hid.mk ((HA.out.below HW.out.1 (by have:=HO.out.2.2.2.2.2;have:=HSZ.out;omega)).below hb3 (by have:=HO.out.2.2.2.2.2;have:=HSZ.out;have:=HW.out.1.size;omega));obtain⟨y0,y1,y2,y3,y4,y5⟩:=HA3.out.place;have z0:=cell_later hb3 z0;have z1:=cell_later hb3 z1;clear hb3)
     go_roundw
     case rel =>
      obtain⟨q1,q2,q3,q4⟩:=HW.out
      have hk:=HA3.out.keep HO.out.2.1 hj (by rw [<-q4];exact HE.out) HF.out.2.2.2
      rw [<-q4] at hk
      exact⟨i+1,j+1,by go_num,by go_num,hk,by have:=HSZ.out;have:=q1.size;have:=HB3.out.size;simp only [World.setCell,Array.size_modify];omega⟩
     case measure=>simp [intOf];omega
   ·have hjn:j=n:=by have:=ham.jn;omega
    subst hjn
    obtain⟨q1,q2,q3⟩:=ham.end_ HO.out.2.1 HF.out.2.2.2
    have hij:=ham.ij
    obtain⟨ys,y1,y2,y6⟩:=ham.row
    obtain⟨cur',k1,k2⟩:∃cur',wr.heap[g]? =some (.cells cur' 180 (0,0))/\j * 2<=cur'.size:=by
     rcases y2.2 with⟨h2,_⟩ | ⟨g',cap,cur',h2,_,hh,h3,h4,h5,_⟩
     ·cases h2
     ·obtain⟨rfl,rfl⟩:g=g'/\c=cap:=by simpa using h2
      exact⟨cur',hh,by have:=Nat.mul_le_mul_right 2 h3;omega⟩
    have hcl:=fun ty=>clearTR wr g i (j - i) (c - i) cur' k1 (by rw [show i+(j - i)=j by omega];exact k2) (by omega) ty
    have HQ:=Hid.mk (And.intro q1 (And.intro q2 q3))
    have i1:¬(j:Int)<(j:Int):=by omega
    have hci:¬c=i:=by omega
    clear q1 q2 q3 y6 y1 y2 k1 k2 ham
    generalize wr.setCells g (i * 2) ((List.replicate (j - i) (⟨0,0⟩:PlD)).flatMap plS)=w5 at *
    go_wp2_with fail
    go_ret
    exact⟨some ⟨g,0,none⟩,i,c,rfl,HQ.out.1,HQ.out.2.1,HQ.out.2.2⟩
 ·have e:ix= -1:=by rw [hix];unfold idxI;rw [if_neg hf]
  subst e
  have HF:=Hid.mk hf
  clear h hn hg hix hf
  go_enter Tryz.func193,Tryz.ntmps193
  go_wp2_with (go_at_call 221;refine HI.out.mono ?_;rintro e w1 ⟨rfl,hb1⟩;have HB1:=Hid.mk hb1;clear hb1)
  go_ret
  obtain⟨ho,hn,_,_,_,hB⟩:=HO.out
  have hk:=kept_first xs id (k:=xs.length) (by have:=HF.out;unfold Zcy at *;omega)
  rw [kept_all,List.take_length] at hk
  exact⟨a,n,c,rfl,by rw [hk,hn],by rw [hk];exact Zah ho HB1.out,HB1.out.mono hB⟩
theorem clear0TR (w:World)(ty:TypeId)(a:Option Addr)(c:Nat):(Builtin.clear_ #[129] ty #[.slice a 0 c]).run Tryz.prog w= .ok (.tuple #[]) w:=by
 cases a<;>simp [Builtin.clear_,run_underlying Tryz.underlying129]
theorem copyToTR {w:World}{B b N M m c:Nat}{a:Option Addr}{xs:List PlD}{cur:Array Value}(hw:w.heap[b]? =some (.cells cur 180 (0,0)))(ho:w.ownsRow B 180 2 (.slice a m c) m (xs.flatMap plS))(hm:m=xs.length)(hN:m<=N)(hs:N * 2<=cur.size)(ty:TypeId) :
  (Builtin.copy_ #[129,129] ty #[.slice (some ⟨b,0,none⟩) N M, .slice a m c]).run Tryz.prog w= .ok (goInt m) (w.setCells b 0 (xs.flatMap plS)):=by
 rcases ho.2 with⟨h2,h3⟩ | ⟨g,cap,cur',h2,hg,hh,h4⟩
 ·have h0:m=0:=by
   simp only [Value.slice.injEq] at h2
   omega
  have hx:xs=[]:=List.eq_nil_of_length_eq_zero (by omega)
  subst hx h0
  exact Zcs w 129 129 ty 180 2 _ a N M 0 c Tryz.underlying129 sizeTR (Nat.zero_min _)
 ·obtain⟨rfl,_,rfl⟩:a=some ⟨g,0,none⟩/\m=m/\c=cap:=by simpa using h2
  refine copyTR w ty b 0 N M m ⟨g,0,none⟩ m c cur xs hw (Nat.min_eq_left hN) hm.symm (by rw [Nat.zero_add];exact Nat.le_trans (Nat.mul_le_mul_right _ hN) hs) (fun j v hv=> ?_)
  have hj:j<m * 2:=by
   have:=(List.getElem?_eq_some_iff.1 hv).1
   rw [Zao] at this
   rw [hm];exact this
  rw [Zb5,Nat.zero_add,ho.cellAt j hj]
  exact hv
theorem left_len (l:List PlD)(id:Int):(Zdo l id).length<=l.length:=List.length_filter_le _ _
set_option maxHeartbeats 4000000 in
theorem dropTR_any (w:World)(P B n c first bx rb:Nat)(a:Option Addr)(ys xs:List PlD)(id:Int)(h:QAt w P B a n c first ys xs)(hg:GoneAt w bx rb id) :
  Calls Tryz.prog 146 #[.pointer (some ⟨P,8,none⟩), .func (.func 147) #[] #[.pointer (some ⟨bx,0,none⟩)]] w fun e w'=>e= .returned (.tuple #[])/\∃ys',QAt w' P B a n c 0 ys' (Zdo xs id)/\RF w w' P (Value.slice a n c).ownBlock 8 11:=by
 have HL:=Hid.mk (listTR_any w P B n c first a ys xs h)
 have hfew:=h.few
 have hxn:xs.length<=n:=by have:=h.ring.few;have:=h.len;omega
 have H:=Hid.mk (And.intro h hg)
 have hPs:P<w.heap.size:=Nat.lt_of_lt_of_le h.pb h.bs
 by_cases h0:n=0
 ·subst h0
  have HD:∀w1,Below w.heap.size w w1->∀a1 c1,w1.ownsRow w.heap.size 180 2 (.slice a1 xs.length c1) xs.length (xs.flatMap plS)->Calls Tryz.prog 193 #[.slice a1 xs.length c1, .func (.func 147) #[] #[.pointer (some ⟨bx,0,none⟩)]] w1 fun e w'=>∃a' c',e= .returned (.slice a' 0 c')/\Below w.heap.size w w'/\Zdo xs id=[]:=by
   intro w1 hb1 a1 c1 ho1
   refine (delf_any w1 w.heap.size a1 xs.length c1 bx rb id xs ho1 rfl (by omega) (H.out.2.below hb1 H.out.2.bl H.out.2.rl) H.out.2.bl H.out.2.rl hb1.size).mono ?_
   rintro e w2 ⟨a',m,c',rfl,hm,ho2,hb2⟩
   have hx:xs=[]:=List.eq_nil_of_length_eq_zero (by omega)
   subst hx
   obtain rfl:m=0:=hm
   exact⟨a',c',rfl,hb1.trans hb2,rfl⟩
  have HDD:=Hid.mk HD
  have HQ:=Hid.mk h.q0
  clear h hg HD
  go_enter Tryz.func146,Tryz.ntmps146
  go_wp2_with (first | (go_at_call 93;refine HL.out.mono ?_;rintro e w1 ⟨a1,c1,rfl,ho1,hb1⟩;have HB1:=Hid.mk (And.intro ho1 hb1);clear ho1 hb1) | (go_at_call 193;refine (HDD.out _ HB1.out.2 _ _ HB1.out.1).mono ?_;rintro e w2 ⟨a2,c2,rfl,hb2,hl⟩;have HB2:=Hid.mk (And.intro hb2 hl);have HQ2:=Hid.mk (HQ.out.below hb2);have c0:=HQ2.out.c0;have d1:=HQ2.out.c1;have d2:=HQ2.out.c2;have f1:=HQ2.out.fz 9;have f2:=HQ2.out.fz 10;have hcl:=fun ty=>clear0TR w2 ty a c;have hcp:=fun ty=>Zcs w2 129 129 ty 180 2 a a2 0 c 0 c2 Tryz.underlying129 sizeTR (Nat.zero_min _);clear hb2 hl))
  go_end0
  have hr:RingIs ys 0 ([]:List PlD):=by
   have hy:ys=[]:=List.eq_nil_of_length_eq_zero HQ.out.len
   rw [hy];exact .nil
  have k1:=RF.of_below P (Value.slice a 0 c).ownBlock 8 11 HB2.out.1
  exact⟨rfl,ys,by rw [HB2.out.2];exact ((HQ2.out.setF 0).setK 0).toQ (first:=0) rfl rfl hr (by omega),(k1.trans (RF.setP _ P 9 _ (.int .i64 0) (lo:=8) (hi:=11) (by decide)) (fun k hk=>Or.inl hk)).trans (RF.setP _ P 10 _ (.int .i64 0) (lo:=8) (hi:=11) (by decide)) (fun k hk=>Or.inl hk)⟩
 ·obtain⟨g,cur,rfl,hgl,hnc,hcs⟩:∃g cur,a=some ⟨g,0,none⟩/\w.heap[g]? =some (.cells cur 180 (0,0))/\n<=c/\cur.size=c * 2:=by
   rcases h.row.2 with⟨h2,_⟩ | ⟨g,cap,cur,h2,_,hh,h3,h4,h5,_⟩
   ·simp only [Value.slice.injEq] at h2;omega
   ·obtain⟨rfl,_,rfl⟩:a=some ⟨g,0,none⟩/\n=n/\c=cap:=by simpa using h2
    exact⟨g,cur,rfl,hh,h3,h5⟩
  have hsz:n * 2<=cur.size:=by rw [hcs];exact Nat.mul_le_mul_right _ hnc
  have HD:∀w1,Below w.heap.size w w1->∀a1 c1,w1.ownsRow w.heap.size 180 2 (.slice a1 xs.length c1) xs.length (xs.flatMap plS)->Calls Tryz.prog 193 #[.slice a1 xs.length c1, .func (.func 147) #[] #[.pointer (some ⟨bx,0,none⟩)]] w1 fun e w2=>∃a' m c' w3 w4,e= .returned (.slice a' m c')/\(∀ty,(Builtin.clear_ #[129] ty #[.slice (some ⟨g,0,none⟩) n c]).run Tryz.prog w2= .ok (.tuple #[]) w3)/\(∀ty,(Builtin.copy_ #[129,129] ty #[.slice (some ⟨g,0,none⟩) n c, .slice a' m c']).run Tryz.prog w3= .ok (goInt m) w4)/\m=(Zdo xs id).length/\(∃ys',QAt0 w4 P B (some ⟨g,0,none⟩) n c first xs.length ys'/\RingIs ys' 0 (Zdo xs id))/\RF w w4 P (some g) 8 11/\w2.cell? ⟨P,8,none⟩=some (.slice (some ⟨g,0,none⟩) n c)/\w3.cell? ⟨P,8,none⟩=some (.slice (some ⟨g,0,none⟩) n c):=by
   intro w1 hb1 a1 c1 ho1
   refine (delf_any w1 w.heap.size a1 xs.length c1 bx rb id xs ho1 rfl (by omega) (H.out.2.below hb1 H.out.2.bl H.out.2.rl) H.out.2.bl H.out.2.rl hb1.size).mono ?_
   rintro e w2 ⟨a',m,c',rfl,hm,ho2,hb2⟩
   have hgs:g<w.heap.size:=Zaa hgl
   have hb:Below w.heap.size w w2:=hb1.trans hb2
   have hg2:=(hb.block g hgs).trans hgl
   have hq2:=H.out.1.q0.below hb
   have hln:=left_len xs id
   obtain⟨s1,s2⟩:=hq2.setRow 0 (List.replicate n (⟨0,0⟩:PlD)) (by simp)
   have hcl:=fun ty=>clearTR w2 g 0 n c cur hg2 (by rw [Nat.zero_add];exact hsz) (by omega) ty
   rw [Nat.zero_mul] at s1 s2 hcl
   obtain⟨cur3,g3,g4,_⟩:=Zcc g 180 ((List.replicate n (⟨0,0⟩:PlD)).flatMap plS) 0 w2 cur hg2 (by rw [Zao,List.length_replicate,Nat.zero_add];exact hsz)
   have hb3:∀k,k≠g->(w2.setCells g 0 ((List.replicate n (⟨0,0⟩:PlD)).flatMap plS)).heap[k]? =w2.heap[k]? :=fun k hk=>Zan g k hk _ _ _
   generalize w2.setCells g 0 ((List.replicate n (⟨0,0⟩:PlD)).flatMap plS)=w3 at *
   have ho3:w3.ownsRow w.heap.size 180 2 (.slice a' m c') m ((Zdo xs id).flatMap plS):=by
    refine⟨ho2.1,?_⟩
    rcases ho2.2 with h2 | ⟨g2,cap,c2,h2,hgb,hh,h3⟩
    ·exact Or.inl h2
    ·exact Or.inr ⟨g2,cap,c2,h2,hgb,(hb3 g2 (by omega)).trans hh,h3⟩
   have hcp:=fun ty=>copyToTR (M:=c) g3 ho3 hm (show m<=n by omega) (by rw [g4];exact hsz) ty
   obtain⟨u1,u2⟩:=s1.setRow 0 (Zdo xs id) (by omega)
   rw [Nat.zero_mul] at u1 u2
   refine⟨a',m,c',w3,_,rfl,hcl,hcp,hm,⟨_,u1,?_⟩,((RF.of_below P (some g) 8 11 hb).trans s2 (fun k hk=>Or.inl hk)).trans u2 (fun k hk=>Or.inl hk),hq2.c0,s1.c0⟩
   rw [List.take_zero,List.nil_append]
   exact .of_list _ _
  have HDD:=Hid.mk HD
  clear h hg HD hgl hcs hsz
  go_enter Tryz.func146,Tryz.ntmps146
  go_wp2_with (first | (go_at_call 93;refine HL.out.mono ?_;rintro e w1 ⟨a1,c1,rfl,ho1,hb1⟩;have HB1:=Hid.mk (And.intro ho1 hb1);clear ho1 hb1) | (go_at_call 193;refine (HDD.out _ HB1.out.2 _ _ HB1.out.1).mono ?_;rintro e w2 ⟨a2,m,c2,w3,w4,rfl,hcl,hcp,hm,hq4,hrf,c0,d0⟩;have HB2:=Hid.mk (And.intro hm (And.intro hq4 hrf));have d1:=hq4.choose_spec.1.c1;have d2:=hq4.choose_spec.1.c2;have f1:=hq4.choose_spec.1.fz 9;have f2:=hq4.choose_spec.1.fz 10;clear hm hq4 hrf))
  go_end0
  obtain⟨hm,⟨ys',q1,q2⟩,hrf⟩:=HB2.out
  exact⟨rfl,ys',((q1.setF 0).setK m).toQ (first:=0) rfl (by rw [hm]) q2 hfew,(hrf.trans (RF.setP _ P 9 _ (.int .i64 0) (lo:=8) (hi:=11) (by decide)) (fun k hk=>Or.inl hk)).trans (RF.setP _ P 10 _ (.int .i64 m) (lo:=8) (hi:=11) (by decide)) (fun k hk=>Or.inl hk)⟩
end Go.Proofs.YtgdcjccbdmcebabGreatDoor
