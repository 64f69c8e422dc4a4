import Derived.Test.YtgdcjccbdmcebabGreatDoorM05
import Derived.Test.YtgdcjccbdmcebabGreatDoorM08
import Derived.Test.YtgdcjccbdmcebabGreatDoorM16
import Derived.Lib.IfaceEq
import Derived.Laws.ResultCell
set_option linter.unusedSimpArgs false
set_option linter.unusedVariables false
namespace Go.Proofs.YtgdcjccbdmcebabGreatDoor
open Go.RowKit Go.Extern.Stop Go.Stop Go.Extern
set_option maxRecDepth 100000
theorem s_comparable (w:World):((ReflectliteType.method fun t=>do Rtype.noPackHeld "Comparable" t;Functor.map (fun a=>Value.bool a.comparable) (typeInfo t)) #[.agg #[.pointer (some ⟨4,36,none⟩)]]).run Tryz.prog w= .ok (.bool true) w:=by kernel_rfl
theorem s_comp:(Tryz.prog.info? 36).map (·.comparable)=some true:=by kernel_rfl
set_option maxHeartbeats 4000000 in
theorem is_fault (q:Nat)(x y:Int)(w:World)(h:FaultAt w q x y) :
  Calls Tryz.prog 50 #[.iface 105 (.pointer (some ⟨q,0,none⟩)), .iface 36 (.int .i64 x)] w fun e w'=>e= .returned (.bool true)/\w'=w:=by
 obtain⟨h0,h1⟩:=h
 have h8:=@run_callFunc_extern Tryz.prog 81 _ ReflectliteType.typeOf Tryz.func81 (by kernel_rfl) (by kernel_rfl) (by kernel_rfl) (by kernel_rfl)
 have h32:=@run_callFunc_extern Tryz.prog 286 _ (ReflectliteType.method fun t=>do Rtype.noPackHeld "Comparable" t;pure (.bool (<-typeInfo t).comparable)) Tryz.func286 (by kernel_rfl) (by kernel_rfl) (by kernel_rfl) (by kernel_rfl)
 have tT:=s_typeOf
 have cT:=s_comparable
 have mR:=Zdk
 have nE:=s_noIs
 have uW:=s_hasUnwrap
 have mU:=s_methodUnwrap
 have heq:=Go.Lib.run_eql_iface_int (P:=Tryz.prog) w (k:= .i64) x x Tryz.underlying74 s_comp Tryz.underlying36
 have hty:=run_eql_iface_types (P:=Tryz.prog) 105 36 (.pointer (some ⟨q,0,none⟩)) (.int .i64 x) Tryz.underlying74 (by decide) w
 go_enter Tryz.func50,Tryz.ntmps50
 go_wp2
 refine wp_loop_rounds 2 ?_
 rw [rounds_succ]
 go_wp2
 rw [rounds_succ]
 go_wp2
 go_ret
 exact⟨rfl,rfl⟩
theorem told_nil (w:World) :
  Calls Tryz.prog 27 #[.nilIface] w fun e w'=>e= .returned (.tuple #[.int .i64 0, .int .i64 (-1)])/\Below w.heap.size w w':=by
 go_enter Tryz.func27,Tryz.ntmps27
 go_wp2
 go_ret2
 exact⟨rfl,((Below.refl _ _).alloc (Nat.le_refl _) _).alloc (by simp) _⟩
def ErrTypeIn (w:World):Prop:=w.cell? ⟨0,0,none⟩=some (.iface 236 (.agg #[.pointer (some ⟨4,74,none⟩)]))
theorem ErrTypeIn.keep {w w':World}(h:ErrTypeIn w)(hb:Below w.heap.size w w'):ErrTypeIn w' :=
 (hb.cell (p:=⟨0,0,none⟩) (World.block_lt_of_cell? _ _ h)).trans h
theorem asW_below (w:World)(B:Nat)(e:Addr)(t:Nat)(hB:B<=t)(ht:t<w.heap.size):Below B w (asW w e ⟨t,0,none⟩):=by
 unfold asW
 refine Below.setCell (Below.alloc (Below.alloc (Below.alloc (Below.alloc (Below.refl _ _) ?_ _) ?_ _) ?_ _) ?_ _) ?_ _
 ·omega
 ·simp;omega
 ·simp;omega
 ·simp;omega
 ·exact hB
theorem asW_cell (w:World)(e:Addr)(t:Nat)(old:Value)(h:w.cell? ⟨t,0,none⟩=some old):(asW w e ⟨t,0,none⟩).cell? ⟨t,0,none⟩=some (.pointer (some e)):=by
 have ht:t<w.heap.size:=World.block_lt_of_cell? _ _ h
 unfold asW
 refine World.cell?_setCell_same _ _ _ (u:=old) ?_
 rw [World.cell?_alloc_lt _ _ ⟨t,0,none⟩ (by simp;omega),World.cell?_alloc_lt _ _ ⟨t,0,none⟩ (by simp;omega),World.cell?_alloc_lt _ _ ⟨t,0,none⟩ (by simp;omega),World.cell?_alloc_lt _ _ ⟨t,0,none⟩ ht]
 exact h
set_option maxHeartbeats 4000000 in
theorem told_fault (q:Nat)(x y:Int)(w:World)(h:FaultAt w q x y)(hq:q<w.heap.size)(hg:ErrTypeIn w) :
  Calls Tryz.prog 27 #[.iface 105 (.pointer (some ⟨q,0,none⟩))] w fun e w'=>e= .returned (.tuple #[.int .i64 x, .int .i64 y])/\Below w.heap.size w w':=by
 have H:=Hid.mk h
 have HG:=Hid.mk hg
 clear h hg
 have hk:Hid (∀a b,Below w.heap.size w ((w.alloc a).alloc b)):=Hid.mk fun a b=>((Below.refl _ _).alloc (Nat.le_refl _) _).alloc (by simp) _
 go_enter Tryz.func27,Tryz.ntmps27
 go_wp2_with fail
 refine (as_hit _ _ (.pointer none) _ (HG.out.keep (hk.out _ _)) (by simp) (by simp)).mono ?_
 rintro e w1 ⟨rfl,hw1⟩
 have hb1:Below w.heap.size w w1:=by rw [hw1];exact (hk.out _ _).trans (asW_below _ _ _ _ (Nat.le_refl _) (by simp;omega))
 have c1:w1.cell? ⟨w.heap.size,0,none⟩=some (.pointer (some ⟨q,0,none⟩)):=by rw [hw1];exact asW_cell _ _ _ (.pointer none) (by simp)
 have hf1:=H.out.keep hq hb1
 have f0:=hf1.1
 have f1:=hf1.2
 have HF:=Hid.mk hf1
 clear hw1 hf1
 go_wp2_with fail
 refine (is_fault q x y _ HF.out).mono ?_
 rintro e w2 ⟨rfl,rfl⟩
 go_wp2_with fail
 go_quiet (fail)
 go_wp2_with fail
 go_ret2
 exact⟨rfl,below_drewN hb1 _⟩
end Go.Proofs.YtgdcjccbdmcebabGreatDoor
namespace Go.Proofs.YtgdcjccbdmcebabGreatDoor
open Go.RowKit
set_option maxRecDepth 100000
attribute [local go_sem ↓] Go.wp_at_zero Go.wp_at_succ
structure EAt0 (w:World)(P B:Nat)(a:Option Addr)(n c:Nat)(f k:Int)(ys:List Int):Prop where
 c0:w.cell? ⟨P,5,none⟩=some (.slice a n c)
 c1:w.cell? ⟨P,6,none⟩=some (.int .i64 f)
 c2:w.cell? ⟨P,7,none⟩=some (.int .i64 k)
 fz:∀o,w.frozen? ⟨P,o,none⟩=false
 row:w.ownsRow B 39 1 (.slice a n c) n (ys.flatMap u64C)
 len:ys.length=n
 pb:P<B
 bs:B<=w.heap.size
theorem EAt.q0 {w:World}{P B:Nat}{a:Option Addr}{n c first:Nat}{ys xs:List Int}(h:EAt w P B a n c first ys xs):EAt0 w P B a n c first xs.length ys:=⟨h.c0,h.c1,h.c2,h.fz,h.row,h.len,h.pb,h.bs⟩
theorem EAt0.toQ {w:World}{P B:Nat}{a:Option Addr}{n c first:Nat}{f k:Int}{ys xs:List Int}(h:EAt0 w P B a n c f k ys)(hf:f=first)(hk:k=(xs.length:Int))(hr:RingIs ys first xs)(hn:n<=1000):EAt w P B a n c first ys xs:=⟨h.c0,by rw [<-hf];exact h.c1,by rw [<-hk];exact h.c2,h.fz,h.row,h.len,hr,hn,h.pb,h.bs⟩
theorem EAt0.below {w w':World}{P B:Nat}{a:Option Addr}{n c:Nat}{f k:Int}{ys:List Int}(h:EAt0 w P B a n c f k ys)(hb:Below w.heap.size w w'):EAt0 w' P B a n c f k ys:=by
 have hP:P<w.heap.size:=Nat.lt_of_lt_of_le h.pb h.bs
 exact⟨(World.cell?_of_block (a:=⟨P,5,none⟩) (hb.block P hP)).trans h.c0,(World.cell?_of_block (a:=⟨P,6,none⟩) (hb.block P hP)).trans h.c1,(World.cell?_of_block (a:=⟨P,7,none⟩) (hb.block P hP)).trans h.c2,fun o=>(World.frozen?_of_block (a:=⟨P,o,none⟩) (hb.block P hP)).trans (h.fz o),Zah h.row hb,h.len,h.pb,Nat.le_trans h.bs hb.size⟩
theorem EAt0.setF {w:World}{P B:Nat}{a:Option Addr}{n c:Nat}{f k:Int}{ys:List Int}(h:EAt0 w P B a n c f k ys)(v:Int):EAt0 (w.setCell ⟨P,6,none⟩ (.int .i64 v)) P B a n c v k ys :=
 ⟨(Zab w P 6 5 _ (by decide)).trans h.c0,World.cell?_setCell_same _ _ _ h.c1,(Zab w P 6 7 _ (by decide)).trans h.c2,fun o=>(World.frozen?_setCell _ _ _ _).trans (h.fz o),ownsRow_setCell_below h.row h.pb _,h.len,h.pb,by simpa [World.setCell] using h.bs⟩
theorem EAt0.setK {w:World}{P B:Nat}{a:Option Addr}{n c:Nat}{f k:Int}{ys:List Int}(h:EAt0 w P B a n c f k ys)(v:Int):EAt0 (w.setCell ⟨P,7,none⟩ (.int .i64 v)) P B a n c f v ys :=
 ⟨(Zab w P 7 5 _ (by decide)).trans h.c0,(Zab w P 7 6 _ (by decide)).trans h.c1,World.cell?_setCell_same _ _ _ h.c2,fun o=>(World.frozen?_setCell _ _ _ _).trans (h.fz o),ownsRow_setCell_below h.row h.pb _,h.len,h.pb,by simpa [World.setCell] using h.bs⟩
theorem RF.drewTU {w x:World}{P:Nat}{ob:Option Nat}{lo hi:Nat}(h:RF w x P ob lo hi):RF w x.drew P ob lo hi:=⟨h.os,h.tape,h.output,h.size,h.block,h.off,h.froz⟩
theorem EAt0.setRow {w:World}{P B g:Nat}{n c:Nat}{f k:Int}{ys:List Int}(h:EAt0 w P B (some ⟨g,0,none⟩) n c f k ys)(p:Nat)(zs:List Int)(hp:p+zs.length<=n) :
  EAt0 (w.setCells g (p * 1) (zs.flatMap u64C)) P B (some ⟨g,0,none⟩) n c f k (ys.take p++zs++ys.drop (p+zs.length))/\RF w (w.setCells g (p * 1) (zs.flatMap u64C)) P (some g) 5 8:=by
 have hgp:g≠P:=by
  have:=(h.row.lt g rfl).1
  have:=h.pb
  omega
 have hP:∀o,(w.setCells g (p * 1) (zs.flatMap u64C)).cell? ⟨P,o,none⟩=w.cell? ⟨P,o,none⟩:=fun o=>World.cell?_of_block (a:=⟨P,o,none⟩) (Zar g P (Ne.symm hgp) _ _ _)
 have hFz:∀o,(w.setCells g (p * 1) (zs.flatMap u64C)).frozen? ⟨P,o,none⟩=w.frozen? ⟨P,o,none⟩:=fun o=>World.frozen?_of_block (a:=⟨P,o,none⟩) (Zar g P (Ne.symm hgp) _ _ _)
 obtain⟨s1,s2,s3,s4⟩:=Zbn w g (p * 1) (zs.flatMap u64C)
 have hfl:=Zau zs
 have hlen:=h.len
 have hrow:(w.setCells g (p * 1) (zs.flatMap u64C)).ownsRow B 39 1 (.slice (some ⟨g,0,none⟩) n c) n ((ys.take p++zs++ys.drop (p+zs.length)).flatMap u64C):=by
  rcases h.row.2 with⟨h2,_⟩ | ⟨g',cap,cur,h2,hg,hh,h3,h4,h5,h6⟩
  ·cases h2
  ·obtain⟨rfl,rfl⟩:g=g'/\c=cap:=by simpa using h2
   have hpk:p * 1+zs.length * 1<=n * 1:=by rw [<-Nat.add_mul];exact Nat.mul_le_mul_right _ hp
   have hnk:n * 1<=c * 1:=Nat.mul_le_mul_right _ h3
   obtain⟨cur',k1,k2,k3⟩:=Zc9 g 39 (zs.flatMap u64C) (p * 1) w cur hh (by omega)
   refine⟨by rw [Zau];simp;omega,Or.inr ⟨g,c,cur',rfl,hg,k1,h3,h4,by omega,?_⟩⟩
   have e0:(ys.take p++zs++ys.drop (p+zs.length)).flatMap u64C=(ys.flatMap u64C).take (p * 1)++zs.flatMap u64C++(ys.flatMap u64C).drop (p * 1+zs.length * 1):=by
    rw [List.flatMap_append,List.flatMap_append,u64C_take,<-Nat.add_mul,u64C_drop]
   rw [e0,<-h6,k3,hfl]
   have e1:(cur.toList.take (n * 1)).take (p * 1)=cur.toList.take (p * 1):=by rw [List.take_take,Nat.min_eq_left (by omega)]
   rw [e1,List.take_append,List.take_of_length_le (by rw [List.length_append,List.length_take,Array.length_toList,hfl];omega),List.length_append,List.length_take,Array.length_toList,hfl,Nat.min_eq_left (by omega),List.drop_take]
 refine⟨⟨(hP 5).trans h.c0,(hP 6).trans h.c1,(hP 7).trans h.c2,fun o=>(hFz o).trans (h.fz o),hrow,by simp;omega,h.pb,by rw [s1];exact h.bs⟩,⟨s2,s3,s4,by rw [s1];exact Nat.le_refl _,fun k _ _ hr=>Zar g k (fun e=>hr (by rw [e])) _ _ _,fun _ o _=>hP o,fun _ o=>hFz o⟩⟩
theorem clearTU (w:World)(g p m c:Nat)(cur:Array Value)(hw:w.heap[g]? =some (.cells cur 39 (0,0)))(hs:(p+m) * 1<=cur.size)(hm:0<m)(ty:TypeId) :
  (Builtin.clear_ #[58] ty #[.slice (some ⟨g,p * 1,none⟩) m c]).run Tryz.prog w= .ok (.tuple #[]) (w.setCells g (p * 1) ((List.replicate m (0:Int)).flatMap u64C)):=by
 have hl:=Zau (List.replicate m (0:Int))
 rw [List.length_replicate] at hl
 rw [Nat.add_mul] at hs
 refine run_clear_k w 58 39 ty (.int .u64 0) Tryz.underlying58 zeroTU m _ (u64C_zeros m) (u64C_one _) g (p * 1) c hm (fun j hj=> ?_) (fun j _=> ?_)
 ·unfold World.cell?
  rw [hw]
  simp only [Array.getElem?_eq_getElem (show p * 1+j<cur.size by omega)]
  rfl
 ·simp [World.frozen?,hw]
theorem set_replicateTU (ys:List Int)(p:Nat)(hp:p<ys.length):ys.take p++List.replicate 1 (0:Int)++ys.drop (p+(List.replicate 1 (0:Int)).length)=ys.set p (0:Int):=by
 rw [List.set_eq_take_append_cons_drop,if_pos hp];simp
set_option maxHeartbeats 4000000 in
theorem popTU_any (w:World)(P B n c first:Nat)(a:Option Addr)(ys xs:List Int)(x:Int)(h:EAt w P B a n c first ys (x::xs)) :
  Calls Tryz.prog 134 #[.pointer (some ⟨P,5,none⟩)] w fun e w'=>e= .returned (.tuple #[.int .u64 x, .bool true])/\∃first' ys',EAt w' P B a n c first' ys' xs/\RF w w' P (Value.slice a n c).ownBlock 5 8:=by
 have hlen:=h.len
 have hfew:=h.few
 have hxs:=h.ring.few
 rw [List.length_cons] at hxs
 have hn0:0<n:=by omega
 have hfn:first<n:=by
  rcases h.ring.first_ with h1 | ⟨_,h2⟩
  ·omega
  ·subst h2;simp at hlen;omega
 obtain⟨g,cur,rfl,hg,hnc,hcm,hgc,hcs⟩:∃g cur,a=some ⟨g,0,none⟩/\B<=g/\n<=c/\c<=maxLen/\w.heap[g]? =some (.cells cur 39 (0,0))/\cur.size=c * 1:=by
  rcases h.row.2 with⟨h2,h3⟩ | ⟨g,cap,cur,h2,hg,hh,h3,h4,h5,_⟩
  ·simp only [Value.slice.injEq] at h2
   omega
  ·obtain⟨rfl,_,rfl⟩:a=some ⟨g,0,none⟩/\n=n/\c=cap:=by simpa using h2
   exact⟨g,cur,rfl,hg,h3,h4,hh,h5⟩
 have hcm:c<=9223372036854775807:=hcm
 obtain⟨w0,hw0⟩:∃w0,w0=w:=⟨_,rfl⟩
 obtain⟨rb,hrb⟩:∃rb,rb=w.heap.size:=⟨_,rfl⟩
 have hb0:Below w.heap.size w w0:=by rw [hw0];exact Below.refl _ _
 skip
 have hgs:g<w.heap.size:=(Array.getElem?_eq_some_iff.1 hgc).1
 have H0:=h.below hb0
 have hgc0:w0.heap[g]? =some (.cells cur 39 (0,0)):=(hb0.block g hgs).trans hgc
 have c0:=H0.c0
 have c1:=H0.c1
 have c2:=H0.c2
 obtain⟨m,hm⟩:∃m,m=xs.length:=⟨_,rfl⟩
 rw [List.length_cons,<-hm] at c2
 have hem:=emptyTU_any w0 P (m+1) c2
 obtain⟨hx,hpop⟩:=h.ring.pop (0:Int)
 have hcell:∀j u,(u64C x)[j]? =some u->w0.cell? ⟨g,first * 1+j,none⟩=some u:=by
  intro j u hj
  have hjk:j<1:=by have:=(List.getElem?_eq_some_iff.1 hj).1;rwa [Zbm] at this
  have hpk:first * 1+1<=n * 1:=by have:=Nat.mul_le_mul_right 1 (show first+1<=n by omega);omega
  rw [H0.row.cellAt _ (by omega)]
  have e5:ys.flatMap u64C=(ys.take first).flatMap u64C++(u64C x++(ys.drop (first+1)).flatMap u64C):=by
   conv=>lhs;rw [<-List.take_append_drop first ys,List.drop_eq_getElem_cons (by omega)]
   rw [List.flatMap_append,List.flatMap_cons]
   rw [List.getElem?_eq_getElem (by omega)] at hx
   simp only [Option.some.injEq] at hx
   rw [hx]
  rw [e5,List.getElem?_append_right (by rw [Zau,List.length_take,Nat.min_eq_left (by omega)];omega),Zau,List.length_take,Nat.min_eq_left (by omega),Nat.add_sub_cancel_left,List.getElem?_append_left (by rw [Zbm];exact hjk)]
  exact hj
 have hck:n * 1<=c * 1:=Nat.mul_le_mul_right _ hnc
 have hfk:(first+1) * 1<=n * 1:=Nat.mul_le_mul_right _ (by omega)
 have HX:=Hid.mk (And.intro hpop (And.intro hm (And.intro hlen hfew)))
 have HB0:=Hid.mk (And.intro hb0 (And.intro hrb hw0))
 have HQ:=Hid.mk H0.q0
 have HE:=Hid.mk hem
 have HGC:=Hid.mk (And.intro hgc0 (And.intro (show (first+1) * 1<=cur.size by rw [hcs];exact Nat.le_trans hfk hck) (And.intro hgs h.pb)))
 have t0:=hcell 0 _ rfl
 try simp only [Nat.add_zero,Nat.mul_one] at t0
 have e1:wrap64 ((first:Int)+1)=((first+1:Nat):Int):=by unfold wrap64;omega
 have e3:wrap64 ((m+1:Nat) - 1:Int)=(m:Int):=by unfold wrap64;omega
 have g0:decide (m+1=0)=false:=decide_eq_false (by omega)
 have hfc:first+1<=c:=Nat.le_trans (Nat.succ_le_of_lt hfn) hnc
 have hcf:¬c=first:=fun e=>Nat.lt_irrefl _ (Nat.lt_of_lt_of_le hfn (e▸hnc))
 clear h H0 hx hpop hcell hm hlen hfew hxs hgc hgc0 hb0 hw0 hrb hem hck hfk hcs
 go_enter Tryz.func134,Tryz.ntmps134
 go_upto_region 1 with fail
 rw [<-HB0.out.2.2]
 go_upto_region 3 with (go_at_call 84;refine HE.out.mono ?_;rintro e w9 ⟨rfl,hw9⟩;rw [hw9])
 go_region
 obtain⟨w1,hw1⟩:∃w1,w1=w0.drew:=⟨_,rfl⟩
 rw [<-hw1]
 have hb1:Below w0.heap.size w0 w1:=by rw [hw1];exact (Below.refl _ _).drew
 have HQ1:=Hid.mk (HQ.out.below hb1)
 have HGC1:=Hid.mk ((hb1.block g (Zaa HGC.out.1)).trans HGC.out.1)
 have HB1:=Hid.mk hb1
 have t0:=cell_later HB1.out t0
 obtain⟨w2,hw2⟩:∃w2,w2=w1:=⟨_,rfl⟩
 have hrb:=HB0.out.2.1
 have h1:Below w.heap.size w w1:=HB0.out.1.trans' HB1.out
 have hb2:Below w.heap.size w w2:=by rw [hw2];exact h1
 have hQ2:EAt0 w2 P B (some ⟨g,0,none⟩) n c first (m+1:Nat) ys:=by
  have hQ:=HQ1.out
  have hx1:=HX.out.2.1
  rw [List.length_cons,<-hx1] at hQ
  rw [hw2];exact hQ
 have hgc2:w2.heap[g]? =some (.cells cur 39 (0,0)):=by rw [hw2];exact HGC1.out
 skip
 have hcl:=fun ty=>clearTU w2 g first 1 (c - first) cur hgc2 HGC.out.2.1 (by omega) ty
 have hfl:=Zau (List.replicate 1 (0:Int))
 have hset:=hQ2.setRow first (List.replicate 1 (0:Int)) (by simp;omega)
 rw [set_replicateTU ys first (by rw [HX.out.2.2.1];exact hfn)] at hset
 generalize hw3:w2.setCells g (first * 1) ((List.replicate 1 (0:Int)).flatMap u64C)=w3 at *
 skip
 have c0:=hset.1.c0
 have c1:=hset.1.c1
 have c2:=hset.1.c2
 have f1:=hset.1.fz 6
 have f2:=hset.1.fz 7
 have HS:=Hid.mk (And.intro hset (And.intro hb2 hw3))
 try simp only [Nat.mul_one] at hcl
 rw [hw2] at hcl
 have e2:((first+1:Nat):Int).tmod (n:Int)=(((first+1) % n:Nat):Int):=rfl
 obtain⟨pos,hps⟩:∃pos,pos=(first+1) % n:=⟨_,rfl⟩
 have e2':((first:Int)+1) % (n:Int)=(pos:Int):=by rw [hps];norm_cast
 have HPS:=Hid.mk hps
 have hn1:¬((n:Int)=0):=by omega
 rw [<-hps] at e2
 have e3:wrap64 (m:Int)=(m:Int):=by have:=HX.out.1.few;have:=HX.out.2.1;have:=HX.out.2.2;simp only [List.length_set] at *;unfold wrap64;omega
 clear hset hQ2 hgc2 hb2 hw2 hb1 hw1 h1 hrb hw3 hps hfl hcm hnc hg
 go_upto_region 6 with fail
 go_region
 all_goals
  go_wp2_with fail
  go_ret2
  obtain⟨⟨q1,q2⟩,q3,q4⟩:=HS.out
  obtain⟨r1,r2,r3,r4⟩:=HX.out
  have hp:pos=(first+1) % ys.length:=by rw [r3];exact HPS.out
  have hw:w.heap.size<=w2.heap.size:=q3.size
  have h1:=(q1.setF pos).setK m
  have k1:RF w w3 P (some g) 5 8:=(RF.of_below P _ 5 8 q3).trans q2 (fun k hk=>Or.inl hk)
  have k2:=(k1.trans (RF.setP w3 P 6 (some g) (.int .i64 pos) (lo:=5) (hi:=8) (by decide)) (fun k hk=>Or.inl hk)).trans (RF.setP _ P 7 (some g) (.int .i64 m) (lo:=5) (hi:=8) (by decide)) (fun k hk=>Or.inl hk)
  have h2:=h1
  have k3:=k2
  exact⟨rfl,pos,_,(h2.below ((Below.refl _ _).drew)).toQ (first:=pos) rfl (by rw [r2]) (by rw [hp];exact r1) r4,k3.drewTU⟩
end Go.Proofs.YtgdcjccbdmcebabGreatDoor
