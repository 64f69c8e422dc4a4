import Derived.Test.YtgdcjccbdmcebabGreatDoorM07
import Derived.Test.YtgdcjccbdmcebabGreatDoorM17
import Derived.BigRegion
set_option linter.unusedSimpArgs false
set_option linter.unusedVariables false
namespace Go.Proofs.YtgdcjccbdmcebabGreatDoor
section
open Go.RowKit
def numL (n:Nat):List Int :=
 if h:n<128 then [(n:Int)] else ((n % 128+128:Nat):Int)::numL (n / 128)
 termination_by n
 decreasing_by omega
theorem Zb9 {n:Nat}(h:n<128):numL n=[(n:Int)]:=by rw [numL,dif_pos h]
theorem Zd0 {n:Nat}(h:¬n<128):numL n=((n % 128+128:Nat):Int)::numL (n / 128):=by rw [numL,dif_neg h]
theorem numL_pos (n:Nat):1<=(numL n).length:=by
 by_cases h:n<128
 ·rw [Zb9 h];simp
 ·rw [Zd0 h];simp
theorem numL_len:∀(k n:Nat),n<128 ^ (k+1)->(numL n).length<=k+1:=by
 intro k
 induction k with
 | zero=>intro n h;rw [Zb9 (by simpa using h)];simp
 | succ k ih =>
  intro n h
  by_cases hn:n<128
  ·rw [Zb9 hn];simp
  ·rw [Zd0 hn,List.length_cons]
   have:=ih (n / 128) (by rw [Nat.pow_succ] at h;omega)
   omega
theorem Zaw {n:Nat}(h:n<=9223372036854775807):(numL n).length<=9:=numL_len 8 n (by omega)
def bv (l:List Int):List Value:=l.map fun x=> .int .u8 x
theorem bv_append (a b:List Int):bv (a++b)=bv a++bv b:=by simp [bv]
theorem bv_length (a:List Int):(bv a).length=a.length:=by simp [bv]
theorem bv_one (a:List Int):∀u∈bv a,u.oneCell'=true:=by
 intro u hu
 simp only [bv,List.mem_map] at hu
 obtain⟨x,_,rfl⟩:=hu
 rfl
def ByteRow (B:Nat)(w:World)(v:Value)(l:List Int):Prop:=w.ownsRow B 5 1 v l.length (bv l)
theorem ByteRow.nil (B:Nat)(w:World):ByteRow B w (.slice none 0 0) []:=World.ownsRow_nil _ _ _ _
theorem ByteRow.below {B:Nat}{w w':World}{v:Value}{l:List Int}(h:ByteRow B w v l)(hb:Below w.heap.size w w'):ByteRow B w' v l:=Zah h hb
structure F8 (B:Nat)(w w':World):Prop where
 bl:Below B w w'
 keep:∀k,k<w.heap.size->(∀cs fz,w.heap[k]? ≠some (.cells cs 5 fz))->w'.heap[k]? =w.heap[k]?
theorem F8.refl (B:Nat)(w:World):F8 B w w:=⟨Below.refl _ _,fun _ _ _=>rfl⟩
theorem F8.trans {B:Nat}{a b c:World}(h:F8 B a b)(h2:F8 B b c):F8 B a c :=
 ⟨h.bl.trans h2.bl,fun k hk hn=>by
  have e:=h.keep k hk hn
  rw [h2.keep k (Nat.lt_of_lt_of_le hk h.bl.size) (by rw [e];exact hn),e]⟩
theorem F8.mono {B B':Nat}{w w':World}(h:F8 B w w')(hB:B'<=B):F8 B' w w':=⟨h.bl.mono hB,h.keep⟩
theorem F8.of_below {B:Nat}{w w':World}(h:Below w.heap.size w w')(hB:B<=w.heap.size):F8 B w w':=⟨h.mono hB,fun k hk _=>h.block k hk⟩
theorem F8.alloc {B:Nat}{a w:World}(h:F8 B a w)(hB:B<=w.heap.size)(o:Obj):F8 B a (w.alloc o) :=
 h.trans (F8.of_below ((Below.refl _ _).alloc (Nat.le_refl _) _) hB)
theorem F8.grown {B:Nat}{w w':World}{v:Value}{l:List Int}(h:ByteRow B w v l)(hg:w.grownBy w' v.ownBlock)(hB:B<=w.heap.size):F8 B w w':=by
 refine⟨(Below.refl _ _).grown hg hB fun k hk=>(h.lt k hk).1,fun k hk hn=>hg.block k hk fun e=> ?_⟩
 rcases h.2 with⟨rfl,_⟩ | ⟨g,cap,cur,rfl,_,hh,_⟩
 ·simp [Value.ownBlock] at e
 ·simp only [Value.ownBlock,Option.some.injEq] at e
  subst e
  exact hn _ _ hh
theorem F8.block {B:Nat}{w w':World}(h:F8 B w w'){k:Nat}{cs:Array Value}{t:TypeId}{fz:Nat×Nat}(hk:w.heap[k]? =some (.cells cs t fz))(ht:t≠5):w'.heap[k]? =some (.cells cs t fz):=by
 obtain⟨hlt,_⟩:=Array.getElem?_eq_some_iff.1 hk
 rw [h.keep k hlt fun cs' fz' e=> ?_,hk]
 rw [hk] at e
 simp only [Option.some.injEq,Obj.cells.injEq] at e
 exact ht e.2.1
theorem info5:(Tryz.prog.info? 5).map (fun i=>(i.zero,i.size,i.bytes))=some (some (.int .u8 0),1,1):=by kernel_rfl
theorem news1 (W:World)(N:Nat)(x:Value)(t:TypeId)(hN:N=W.heap.size)(j:Nat)(u:Value)(h:[x][j]? =some u):(W.alloc (.cells #[x] t)).cell? ((⟨N,0,none⟩:Addr).add j)=some u:=by
 subst hN
 cases j with
 | zero=>simp at h;subst h;simp [Addr.add]
 | succ j=>simp at h
theorem one_byte (x:Int):∀u∈[Value.int .u8 x],u.oneCell'=true:=by intro u hu;simp only [List.mem_singleton] at hu;subst hu;rfl
set_option maxRecDepth 1000000 in
theorem or128:∀x:Fin 256,bits .or .u8 (x.val:Int) 128=(x.val:Int) % 128+128:=by decide
theorem or_128 (m:Nat):bits .or .u8 ((m:Int) % 256) 128=(m:Int) % 128+128:=by
 have h:=or128 ⟨m % 256,by omega⟩
 have e:((m % 256:Nat):Int)=(m:Int) % 256:=by omega
 simp only [e] at h
 rw [h]
 omega
theorem byte_step {B:Nat}{w w2:World}{v v':Value}{l:List Int}{x:Int}{ob:Obj}(hl:ByteRow B w v l)(hB:B<=w.heap.size)
  (hown:w2.ownsRow B 5 1 v' (l.length+1) (bv l++[.int .u8 x])) (hg:(w.alloc ob).grownBy w2 v.ownBlock) :
  ByteRow B w2 v' (l++[x])/\F8 B w w2:=by
 refine⟨?_,((F8.refl B w).alloc hB ob).trans (F8.grown (hl.below ((Below.refl _ _).alloc (Nat.le_refl _) _)) hg (by simp;omega))⟩
 unfold ByteRow
 rw [bv_append,List.length_append]
 exact hown
end
section
open Go.RowKit
set_option maxRecDepth 100000
def numsL (f:Nat->Nat):Nat->List Int
 | 0=>[]
 | k+1=>numsL f k++numL (f k)
theorem numsL_len (f:Nat->Nat)(n:Nat)(h:∀k,k<n->f k<=9223372036854775807):(numsL f n).length<=9 * n:=by
 induction n with
 | zero=>simp [numsL]
 | succ k ih =>
  have h1:=ih fun j hj=>h j (by omega)
  have h2:=Zaw (h k (by omega))
  simp only [numsL,List.length_append]
  omega
set_option maxHeartbeats 2000000 in
theorem append_any (B:Nat)(v:Value)(l:List Int)(f:Nat->Nat)(g:Nat->Int)(a:Option Addr)(n cap:Nat)(w:World)(hg:∀k,k<n->g k=(f k:Int))(hn:∀k,k<n->f k<=9223372036854775807)(hn2:n<=68719476736)(hl:l.length<=1099511627776)(hB:B<=w.heap.size)(h:ByteRow B w v l)
  (hi:∀w',F8 B w w'->IntsAt w' a n cap g) :
  Calls Tryz.prog 75 #[v, .slice a n cap] w fun e w'=>∃v',e= .returned v'/\ByteRow B w' v' (l++numsL f n)/\F8 B w w':=by
 obtain⟨i5,hi5,hz50,hz51,hz52⟩:=info_parts info5
 have HI5:=Hid.mk (And.intro hi5 (And.intro hz50 (And.intro hz51 hz52)))
 have H:=Hid.mk h
 have HI:=Hid.mk hi
 have HG:=Hid.mk hg
 have HN:=Hid.mk hn
 have hlen:∀k,k<=n->(numsL f k).length<=9 * k:=fun k hk=>numsL_len f k fun j hj=>hn j (by omega)
 have HL:=Hid.mk hlen
 clear hi5 hz50 hz51 hz52 h hi hg hn hlen
 go_enter Tryz.func75,Tryz.ntmps75
 go_wp2_with fail
 go_loopw [0,9] (fun vv iv wr=>∃k:Nat,iv= .int .i64 k/\k<=n/\ByteRow B wr vv (l++numsL f k)/\F8 B w wr) (fun _ iv _=>n - (intOf iv).toNat)
 case atStart=>exact⟨0,rfl,by omega,by simpa [numsL] using H.out,F8.refl _ _⟩
 case round =>
  obtain⟨k,rfl,hk,hrow,hf⟩:=hrel
  rename World=>w1
  have HR:=Hid.mk hrow
  have HF:=Hid.mk hf
  have hB1:B<=w1.heap.size:=Nat.le_trans hB hf.bl.size
  by_cases h1:k<n
  ·have hIA:=HI.out w1 hf
   have hgk:=HG.out k h1
   have hnk:=HN.out k h1
   have hll:=HL.out k hk
   rcases hIA with h0 | ⟨ab,ao,rfl,hc1,hc2,hab,hcell⟩
   ·omega
   ·have hck:=hcell k h1
    rw [hgk] at hck
    clear hrow hf hcell hgk
    go_wp2_with fail
    go_loopw [0,6] (fun vv iv wr=>∃(m:Nat) (c:List Int),iv= .int .i64 m/\m<=f k/\c++numL m=(l++numsL f k)++numL (f k)/\ByteRow B wr vv c/\F8 B w1 wr) (fun _ iv _=>(intOf iv).toNat)
    case atStart=>exact⟨f k,l++numsL f k,rfl,by omega,rfl,HR.out,F8.refl _ _⟩
    case round =>
     obtain⟨m,c,rfl,hm,hc,hrow,hf⟩:=hrel
     rename World=>w2
     have HC:=Hid.mk hc
     have HR2:=Hid.mk hrow
     have HF2:=Hid.mk hf
     have hB2:B<=w2.heap.size:=Nat.le_trans hB1 hf.bl.size
     have hcl:c.length<=2199023255552:=by
      have:=congrArg List.length hc
      have h2:=Zaw hnk
      simp only [List.length_append] at this
      omega
     obtain⟨va,vc,rfl⟩:=Za3 hrow
     clear hc hrow hf
     by_cases h2:m<128
     ·go_wp2_with (at_builtin;refine wpList_append_own _ rfl (.tmp 23) (.tmp 26) 35 rfl B 5 i5 (.int .u8 0) 1 1 Tryz.underlying35 HI5.out.1 HI5.out.2.1 HI5.out.2.2.1 HI5.out.2.2.2 rfl (by decide) (.slice va c.length vc) c.length (bv c) rfl (HR2.out.below ((Below.refl _ _).alloc (Nat.le_refl _) _)) ⟨w2.heap.size,0,none⟩ 1 1 [.int .u8 m] rfl rfl (news1 _ _ _ _ rfl) (one_byte _) (by unfold maxLen;omega) (by omega) (by simp;omega) ?_;intro v3 w3 hown2 hgrow2 hiff;clear hiff;obtain⟨xa,xc,rfl⟩:=Za3 hown2;obtain⟨r1,r2⟩:=byte_step HR2.out hB2 hown2 hgrow2;clear hown2 hgrow2)
      go_roundw
      case rel =>
       refine⟨k+1,by go_num,by omega,?_,(HF.out.trans HF2.out).trans r2⟩
       have:=HC.out
       rw [Zb9 h2] at this
       simp only [numsL]
       rw [<-List.append_assoc,<-this]
       exact r1
      case measure=>simp [intOf];omega
     ·have ho:=Hid.mk (or_128 m)
      go_wp2_with (at_builtin;refine wpList_append_own _ rfl (.tmp 15) (.tmp 19) 35 rfl B 5 i5 (.int .u8 0) 1 1 Tryz.underlying35 HI5.out.1 HI5.out.2.1 HI5.out.2.2.1 HI5.out.2.2.2 rfl (by decide) (.slice va c.length vc) c.length (bv c) rfl (HR2.out.below ((Below.refl _ _).alloc (Nat.le_refl _) _)) ⟨w2.heap.size,0,none⟩ 1 1 [.int .u8 (bits .or .u8 ((m:Int) % 256) 128)] rfl rfl (news1 _ _ _ _ rfl) (one_byte _) (by unfold maxLen;omega) (by omega) (by simp;omega) ?_;intro v3 w3 hown2 hgrow2 hiff;clear hiff;obtain⟨xa,xc,rfl⟩:=Za3 hown2;obtain⟨r1,r2⟩:=byte_step HR2.out hB2 hown2 hgrow2;clear hown2 hgrow2;rw [ho.out] at r1)
      go_roundw
      case rel =>
       refine⟨m / 128,c++[(m:Int) % 128+128],by go_num,by omega,?_,r1,HF2.out.trans r2⟩
       have:=HC.out
       rw [Zd0 h2] at this
       rw [<-this,List.append_assoc]
       rfl
      case measure=>simp [intOf];omega
  ·obtain rfl:k=n:=by omega
   clear hrow hf
   go_wp2_with fail
   go_ret
   exact⟨_,rfl,HR.out,HF.out⟩
end
end Go.Proofs.YtgdcjccbdmcebabGreatDoor
namespace Go.Proofs.YtgdcjccbdmcebabGreatDoor
open Go.RowKit
set_option maxRecDepth 100000
theorem OkEdges.ge {F:FlowD}{i:Nat}(h:OkEdges F i):∀k:Nat,k<F.an i->(k:Int)<=F.af i k:=by
 intro k
 induction k with
 | zero=>intro hk;exact (h 0 hk).1
 | succ k ih =>
  intro hk
  have h1:=ih (by omega)
  have h2:=(h (k+1) hk).2.2 (by omega)
  simp only [Nat.add_sub_cancel] at h2
  omega
theorem OkEdges.an_le {F:FlowD}{i:Nat}(h:OkEdges F i):F.an i<=F.n:=by
 by_cases h0:F.an i=0
 ·omega
 ·have h1:=h.ge (F.an i - 1) (by omega)
  have h2:=(h (F.an i - 1) (by omega)).2.1
  omega
def nodeB (F:FlowD)(i:Nat):List Int :=
 (((((((numL (F.bu i).toNat++numL (F.cl i).toNat)++numL (F.be i).toNat)++numL (F.ba i).toNat)++numL (F.ca i).toNat)++numL (F.ji i).toNat)++numL (F.an i))++numsL (fun k=>(F.af i k).toNat) (F.an i))
def nodesB (F:FlowD):Nat->List Int
 | 0=>[]
 | k+1=>nodesB F k++nodeB F k
def Zat (F:FlowD):List Int:=(numL F.dl.toNat++numL F.n)++nodesB F F.n
structure NatNode (F:FlowD)(i:Nat) where
 bu:(F.bu i)=((F.bu i).toNat:Int)/\(F.bu i).toNat<=1048576
 cl:(F.cl i)=((F.cl i).toNat:Int)/\(F.cl i).toNat<=1048576
 be:(F.be i)=((F.be i).toNat:Int)/\(F.be i).toNat<=1048576
 ba:(F.ba i)=((F.ba i).toNat:Int)/\(F.ba i).toNat<=1048576
 ca:(F.ca i)=((F.ca i).toNat:Int)/\(F.ca i).toNat<=1048576
 ji:(F.ji i)=((F.ji i).toNat:Int)/\(F.ji i).toNat<=1048576
 an:F.an i<=12
 af:∀k,k<F.an i->F.af i k=((F.af i k).toNat:Int)/\(F.af i k).toNat<=12
theorem natNode {F:FlowD}{i:Nat}(ht:OkTop F)(h:OkNode F i)(he:OkEdges F i):NatNode F i:=by
 obtain⟨t1,t2,t3,t4⟩:=ht
 have h9:=he.an_le
 obtain⟨h1,h2,h3,h4,h5,h6,h7,h8,h10,h11,h12,h13⟩:=h
 refine⟨?_,?_,?_,?_,?_,?_,by omega,fun k hk=> ?_⟩
 ·omega
 ·omega
 ·omega
 ·omega
 ·omega
 ·omega
 ·have:=he k hk
  unfold OkEdge at this
  omega
theorem numsL_len12 (f:Nat->Nat)(n:Nat)(hn:n<=12)(h:∀k,k<n->f k<=12):(numsL f n).length<=108:=by
 have:=numsL_len f n fun k hk=>by have:=h k hk;omega
 omega
theorem nodeB_len {F:FlowD}{i:Nat}(h:NatNode F i):(nodeB F i).length<=171:=by
 have l0:=Zaw (n:=(F.bu i).toNat) (by have:=h.bu;omega)
 have l1:=Zaw (n:=(F.cl i).toNat) (by have:=h.cl;omega)
 have l2:=Zaw (n:=(F.be i).toNat) (by have:=h.be;omega)
 have l3:=Zaw (n:=(F.ba i).toNat) (by have:=h.ba;omega)
 have l4:=Zaw (n:=(F.ca i).toNat) (by have:=h.ca;omega)
 have l5:=Zaw (n:=(F.ji i).toNat) (by have:=h.ji;omega)
 have l6:=Zaw (n:=F.an i) (by have:=h.an;omega)
 have l7:=numsL_len12 (fun k=>(F.af i k).toNat) (F.an i) h.an fun k hk=>(h.af k hk).2
 simp only [nodeB,List.length_append]
 omega
theorem nodesB_len {F:FlowD}{k:Nat}(h:∀i,i<k->NatNode F i):(nodesB F k).length<=171 * k:=by
 induction k with
 | zero=>simp [nodesB]
 | succ k ih =>
  have h1:=ih fun i hi=>h i (by omega)
  have h2:=nodeB_len (h k (by omega))
  simp only [nodesB,List.length_append]
  omega
structure Box (w wr:World)(F:FlowD)(a:Option Addr)(cap:Nat):Prop where
 b:wr.heap[w.heap.size]? =some (.cells #[.int .i64 F.dl, .slice a F.n cap] 31 (0,0))
 f:F8 w.heap.size w wr
theorem Box.start (w:World)(F:FlowD)(a:Option Addr)(cap:Nat):Box w (w.alloc (.cells #[.int .i64 F.dl, .slice a F.n cap] 31)) F a cap :=
 ⟨heap_alloc_new _ _,(F8.refl _ _).alloc (Nat.le_refl _) _⟩
theorem Box.keep {w wr wx:World}{F:FlowD}{a:Option Addr}{cap:Nat}(h:Box w wr F a cap)(hb:F8 w.heap.size wr wx):Box w wx F a cap :=
 ⟨hb.block h.b (by decide),h.f.trans hb⟩
theorem Box.lt {w wr:World}{F:FlowD}{a:Option Addr}{cap:Nat}(h:Box w wr F a cap):w.heap.size<wr.heap.size:=by
 obtain⟨hlt,_⟩:=Array.getElem?_eq_some_iff.1 h.b
 exact hlt
def NodeBox (wr:World)(g:Nat)(F:FlowD)(k:Nat)(a:Option Addr)(c:Nat):Prop:=wr.heap[g]? =some (.cells (nodeL F k a c).toArray 34 (0,0))
theorem NodeBox.keep {wr wx:World}{g:Nat}{F:FlowD}{k:Nat}{a:Option Addr}{c B:Nat}(h:NodeBox wr g F k a c)(hb:F8 B wr wx):NodeBox wx g F k a c:=F8.block hb h (by decide)
theorem NodeBox.cells {wr:World}{g:Nat}{F:FlowD}{k:Nat}{a:Option Addr}{c:Nat}(h:NodeBox wr g F k a c) :
  wr.cell? ⟨g,0,none⟩=some (.int .i64 (F.bu k))/\wr.cell? ⟨g,1,none⟩=some (.int .i64 (F.cl k))/\wr.cell? ⟨g,2,none⟩=some (.int .i64 (F.be k))/\wr.cell? ⟨g,3,none⟩=some (.int .i64 (F.ba k)) /\
  wr.cell? ⟨g,4,none⟩=some (.int .i64 (F.ca k))/\wr.cell? ⟨g,5,none⟩=some (.int .i64 (F.ji k))/\wr.cell? ⟨g,6,none⟩=some (.slice a (F.an k) c) :=
 ⟨Zai h 0,Zai h 1,Zai h 2,Zai h 3,Zai h 4,Zai h 5,Zai h 6⟩
def Wr (w:World)(b o:Nat):Prop:=(w.cell? ⟨b,o,none⟩).isSome=true/\w.frozen? ⟨b,o,none⟩=false
theorem Wr.set {w:World}{b o:Nat}(h:Wr w b o)(x:Addr)(v:Value):Wr (w.setCell x v) b o:=by
 obtain⟨h1,h2⟩:=h
 refine⟨?_,by rw [World.frozen?_setCell];exact h2⟩
 obtain⟨u,hu⟩:=Option.isSome_iff_exists.1 h1
 obtain⟨u',hu'⟩:=cell?_setCell_some (w:=w) (p:=x) (x:=v) (q:=⟨b,o,none⟩) (v:=u) hu
 rw [hu']
 rfl
structure TurnAt (B:Nat)(w:World)(F:FlowD)(g k:Nat)(Na:Nat->Option Addr)(Nc:Nat->Nat):Prop where
 hg:B<=g
 wr:∀i,i<F.n->∀j,j<7->Wr w g (i * 7+j)
 af:∀i,k<=i->i<F.n->w.cell? ⟨g,i * 7+6,none⟩=some (.slice (Na i) (F.an i) (Nc i))
 it:∀i,i<F.n->F.an i=0\/∃ab,Na i=some ⟨ab,0,none⟩/\B<=ab/\ab≠g/\F.an i<=Nc i/\Nc i<=maxLen/\∀m,m<F.an i->Wr w ab m
theorem TurnAt.set {B:Nat}{w:World}{F:FlowD}{g k:Nat}{Na:Nat->Option Addr}{Nc:Nat->Nat}(h:TurnAt B w F g k Na Nc){x:Addr}(hx:x.block≠g)(v:Value):TurnAt B (w.setCell x v) F g k Na Nc :=
 ⟨h.hg,fun i hi j hj=>(h.wr i hi j hj).set x v,fun i h1 h2=>(World.cell?_of_block (w:=w) (Below.heap_setCell w x v g (fun e=>hx e.symm))).trans (h.af i h1 h2),fun i hi=>by
  rcases h.it i hi with h0 | ⟨ab,h1,h2,h3,h4,h5,h6⟩
  ·exact Or.inl h0
  ·exact Or.inr ⟨ab,h1,h2,h3,h4,h5,fun m hm=>(h6 m hm).set x v⟩⟩
theorem TurnAt.setNode {B:Nat}{w:World}{F:FlowD}{g k k' i0 off:Nat}{Na:Nat->Option Addr}{Nc:Nat->Nat}(h:TurnAt B w F g k Na Nc)(hk:k<=k')(hi0:i0<k')(hoff:off<i0 * 7+7)(v:Value):TurnAt B (w.setCell ⟨g,off,none⟩ v) F g k' Na Nc :=
 ⟨h.hg,fun i hi j' hj'=>(h.wr i hi j' hj').set _ v,fun i h1 h2=>by
  have hne:(⟨g,off,none⟩:Addr).off≠i * 7+6:=by simp;omega
  have:=h.af i (by omega) h2
  rw [<-this]
  exact Zab w g off (i * 7+6) v (by simpa using hne),fun i hi=>by
  rcases h.it i hi with h0 | ⟨ab,h1,h2,h3,h4,h5,h6⟩
  ·exact Or.inl h0
  ·exact Or.inr ⟨ab,h1,h2,h3,h4,h5,fun m hm=>(h6 m hm).set _ v⟩⟩
theorem TurnAt.below {B:Nat}{w w':World}{F:FlowD}{g k:Nat}{Na:Nat->Option Addr}{Nc:Nat->Nat}(h:TurnAt B w F g k Na Nc)(hn:k=0)(hb:Below w.heap.size w w'):TurnAt B w' F g k Na Nc:=by
 have hw:∀b o,Wr w b o->Wr w' b o:=fun b o ⟨h1,h2⟩=>by
  obtain⟨u,hu⟩:=Option.isSome_iff_exists.1 h1
  have hlt:=World.block_lt_of_cell? _ _ hu
  exact⟨by rw [hb.cell (p:=⟨b,o,none⟩) hlt];exact h1,by rw [hb.frozen (p:=⟨b,o,none⟩) hlt];exact h2⟩
 subst hn
 exact⟨h.hg,fun i hi j hj=>hw _ _ (h.wr i hi j hj),fun i h1 h2=>(hb.cell (p:=⟨g,i * 7+6,none⟩) (World.block_lt_of_cell? _ _ (h.af i h1 h2))).trans (h.af i h1 h2),fun i hi=>by
  rcases h.it i hi with h0 | ⟨ab,h1,h2,h3,h4,h5,h6⟩
  ·exact Or.inl h0
  ·exact Or.inr ⟨ab,h1,h2,h3,h4,h5,fun m hm=>hw _ _ (h6 m hm)⟩⟩
theorem CopyAt.turn {B:Nat}{w:World}{F:FlowD}{g cap:Nat}{Na:Nat->Option Addr}{Nc:Nat->Nat}(h:CopyAt B w F (.slice (some ⟨g,0,none⟩) F.n cap) F.n Na Nc):TurnAt B w F g 0 Na Nc:=by
 have hn:=h.node
 have hz:∀i j:Nat,(0+i * 7+j)=i * 7+j:=fun i j=>by omega
 have hz':∀i:Nat,(0+i * 7)=i * 7:=fun i=>by omega
 refine⟨h.lt.1,fun i hi j hj=>⟨?_,h.own.frozenAt _⟩,fun i _ hi=>by have:=(hn i hi).af;rwa [hz'] at this,fun i hi=> ?_⟩
 ·rw [h.own.cellAt (i * 7+j) (by omega),nodesL_at F Na Nc F.n i j hi hj]
  rcases (show j=0\/j=1\/j=2\/j=3\/j=4\/j=5\/j=6 by omega) with rfl | rfl | rfl | rfl | rfl | rfl | rfl<;>rfl
 ·by_cases h0:F.an i=0
  ·exact Or.inl h0
  ·have ha:=h.aft i hi
   rcases ha.2 with⟨_,h2⟩ | ⟨ab,cap',cur,h2,hb,hh,h3,h4,h5,h6⟩
   ·exact absurd h2 h0
   ·obtain⟨h7,_,h8⟩:Na i=some ⟨ab,0,none⟩/\F.an i=F.an i/\Nc i=cap':=by simpa using h2
    have hap:=own_apart ha h.own (by decide)
    rw [h7] at hap
    rw [h7,h8] at ha
    refine Or.inr ⟨ab,h7,hb,?_,by omega,by omega,fun m hm=>⟨?_,ha.frozenAt m⟩⟩
    ·rcases hap with hap | hap
     ·simp [Value.ownBlock] at hap
     ·intro e;apply hap;simp [Value.ownBlock,e]
    ·rw [ha.cellAt m (by omega),intsL_at _ _ _ hm]
     rfl
structure TurnI (B:Nat)(w wx:World)(F:FlowD)(g cap k:Nat)(Na:Nat->Option Addr)(Nc:Nat->Nat):Prop where
 at':TurnAt B wx F g k Na Nc
 c1:wx.cell? ⟨w.heap.size,1,none⟩=some (.slice (some ⟨g,0,none⟩) F.n cap)
 sz:w.heap.size<wx.heap.size
 bl:Below B w wx
theorem TurnI.node {B:Nat}{w wx:World}{F:FlowD}{g cap k k':Nat}{Na:Nat->Option Addr}{Nc:Nat->Nat}(h:TurnI B w wx F g cap k Na Nc)(hgw:g<w.heap.size)(i0 off:Nat)(hk:k<=k')(hi0:i0<k')(hoff:off<i0 * 7+7)(v:Value) :
  TurnI B w (wx.setCell ⟨g,off,none⟩ v) F g cap k' Na Nc :=
 ⟨h.at'.setNode hk hi0 hoff v,(World.cell?_of_block (w:=wx) (Below.heap_setCell wx ⟨g,off,none⟩ v w.heap.size (by simp;omega))).trans h.c1,by simpa [World.setCell] using h.sz,h.bl.setCell h.at'.hg v⟩
set_option maxHeartbeats 1000000 in
theorem turn_none (F:FlowD)(a:Option Addr)(cap:Nat)(w:World)(hn:F.n=0) :
  Calls Tryz.prog 26 #[flV F.dl (.slice a F.n cap)] w fun e w'=>e= .returned (.tuple #[])/\Below w.heap.size w w':=by
 rw [hn]
 clear hn
 go_enter Tryz.func26,Tryz.ntmps26
 go_wp2_with fail
 go_loop [7] (fun k=>k= .int .i64 0) (fun _=>0)
 case atStart=>rfl
 case round =>
  obtain rfl:=hrel
  go_wp2_with fail
  go_end0
  exact⟨rfl,(Below.refl _ _).alloc (Nat.le_refl _) _⟩
structure FlowIn (w:World)(F:FlowD)(a:Option Addr)(cap:Nat)(Aa:Nat->Option Addr)(Ac:Nat->Nat):Prop where
 at':NodesAt w a cap F Aa Ac
 len:F.n<=maxLen
 sz:F.n * 72<=140737488355328
 nil:∀i,i<F.n->Aa i=none->Ac i=0
 sz2:∀i,i<F.n->F.an i * 8<=140737488355328
 tab:TabIn w
 tabg:2<w.heap.size
theorem FlowIn.keep {w w':World}{F:FlowD}{a:Option Addr}{cap:Nat}{Aa:Nat->Option Addr}{Ac:Nat->Nat}(h:FlowIn w F a cap Aa Ac)(hb:Below w.heap.size w w'):FlowIn w' F a cap Aa Ac :=
 ⟨h.at'.keep hb,h.len,h.sz,h.nil,h.sz2,h.tab.keep h.tabg hb,Nat.lt_of_lt_of_le h.tabg hb.size⟩
theorem CopyAt.base {B B':Nat}{w:World}{F:FlowD}{v:Value}{k:Nat}{Na:Nat->Option Addr}{Nc:Nat->Nat}(h:CopyAt B w F v k Na Nc)(hB:B'<=B):CopyAt B' w F v k Na Nc :=
 ⟨Zci h.own hB,fun i hi=>Zci (h.aft i hi) hB⟩
theorem copied_any (F:FlowD)(a:Option Addr)(cap:Nat)(Aa:Nat->Option Addr)(Ac:Nat->Nat)(w:World)(h:FlowIn w F a cap Aa Ac) :
  Calls Tryz.prog 24 #[flV F.dl (.slice a F.n cap)] w fun e w'=>∃(la:Option Addr) (lc:Nat) (Na:Nat->Option Addr) (Nc:Nat->Nat),e= .returned (flV F.dl (.slice la F.n lc))/\CopyAt w.heap.size w' F (.slice la F.n lc) F.n Na Nc/\Below w.heap.size w w':=by
 rcases h.at' with h0 | ⟨b,o,rfl,h1,h2,h3,h4⟩
 ·refine (copied_none F a cap w h0).mono ?_
  rintro e w' ⟨rfl,hb⟩
  exact⟨none,0,fun _=>none,fun _=>0,by rw [h0],by rw [h0];exact⟨World.ownsRow_nil _ _ _ _,fun i hi=>by omega⟩,hb⟩
 ·refine (copied_some F b o cap Aa Ac w h3 h.sz h.nil h.sz2 h4).mono ?_
  rintro e w' ⟨lv,Na,Nc,rfl,hc,hb⟩
  obtain⟨la,lc,rfl⟩:=Za3 hc.own
  exact⟨la,lc,Na,Nc,rfl,hc.base (by omega),hb⟩
theorem ints_new1 (B x:Nat)(W:World):∀w',F8 B (W.alloc (.cells #[.int .i64 x] 3)) w'->IntsAt w' (some ⟨W.heap.size,0,none⟩) 1 1 (fun _=>(x:Int)):=by
 intro w' hf
 have h:=hf.block (heap_alloc_new W (.cells #[.int .i64 x] 3)) (by decide)
 obtain⟨hlt,_⟩:=Array.getElem?_eq_some_iff.1 h
 refine Or.inr ⟨_,_,rfl,by omega,by decide,hlt,fun k hk=> ?_⟩
 obtain rfl:k=0:=by omega
 exact Zai h 0
theorem ints_new2 (B x y:Nat)(W:World):∀w',F8 B (W.alloc (.cells #[.int .i64 x, .int .i64 y] 3)) w'->IntsAt w' (some ⟨W.heap.size,0,none⟩) 2 2 (fun k=>if k=0 then (x:Int) else y):=by
 intro w' hf
 have h:=hf.block (heap_alloc_new W (.cells #[.int .i64 x, .int .i64 y] 3)) (by decide)
 obtain⟨hlt,_⟩:=Array.getElem?_eq_some_iff.1 h
 refine Or.inr ⟨_,_,rfl,by omega,by decide,hlt,fun k hk=> ?_⟩
 match k,hk with
 | 0,_=>exact Zai h 0
 | 1,_=>exact Zai h 1
theorem Zb8 (B:Nat)(v:Value)(l:List Int)(x:Nat)(W:World)(hx:x<=1048576)(hl:l.length<=1099511627776)(hB:B<=W.heap.size)(h:ByteRow B W v l) :
  Calls Tryz.prog 75 #[v, .slice (some ⟨W.heap.size,0,none⟩) 1 1] (W.alloc (.cells #[.int .i64 x] 3)) fun e w'=>∃v',e= .returned v'/\ByteRow B w' v' (l++numL x)/\F8 B W w':=by
 refine (append_any B v l (fun _=>x) (fun _=>(x:Int)) _ 1 1 _ (fun _ _=>rfl) (fun _ _=>by omega) (by omega) hl (by simp;omega) (h.below ((Below.refl _ _).alloc (Nat.le_refl _) _)) (ints_new1 B x W)).mono ?_
 rintro e w' ⟨v',rfl,h1,h2⟩
 exact⟨v',rfl,by simpa [numsL] using h1,((F8.refl _ _).alloc hB _).trans h2⟩
theorem append2_any (B:Nat)(v:Value)(l:List Int)(x y:Nat)(W:World)(hx:x<=1048576)(hy:y<=1048576)(hl:l.length<=1099511627776)(hB:B<=W.heap.size)(h:ByteRow B W v l) :
  Calls Tryz.prog 75 #[v, .slice (some ⟨W.heap.size,0,none⟩) 2 2] (W.alloc (.cells #[.int .i64 x, .int .i64 y] 3)) fun e w'=>∃v',e= .returned v'/\ByteRow B w' v' ((l++numL x)++numL y)/\F8 B W w':=by
 refine (append_any B v l (fun k=>if k=0 then x else y) (fun k=>if k=0 then (x:Int) else y) _ 2 2 _ (fun k _=>by split<;>rfl) (fun k _=>by show (if k=0 then x else y)<=_;split<;>omega) (by omega) hl (by simp;omega) (h.below ((Below.refl _ _).alloc (Nat.le_refl _) _)) (ints_new2 B x y W)).mono ?_
 rintro e w' ⟨v',rfl,h1,h2⟩
 exact⟨v',rfl,by simpa [numsL] using h1,((F8.refl _ _).alloc hB _).trans h2⟩
def sixP (g:Nat):Value:= .agg #[.pointer (some ⟨g,0,none⟩), .pointer (some ⟨g,1,none⟩), .pointer (some ⟨g,2,none⟩), .pointer (some ⟨g,3,none⟩), .pointer (some ⟨g,4,none⟩), .pointer (some ⟨g,5,none⟩)]
theorem six0 (g:Nat)(w:World):(Instr.index 155 (sixP g) (.int .i64 0)).run Tryz.prog w= .ok (.pointer (some ⟨g,0,none⟩)) w:=by kernel_rfl
theorem six1 (g:Nat)(w:World):(Instr.index 155 (sixP g) (.int .i64 1)).run Tryz.prog w= .ok (.pointer (some ⟨g,1,none⟩)) w:=by kernel_rfl
theorem six2 (g:Nat)(w:World):(Instr.index 155 (sixP g) (.int .i64 2)).run Tryz.prog w= .ok (.pointer (some ⟨g,2,none⟩)) w:=by kernel_rfl
theorem six3 (g:Nat)(w:World):(Instr.index 155 (sixP g) (.int .i64 3)).run Tryz.prog w= .ok (.pointer (some ⟨g,3,none⟩)) w:=by kernel_rfl
theorem six4 (g:Nat)(w:World):(Instr.index 155 (sixP g) (.int .i64 4)).run Tryz.prog w= .ok (.pointer (some ⟨g,4,none⟩)) w:=by kernel_rfl
theorem six5 (g:Nat)(w:World):(Instr.index 155 (sixP g) (.int .i64 5)).run Tryz.prog w= .ok (.pointer (some ⟨g,5,none⟩)) w:=by kernel_rfl
set_option maxHeartbeats 4000000 in
theorem numbersOf_any (g:Nat)(w:World) :
  Calls Tryz.prog 76 #[.pointer (some ⟨g,0,none⟩)] w fun e w'=>e= .returned (sixP g)/\Below w.heap.size w w':=by
 go_enter Tryz.func76,Tryz.ntmps76
 go_wp2_with fail
 go_region
 all_goals (go_wp2_with fail)
 exact bodyPost_ret (v:=sixP g) (by simp [results,Tryz.results76,go_sem,sixP]) rfl ⟨rfl,((Below.refl _ _).alloc (Nat.le_refl _) _).drew⟩
theorem check_any (F:FlowD)(B:Nat)(la:Option Addr)(lc:Nat)(Na:Nat->Option Addr)(Nc:Nat->Nat)(w:World)(hn:F.n<=maxLen)(hT:TabIn w)(hg:2<w.heap.size)
  (h:CopyAt B w F (.slice la F.n lc) F.n Na Nc) :
  Calls Tryz.prog 74 #[flV F.dl (.slice la F.n lc)] w fun e w'=>CheckEnds F w w' e/\Below w.heap.size w w':=by
 by_cases ht:OkTop F
 ·rcases h.own.2 with⟨_,h2⟩ | ⟨g',cap,cur,h2,_⟩
  ·exact absurd h2 (by have:=ht.n1;omega)
  ·obtain⟨h7,_,h8⟩:la=some ⟨g',0,none⟩/\F.n=F.n/\lc=cap:=by simpa using h2
   subst h7 h8
   exact check_ok F g' 0 lc Na Nc w ht h.lt.2 hT hg h.node
 ·exact check_top F la lc w hn ht
def EncEnds (F:FlowD)(w w':World)(e:Ending):Prop :=
 (∃v,e= .returned (.tuple #[v, .nilIface])/\ChkIs F 0 (-1)/\ByteRow w.heap.size w' v (Zat F)) \/
 (∃(x y:Int) (q:Nat),e= .returned (.tuple #[.slice none 0 0, .iface 105 (.pointer (some ⟨q,0,none⟩))])/\x≠0/\ChkIs F x y/\w.heap.size<=q/\q<w'.heap.size/\FaultAt w' q x y)
theorem chk0 {F:FlowD}{a:Int}(h:ChkIs F 0 a):OkTop F/\∀i,i<F.n->NatNode F i:=by
 have hg:=h.good
 have ht:OkTop F:=by
  rcases h with⟨h,_⟩ | ⟨h,_⟩ | ⟨h,_⟩ | ⟨h,_⟩ | ⟨_,_,ht,_⟩
  ·exact absurd h (by decide)
  ·exact absurd h (by decide)
  ·exact absurd h (by decide)
  ·exact absurd h (by decide)
  ·exact ht
 exact⟨ht,fun i hi=>natNode ht (hg i hi).1 (hg i hi).2⟩
set_option maxHeartbeats 8000000 in
theorem fencode_any (F:FlowD)(B:Nat)(la:Option Addr)(lc:Nat)(Na:Nat->Option Addr)(Nc:Nat->Nat)(w:World)(hn:F.n<=maxLen)(hT:TabIn w)(hg:2<w.heap.size)
  (h:CopyAt B w F (.slice la F.n lc) F.n Na Nc) :
  Calls Tryz.prog 48 #[flV F.dl (.slice la F.n lc)] w fun e w'=>EncEnds F w w' e/\Below w.heap.size w w':=by
 have HC:=Hid.mk h
 have HT:=Hid.mk hT
 clear h hT
 go_enter Tryz.func48,Tryz.ntmps48
 have HB0:=Hid.mk (Box.start w F la lc)
 have hkb:Below w.heap.size w (w.alloc (.cells #[.int .i64 F.dl, .slice la F.n lc] 31)):=(Below.refl _ _).alloc (Nat.le_refl _) _
 go_wp2_with fail
 refine (check_any F B la lc Na Nc _ hn (HT.out.keep hg hkb) (by simp;omega) (HC.out.below hkb)).mono ?_
 rintro e w1 ⟨hce,hb1⟩
 have HB1:=Hid.mk (HB0.out.keep ((F8.of_below hb1 (Nat.le_refl _)).mono (by simp)))
 clear hkb
 rcases hce with⟨rfl,hchk⟩ | ⟨x,y,q,rfl,hx,hchk,hq1,hq2,hfa⟩
 case inr =>
  have HX:=Hid.mk hchk
  clear hb1 hchk
  go_wp2_with fail
  go_ret2
  exact⟨Or.inr ⟨x,y,q,rfl,hx,HX.out,by simp at hq1;omega,hq2,hfa⟩,HB1.out.f.bl⟩
 have HX:=Hid.mk hchk
 obtain⟨⟨t1,t2,t3,t4⟩,hok⟩:=chk0 hchk
 have HOK:=Hid.mk hok
 clear hb1 hchk hok
 obtain⟨g,rfl,hgw⟩:∃g,la=some ⟨g,0,none⟩/\g<w.heap.size:=by
  rcases HC.out.own.2 with⟨_,h2⟩ | ⟨g,cap,cur,h2,_,hh,_⟩
  ·omega
  ·obtain⟨h7,_,h8⟩:la=some ⟨g,0,none⟩/\F.n=F.n/\lc=cap:=by simpa using h2
   obtain⟨hlt,_⟩:=Array.getElem?_eq_some_iff.1 hh
   exact⟨g,h7,hlt⟩
 have HND:Hid (∀i,i<F.n->NodeAt w F i g (i * 7) (Na i) (Nc i)):=Hid.mk fun i hi=>by have:=HC.out.node i hi;rwa [Nat.zero_add] at this
 clear HC
 have hdl:∃x:Nat,F.dl=x/\x<=1048576/\F.dl.toNat=x:=⟨F.dl.toNat,by omega,by omega,rfl⟩
 obtain⟨xd,hxd,hxd2,hxd3⟩:=hdl
 have hld:=Zaw (n:=xd) (by omega)
 have hln:=Zaw (n:=F.n) (by omega)
 have d0:=Zai HB1.out.b 0
 have d1:=Zai HB1.out.b 1
 have hs1:=HB1.out.lt
 rw [hxd] at d0
 go_wp2_with fail
 refine (append2_any w.heap.size _ [] xd F.n _ (by omega) (by omega) (by simp) (by omega) (ByteRow.nil _ _)).mono ?_
 rintro e w2 ⟨v2,rfl,hr,hf⟩
 have HR2:Hid (ByteRow w.heap.size w2 v2 ((numL xd++numL F.n)++nodesB F 0)):=Hid.mk (by simpa [nodesB] using hr)
 have HB2:=Hid.mk (HB1.out.keep hf)
 clear hr hf d0 d1 hs1
 have d1:=Zai HB2.out.b 1
 go_wp2_with fail
 clear d1
 go_loopw [5,25] (fun vv iv wr=>∃k:Nat,iv= .int .i64 k/\k<=F.n/\ByteRow w.heap.size wr vv ((numL xd++numL F.n)++nodesB F k)/\Box w wr F (some ⟨g,0,none⟩) lc) (fun _ iv _=>F.n - (intOf iv).toNat)
 case atStart=>exact⟨0,rfl,by omega,HR2.out,HB2.out⟩
 case round =>
  obtain⟨k,rfl,hk,hrow,hbox⟩:=hrel
  rename World=>w3
  have HR3:=Hid.mk hrow
  have HB3:=Hid.mk hbox
  have hs3:=HB3.out.lt
  have hnl:=nodesB_len (F:=F) (k:=k) fun i hi=>HOK.out i (by omega)
  clear hrow hbox
  by_cases h1:k<F.n
  ·have hnn:=HOK.out k h1
   obtain⟨x0,hx0,hy0,hz0⟩:∃x:Nat,F.bu k=x/\x<=1048576/\(F.bu k).toNat=x:=⟨(F.bu k).toNat,hnn.bu.1,hnn.bu.2,rfl⟩
   have hl0:=Zaw (n:=x0) (by omega)
   obtain⟨x1,hx1,hy1,hz1⟩:∃x:Nat,F.cl k=x/\x<=1048576/\(F.cl k).toNat=x:=⟨(F.cl k).toNat,hnn.cl.1,hnn.cl.2,rfl⟩
   have hl1:=Zaw (n:=x1) (by omega)
   obtain⟨x2,hx2,hy2,hz2⟩:∃x:Nat,F.be k=x/\x<=1048576/\(F.be k).toNat=x:=⟨(F.be k).toNat,hnn.be.1,hnn.be.2,rfl⟩
   have hl2:=Zaw (n:=x2) (by omega)
   obtain⟨x3,hx3,hy3,hz3⟩:∃x:Nat,F.ba k=x/\x<=1048576/\(F.ba k).toNat=x:=⟨(F.ba k).toNat,hnn.ba.1,hnn.ba.2,rfl⟩
   have hl3:=Zaw (n:=x3) (by omega)
   obtain⟨x4,hx4,hy4,hz4⟩:∃x:Nat,F.ca k=x/\x<=1048576/\(F.ca k).toNat=x:=⟨(F.ca k).toNat,hnn.ca.1,hnn.ca.2,rfl⟩
   have hl4:=Zaw (n:=x4) (by omega)
   obtain⟨x5,hx5,hy5,hz5⟩:∃x:Nat,F.ji k=x/\x<=1048576/\(F.ji k).toNat=x:=⟨(F.ji k).toNat,hnn.ji.1,hnn.ji.2,rfl⟩
   have hl5:=Zaw (n:=x5) (by omega)
   have ha12:=hnn.an
   have hl6:=Zaw (n:=F.an k) (by omega)
   obtain⟨n0,n1,n2,n3,n4,n5,n6,ni⟩:=(HND.out k h1).keep hgw HB3.out.f.bl
   have HNI:=Hid.mk ((HND.out k h1).ints)
   have HNN:=Hid.mk hnn
   clear hnn ni
   rw [hx0] at n0
   rw [hx1] at n1
   rw [hx2] at n2
   rw [hx3] at n3
   rw [hx4] at n4
   rw [hx5] at n5
   have HN3:Hid (NodeBox (w3.alloc (.cells #[.int .i64 x0, .int .i64 x1, .int .i64 x2, .int .i64 x3, .int .i64 x4, .int .i64 x5, .slice (Na k) (F.an k) (Nc k)] 34)) w3.heap.size F k (Na k) (Nc k)):=Hid.mk (by
    unfold NodeBox nodeL
    rw [hx0,hx1,hx2,hx3,hx4,hx5]
    exact heap_alloc_new _ _)
   have HF3:Hid (∀ob,F8 w.heap.size w3 (w3.alloc ob)):=Hid.mk fun ob=>(F8.refl _ _).alloc (by omega) _
   have HR30:Hid (∀ob,ByteRow w.heap.size (w3.alloc ob) _ _):=Hid.mk fun ob=>HR3.out.below ((Below.refl _ _).alloc (Nat.le_refl _) _)
   go_wp2_with fail
   refine (numbersOf_any w3.heap.size _).mono ?_
   rintro e w4 ⟨rfl,hb4⟩
   have hf:=F8.of_below hb4 (B:=w.heap.size) (by simp;omega)
   have HR4:=Hid.mk ((HR30.out _).below hb4)
   have HB4:=Hid.mk ((HB3.out.keep (HF3.out _)).keep hf)
   have HN4:=Hid.mk (HN3.out.keep hf)
   have hs4:=HB4.out.lt
   obtain⟨q0,q1,q2,q3,q4,q5,q6⟩:=HN4.out.cells
   rw [hx0] at q0
   clear hb4 hf n0 n1 n2 n3 n4 n5 n6 q1 q2 q3 q4 q5 q6
   have i0:=six0 w3.heap.size
   have i1:=six1 w3.heap.size
   have i2:=six2 w3.heap.size
   have i3:=six3 w3.heap.size
   have i4:=six4 w3.heap.size
   have i5:=six5 w3.heap.size
   generalize sixP w3.heap.size=pv at i0 i1 i2 i3 i4 i5
   go_wp2_with fail
   refine wp_loop_rounds 7 ?_
   rw [rounds_succ]
   go_wp2_with fail
   refine (Zb8 w.heap.size _ _ x0 _ (by omega) (by simp only [List.length_append];omega) (by omega) HR4.out).mono ?_
   rintro e w5 ⟨v5,rfl,hr,hf⟩
   have HR5:=Hid.mk hr
   have HB5:=Hid.mk (HB4.out.keep hf)
   have HN5:=Hid.mk (HN4.out.keep hf)
   have hs5:=HB5.out.lt
   clear hr hf q0
   obtain⟨q0,q1,q2,q3,q4,q5,q6⟩:=HN5.out.cells
   rw [hx1] at q1
   clear q0 q2 q3 q4 q5 q6
   go_wp2_with fail
   rw [rounds_succ]
   go_wp2_with fail
   refine (Zb8 w.heap.size _ _ x1 _ (by omega) (by simp only [List.length_append];omega) (by omega) HR5.out).mono ?_
   rintro e w6 ⟨v6,rfl,hr,hf⟩
   have HR6:=Hid.mk hr
   have HB6:=Hid.mk (HB5.out.keep hf)
   have HN6:=Hid.mk (HN5.out.keep hf)
   have hs6:=HB6.out.lt
   clear hr hf q1
   obtain⟨q0,q1,q2,q3,q4,q5,q6⟩:=HN6.out.cells
   rw [hx2] at q2
   clear q0 q1 q3 q4 q5 q6
   go_wp2_with fail
   rw [rounds_succ]
   go_wp2_with fail
   refine (Zb8 w.heap.size _ _ x2 _ (by omega) (by simp only [List.length_append];omega) (by omega) HR6.out).mono ?_
   rintro e w7 ⟨v7,rfl,hr,hf⟩
   have HR7:=Hid.mk hr
   have HB7:=Hid.mk (HB6.out.keep hf)
   have HN7:=Hid.mk (HN6.out.keep hf)
   have hs7:=HB7.out.lt
   clear hr hf q2
   obtain⟨q0,q1,q2,q3,q4,q5,q6⟩:=HN7.out.cells
   rw [hx3] at q3
   clear q0 q1 q2 q4 q5 q6
   go_wp2_with fail
   rw [rounds_succ]
   go_wp2_with fail
   refine (Zb8 w.heap.size _ _ x3 _ (by omega) (by simp only [List.length_append];omega) (by omega) HR7.out).mono ?_
   rintro e w8 ⟨v8,rfl,hr,hf⟩
   have HR8:=Hid.mk hr
   have HB8:=Hid.mk (HB7.out.keep hf)
   have HN8:=Hid.mk (HN7.out.keep hf)
   have hs8:=HB8.out.lt
   clear hr hf q3
   obtain⟨q0,q1,q2,q3,q4,q5,q6⟩:=HN8.out.cells
   rw [hx4] at q4
   clear q0 q1 q2 q3 q5 q6
   go_wp2_with fail
   rw [rounds_succ]
   go_wp2_with fail
   refine (Zb8 w.heap.size _ _ x4 _ (by omega) (by simp only [List.length_append];omega) (by omega) HR8.out).mono ?_
   rintro e w9 ⟨v9,rfl,hr,hf⟩
   have HR9:=Hid.mk hr
   have HB9:=Hid.mk (HB8.out.keep hf)
   have HN9:=Hid.mk (HN8.out.keep hf)
   have hs9:=HB9.out.lt
   clear hr hf q4
   obtain⟨q0,q1,q2,q3,q4,q5,q6⟩:=HN9.out.cells
   rw [hx5] at q5
   clear q0 q1 q2 q3 q4 q6
   go_wp2_with fail
   rw [rounds_succ]
   go_wp2_with fail
   refine (Zb8 w.heap.size _ _ x5 _ (by omega) (by simp only [List.length_append];omega) (by omega) HR9.out).mono ?_
   rintro e w10 ⟨v10,rfl,hr,hf⟩
   have HR10:=Hid.mk hr
   have HB10:=Hid.mk (HB9.out.keep hf)
   have HN10:=Hid.mk (HN9.out.keep hf)
   have hs10:=HB10.out.lt
   clear hr hf q5
   obtain⟨q0,q1,q2,q3,q4,q5,q6⟩:=HN10.out.cells
   clear q0 q1 q2 q3 q4 q5
   go_wp2_with fail
   rw [rounds_succ]
   go_wp2_with fail
   refine (Zb8 w.heap.size _ _ (F.an k) _ (by omega) (by simp only [List.length_append];omega) (by omega) HR10.out).mono ?_
   rintro e w11 ⟨v11,rfl,hr,hf⟩
   have HR11:=Hid.mk hr
   have HB11:=Hid.mk (HB10.out.keep hf)
   have HN11:=Hid.mk (HN10.out.keep hf)
   have hs11:=HB11.out.lt
   clear hr hf q6
   obtain⟨q0,q1,q2,q3,q4,q5,q6⟩:=HN11.out.cells
   clear q0 q1 q2 q3 q4 q5
   go_wp2_with fail
   refine (append_any w.heap.size _ _ (fun m=>(F.af k m).toNat) (F.af k) _ _ _ _ (fun m hm=>(HNN.out.af m hm).1) (fun m hm=>by have:=(HNN.out.af m hm).2;omega) (by omega) (by simp only [List.length_append];omega) (by omega) HR11.out (fun w' hf=>HNI.out.keep (HB11.out.f.bl.trans hf.bl))).mono ?_
   rintro e w12 ⟨v12,rfl,hr,hf⟩
   have HR12:=Hid.mk hr
   have HB12:=Hid.mk (HB11.out.keep hf)
   clear hr hf q6
   go_wp2_with fail
   go_roundw
   case rel =>
    refine⟨k+1,by go_num,by omega,?_,HB12.out⟩
    have:=HR12.out
    simp only [nodesB,nodeB,hz0,hz1,hz2,hz3,hz4,hz5]
    simp only [List.append_assoc] at this ⊢
    exact this
   case measure=>simp [intOf];omega
  ·obtain rfl:k=F.n:=by omega
   go_wp2_with fail
   go_ret2
   exact⟨Or.inl ⟨_,rfl,HX.out,by rw [Zat,hxd3];exact HR3.out⟩,HB3.out.f.bl⟩
end Go.Proofs.YtgdcjccbdmcebabGreatDoor
