import Derived.Test.YtgdcjccbdmcebabGreatDoorM01
import Derived.Laws.Bits64b
import Derived.Lib.TrailingZeros
set_option linter.unusedSimpArgs false
set_option linter.unusedVariables false
namespace Go.Proofs.YtgdcjccbdmcebabGreatDoor
open Go.RowKit
abbrev ndV (bu cl be ba ca ji:Int)(af:Value):Value:= .agg #[.int .i64 bu, .int .i64 cl, .int .i64 be, .int .i64 ba, .int .i64 ca, .int .i64 ji,af]
def satI (n:Int):Int:=min (2 * n) 9223372036854775807
set_option maxHeartbeats 400000 in
theorem twice_any (n:Int)(w:World)(h:0<=n)(h2:n<=9223372036854775807) :
  Calls Tryz.prog 153 #[.int .i64 n] w fun e w'=>e= .returned (.int .i64 (satI n))/\w'=w:=by
 by_cases h1:4611686018427387903<n
 ·go_enter Tryz.func153,Tryz.ntmps153
  go_wp2
  go_ret
  exact⟨ri (by unfold satI;omega),rfl⟩
 ·go_enter Tryz.func153,Tryz.ntmps153
  go_wp2
  go_ret
  exact⟨ri (by unfold satI;omega),rfl⟩
set_option maxHeartbeats 400000 in
theorem remainder_any (s j:Int)(w:World)(hs:0<=s)(hs2:s<=18446744073709551615)(hj:0<=j)(hj2:j<=1048576) :
  Calls Tryz.prog 154 #[.int .u64 s, .int .i64 j] w fun e w'=>e= .returned (.int .i64 (s % (j+1)))/\w'=w:=by
 have hd0:0<=s % (j+1):=Int.emod_nonneg _ (by omega)
 have hd1:s % (j+1)<j+1:=Int.emod_lt_of_pos _ (by omega)
 go_enter Tryz.func154,Tryz.ntmps154
 go_wp2
 go_ret
 exact⟨rfl,rfl⟩
def satP (b:Int)(m:Nat):Int:=min (pw b m) 9223372036854775807
theorem satP_zero (b:Int)(h:b<=1048576):satP b 0=b:=by unfold satP;rw [pw_zero];omega
theorem satP_succ (b:Int)(hb:1<=b)(m:Nat):satI (satP b m)=satP b (m+1):=by have:=pw_pos b hb m;unfold satI satP;rw [pw_succ];omega
theorem satP_bd (b:Int)(hb:1<=b)(m:Nat):1<=satP b m/\satP b m<=9223372036854775807:=by have:=pw_pos b hb m;unfold satP;omega
theorem satP_end (b c k:Int)(m:Nat)(hb:1<=b)(hc:c<=1048576)(hm:(m:Int)=min (max k 1) 64 - 1):min (satP b m) c=min (pw b (k - 1).toNat) c:=by
 have key:min (pw b (k - 1).toNat) c=min (pw b m) c:=by
  by_cases h:k<=64
  ·exact rest_at b c k m hb (by omega) (Or.inl (by omega))
  ·have e:m=63:=by omega
   subst e
   refine rest_at b c k 63 hb (Or.inl (by omega)) (Or.inr ?_)
   have:=pw_mono b hb 40 63 (by omega)
   have h2:=pw_ge b hb 40
   have e2:((2 ^ 40:Nat):Int)=1099511627776:=by decide
   omega
 rw [key]
 unfold satP
 omega
set_option maxHeartbeats 1000000 in
theorem rest_any (bu cl be ba ca ji k s:Int)(af:Value)(w:World)(hb:1<=ba)(hb2:ba<=1048576)(hc:ba<=ca)(hc2:ca<=1048576)(hj:0<=ji)(hj2:ji<=1048576)
  (hk: -9223372036854775808<=k) (hk2:k<=9223372036854775807) (hs:0<=s) (hs2:s<=18446744073709551615) :
  Calls Tryz.prog 106 #[ndV bu cl be ba ca ji af, .int .i64 k, .int .u64 s] w fun e w'=>e= .returned (.int .i64 (Zdt ba ca ji k s))/\Below w.heap.size w w':=by
 go_enter Tryz.func106,Tryz.ntmps106
 go_wp2_with fail
 all_goals
  go_loop [7,15] (fun wt i=>∃m:Nat,i= .int .i64 m/\(m:Int)<=min (max k 1) 64 - 1/\wt= .int .i64 (satP ba m)) (fun _ i=>(64 - intOf i).toNat)
  case atStart=>exact⟨0,rfl,by omega,by rw [satP_zero _ hb2]⟩
  case round =>
   obtain⟨m,rfl,hm,rfl⟩:=hrel
   have hp:=satP_bd ba hb m
   obtain⟨hp1,hp2⟩:=hp
   have hd0:0<=s % (ji+1):=Int.emod_nonneg _ (by omega)
   have hd1:s % (ji+1)<ji+1:=Int.emod_lt_of_pos _ (by omega)
   by_cases h1:(m:Int)<min (max k 1) 64 - 1
   ·first
     | (exfalso;omega)
     | (have HS:=Hid.mk (satP_succ ba hb m)
        go_wp2_with (go_at_call 153;refine (twice_any _ _ (by omega) (by omega)).mono ?_;rintro e w' ⟨rfl,rfl⟩)
        go_round
        case rel=>exact⟨m+1,by go_num,by omega,by rw [HS.out]⟩
        case measure=>simp [intOf];omega)
   ·have key:=Hid.mk (satP_end ba ca k m hb hc2 (by omega))
    go_wp2_with (go_at_call 154;refine (remainder_any _ _ _ (by omega) (by omega) (by omega) (by omega)).mono ?_;rintro e w' ⟨rfl,rfl⟩)
    all_goals go_ret
    all_goals exact⟨ri (by unfold Zdt;rw [<-key.out];omega),(Below.refl _ _).alloc (Nat.le_refl _) _⟩
def IntsAt (w:World)(a:Option Addr)(n cap:Nat)(f:Nat->Int):Prop :=
 n=0\/(∃b o,a=some ⟨b,o,none⟩/\n<=cap/\cap<=maxLen/\b<w.heap.size/\∀k,k<n->w.cell? ⟨b,o+k,none⟩=some (.int .i64 (f k)))
structure NodeAt (w:World)(F:FlowD)(i b o:Nat)(a:Option Addr)(c:Nat):Prop where
 bu:w.cell? ⟨b,o,none⟩=some (.int .i64 (F.bu i))
 cl:w.cell? ⟨b,o+1,none⟩=some (.int .i64 (F.cl i))
 be:w.cell? ⟨b,o+2,none⟩=some (.int .i64 (F.be i))
 ba:w.cell? ⟨b,o+3,none⟩=some (.int .i64 (F.ba i))
 ca:w.cell? ⟨b,o+4,none⟩=some (.int .i64 (F.ca i))
 ji:w.cell? ⟨b,o+5,none⟩=some (.int .i64 (F.ji i))
 af:w.cell? ⟨b,o+6,none⟩=some (.slice a (F.an i) c)
 ints:IntsAt w a (F.an i) c (F.af i)
def NodesAt (w:World)(a:Option Addr)(cap:Nat)(F:FlowD)(Aa:Nat->Option Addr)(Ac:Nat->Nat):Prop :=
 F.n=0\/(∃b o,a=some ⟨b,o,none⟩/\F.n<=cap/\cap<=maxLen/\b<w.heap.size/\∀i,i<F.n->NodeAt w F i b (o+i * 7) (Aa i) (Ac i))
theorem IntsAt.keep {w w':World}{a:Option Addr}{n cap:Nat}{f:Nat->Int}(h:IntsAt w a n cap f)(hb:Below w.heap.size w w'):IntsAt w' a n cap f:=by
 rcases h with h | ⟨b,o,h1,h2,h3,h4,h5⟩
 ·exact Or.inl h
 ·exact Or.inr ⟨b,o,h1,h2,h3,Nat.lt_of_lt_of_le h4 hb.size,fun k hk=>(hb.cell (p:=⟨b,o+k,none⟩) h4).trans (h5 k hk)⟩
theorem NodeAt.keep {w w':World}{F:FlowD}{i b o:Nat}{a:Option Addr}{c:Nat}(h:NodeAt w F i b o a c)(h4:b<w.heap.size)(hb:Below w.heap.size w w'):NodeAt w' F i b o a c :=
 ⟨(hb.cell (p:=⟨b,o,none⟩) h4).trans h.bu,(hb.cell (p:=⟨b,o+1,none⟩) h4).trans h.cl,(hb.cell (p:=⟨b,o+2,none⟩) h4).trans h.be,(hb.cell (p:=⟨b,o+3,none⟩) h4).trans h.ba,
  (hb.cell (p:=⟨b,o+4,none⟩) h4).trans h.ca,(hb.cell (p:=⟨b,o+5,none⟩) h4).trans h.ji,(hb.cell (p:=⟨b,o+6,none⟩) h4).trans h.af,h.ints.keep hb⟩
theorem NodesAt.keep {w w':World}{a:Option Addr}{cap:Nat}{F:FlowD}{Aa:Nat->Option Addr}{Ac:Nat->Nat}(h:NodesAt w a cap F Aa Ac)(hb:Below w.heap.size w w'):NodesAt w' a cap F Aa Ac:=by
 rcases h with h | ⟨b,o,h1,h2,h3,h4,h5⟩
 ·exact Or.inl h
 ·exact Or.inr ⟨b,o,h1,h2,h3,Nat.lt_of_lt_of_le h4 hb.size,fun i hi=>(h5 i hi).keep h4 hb⟩
abbrev flV (dl:Int)(v:Value):Value:= .agg #[.int .i64 dl,v]
def nodeL (F:FlowD)(i:Nat)(a:Option Addr)(c:Nat):List Value :=
 [.int .i64 (F.bu i), .int .i64 (F.cl i), .int .i64 (F.be i), .int .i64 (F.ba i), .int .i64 (F.ca i), .int .i64 (F.ji i), .slice a (F.an i) c]
def Zca (F:FlowD)(Na:Nat->Option Addr)(Nc:Nat->Nat):Nat->List Value
 | 0=>[]
 | k+1=>Zca F Na Nc k++nodeL F k (Na k) (Nc k)
def Zc5 (n:Nat)(f:Nat->Int):List Value:=(List.range n).map fun k=> .int .i64 (f k)
theorem Zd1 (F:FlowD)(Na:Nat->Option Addr)(Nc:Nat->Nat)(k:Nat):(Zca F Na Nc k).length=k * 7:=by
 induction k with
 | zero=>rfl
 | succ k ih=>simp only [Zca,List.length_append,ih,nodeL,List.length_cons,List.length_nil];omega
theorem nodesL_congr {F:FlowD}{Na Na':Nat->Option Addr}{Nc Nc':Nat->Nat}{k:Nat}(h:∀i,i<k->Na i=Na' i/\Nc i=Nc' i):Zca F Na Nc k=Zca F Na' Nc' k:=by
 induction k with
 | zero=>rfl
 | succ k ih=>simp only [Zca];rw [ih fun i hi=>h i (by omega),(h k (by omega)).1,(h k (by omega)).2]
theorem nodesL_at (F:FlowD)(Na:Nat->Option Addr)(Nc:Nat->Nat)(k i j:Nat)(hi:i<k)(hj:j<7):(Zca F Na Nc k)[i * 7+j]? =(nodeL F i (Na i) (Nc i))[j]? :=by
 induction k with
 | zero=>omega
 | succ k ih =>
  simp only [Zca]
  by_cases e:i=k
  ·subst e
   rw [List.getElem?_append_right (by rw [Zd1];omega),Zd1]
   congr 1
   omega
  ·rw [List.getElem?_append_left (by rw [Zd1];omega)]
   exact ih (by omega)
theorem intsL_length (n:Nat)(f:Nat->Int):(Zc5 n f).length=n:=by simp [Zc5]
theorem intsL_at (n:Nat)(f:Nat->Int)(k:Nat)(h:k<n):(Zc5 n f)[k]? =some (.int .i64 (f k)):=by simp [Zc5,h]
structure CopyAt (B:Nat)(w:World)(F:FlowD)(v:Value)(k:Nat)(Na:Nat->Option Addr)(Nc:Nat->Nat):Prop where
 own:w.ownsRow B 34 7 v k (Zca F Na Nc k)
 aft:∀i,i<k->w.ownsRow B 3 1 (.slice (Na i) (F.an i) (Nc i)) (F.an i) (Zc5 (F.an i) (F.af i))
theorem CopyAt.below {B:Nat}{w w':World}{F:FlowD}{v:Value}{k:Nat}{Na:Nat->Option Addr}{Nc:Nat->Nat}(h:CopyAt B w F v k Na Nc)(hb:Below w.heap.size w w'):CopyAt B w' F v k Na Nc :=
 ⟨Zah h.own hb,fun i hi=>Zah (h.aft i hi) hb⟩
theorem own_apart {w:World}{B:Nat}{e e':TypeId}{size size' n n':Nat}{v v':Value}{xs xs':List Value}(h:w.ownsRow B e size v n xs)(h':w.ownsRow B e' size' v' n' xs')(he:e≠e'):v.ownBlock=none\/v.ownBlock≠v'.ownBlock:=by
 rcases h.2 with⟨rfl,rfl⟩ | ⟨g,cap,cur,rfl,hg,hh,_⟩
 ·exact Or.inl rfl
 ·right
  rcases h'.2 with⟨rfl,rfl⟩ | ⟨g',cap',cur',rfl,hg',hh',_⟩
  ·simp [Value.ownBlock]
  ·intro e2
   simp only [Value.ownBlock,Option.some.injEq] at e2
   subst e2
   rw [hh] at hh'
   simp only [Option.some.injEq,Obj.cells.injEq] at hh'
   exact he hh'.2.1
theorem ints_of_own {w:World}{B n c:Nat}{a:Option Addr}{f:Nat->Int}(h:w.ownsRow B 3 1 (.slice a n c) n (Zc5 n f)):IntsAt w a n c f:=by
 by_cases hn:n=0
 ·exact Or.inl hn
 ·rcases h.2 with⟨_,h2⟩ | ⟨g,cap,cur,h2,hg,hh,h3,h4,h5,h6⟩
  ·exact absurd h2 hn
  ·obtain⟨h7,_,h8⟩:a=some ⟨g,0,none⟩/\n=n/\c=cap:=by simpa using h2
   subst h7 h8
   obtain⟨hlt,_⟩:=Array.getElem?_eq_some_iff.1 hh
   refine Or.inr ⟨g,0,rfl,h3,h4,hlt,fun k hk=> ?_⟩
   have:=h.cellAt k (by omega)
   rw [Nat.zero_add,this,intsL_at n f k hk]
theorem CopyAt.node {B:Nat}{w:World}{F:FlowD}{g cap k:Nat}{Na:Nat->Option Addr}{Nc:Nat->Nat}(h:CopyAt B w F (.slice (some ⟨g,0,none⟩) k cap) k Na Nc):∀i,i<k->NodeAt w F i g (0+i * 7) (Na i) (Nc i):=by
 intro i hi
 have key:∀j,j<7->w.cell? ⟨g,0+i * 7+j,none⟩=(nodeL F i (Na i) (Nc i))[j]? :=fun j hj=>by
  have:=h.own.cellAt (i * 7+j) (by omega)
  rw [Nat.zero_add,this,nodesL_at F Na Nc k i j hi hj]
 exact⟨key 0 (by omega),key 1 (by omega),key 2 (by omega),key 3 (by omega),key 4 (by omega),key 5 (by omega),key 6 (by omega),ints_of_own (h.aft i hi)⟩
theorem CopyAt.lt {B:Nat}{w:World}{F:FlowD}{g cap k:Nat}{Na:Nat->Option Addr}{Nc:Nat->Nat}(h:CopyAt B w F (.slice (some ⟨g,0,none⟩) k cap) k Na Nc):B<=g/\g<w.heap.size:=h.own.lt g rfl
theorem CopyAt.more {B:Nat}{w w1 w2:World}{F:FlowD}{v v':Value}{k:Nat}{Na:Nat->Option Addr}{Nc:Nat->Nat}{a:Option Addr}{c:Nat}(h:CopyAt B w F v k Na Nc)(h1:w1.ownsRow B 3 1 (.slice a (F.an k) c) (F.an k) (Zc5 (F.an k) (F.af k)))
  (hb:Below w.heap.size w w1) (hown:w2.ownsRow B 34 7 v' (k+1) (Zca F Na Nc k++nodeL F k a c)) (hg:w1.grownBy w2 v.ownBlock) :
  CopyAt B w2 F v' (k+1) (fun i=>if i=k then a else Na i) (fun i=>if i=k then c else Nc i):=by
 have hown1:=Zah h.own hb
 constructor
 ·have e:Zca F (fun i=>if i=k then a else Na i) (fun i=>if i=k then c else Nc i) (k+1)=Zca F Na Nc k++nodeL F k a c:=by
   simp only [Zca,if_true]
   congr 1
   exact nodesL_congr fun i hi=>⟨if_neg (by omega),if_neg (by omega)⟩
  rw [e]
  exact hown
 ·intro i hi
  by_cases e:i=k
  ·subst e
   simp only [if_true]
   exact h1.kept hg (own_apart h1 hown1 (by decide))
  ·simp only [e,if_false]
   have h3:=Zah (h.aft i (by omega)) hb
   exact h3.kept hg (own_apart h3 hown1 (by decide))
structure Own4 (w wr:World)(F:FlowD)(a:Option Addr)(cap:Nat):Prop where
 bA:wr.heap[w.heap.size]? =some (.cells #[.int .i64 F.dl, .slice a F.n cap] 31 (0,0))
 bB:wr.heap[w.heap.size+1]? =some (.cells #[.int .i64 0, .slice none 0 0] 31 (0,0))
 sz:w.heap.size+1<wr.heap.size
 bl:Below w.heap.size w wr
theorem Own4.keep {w wr wx:World}{F:FlowD}{a:Option Addr}{cap:Nat}(h:Own4 w wr F a cap)(hb:Below (w.heap.size+2) wr wx):Own4 w wx F a cap :=
 ⟨(hb.block _ (by omega)).trans h.bA,(hb.block _ (by omega)).trans h.bB,Nat.lt_of_lt_of_le h.sz hb.size,h.bl.trans (hb.mono (by omega))⟩
theorem Own4.start (w:World)(F:FlowD)(a:Option Addr)(cap:Nat):Own4 w ((w.alloc (.cells #[.int .i64 F.dl, .slice a F.n cap] 31)).alloc (.cells #[.int .i64 0, .slice none 0 0] 31)) F a cap :=
 ⟨heap_alloc2_old _ _ _,heap_alloc2_new _ _ _,by simp,((Below.refl _ _).alloc (Nat.le_refl _) _).alloc (by simp) _⟩
theorem Zai {w:World}{g:Nat}{cs:Array Value}{t:TypeId}(h:w.heap[g]? =some (.cells cs t (0,0)))(j:Nat):w.cell? ⟨g,j,none⟩=cs[j]? :=cell_of_row w g j cs t (0,0) h
theorem Zdr {w:World}{g:Nat}{cs:Array Value}{t:TypeId}(h:w.heap[g]? =some (.cells cs t (0,0)))(j:Nat):w.frozen? ⟨g,j,none⟩=false:=frozen_of_row w g j cs t h
theorem copy_step1 {w w1 w2:World}{F:FlowD}{lv v1:Value}{k:Nat}{Na:Nat->Option Addr}{Nc:Nat->Nat}{a0:Option Addr}{c0:Nat}(hcopy:CopyAt (w.heap.size+2) w1 F lv k Na Nc)
  (hown1:w2.ownsRow (w.heap.size+2) 3 1 v1 (0+F.an k) ([]++Zc5 (F.an k) (F.af k)))
  (hgrow1:(w1.alloc (.cells #[.int .i64 (F.bu k), .int .i64 (F.cl k), .int .i64 (F.be k), .int .i64 (F.ba k), .int .i64 (F.ca k), .int .i64 (F.ji k), .slice a0 (F.an k) c0] 34)).grownBy w2 none) :
  ∃na nc,v1= .slice na (F.an k) nc/\w1.heap.size<w2.heap.size/\w2.heap[w1.heap.size]? =some (.cells #[.int .i64 (F.bu k), .int .i64 (F.cl k), .int .i64 (F.be k), .int .i64 (F.ba k), .int .i64 (F.ca k), .int .i64 (F.ji k), .slice a0 (F.an k) c0] 34 (0,0)) /\
   (∀x o,((w2.setCell ⟨w1.heap.size,6,none⟩ x).alloc o).ownsRow (w.heap.size+2) 34 7 lv k (Zca F Na Nc k)) /\
   (∀x o,((w2.setCell ⟨w1.heap.size,6,none⟩ x).alloc o).ownsRow (w.heap.size+2) 3 1 (.slice na (F.an k) nc) (F.an k) (Zc5 (F.an k) (F.af k))) /\
   (∀x o,Below w1.heap.size w1 ((w2.setCell ⟨w1.heap.size,6,none⟩ x).alloc o)):=by
 rw [Nat.zero_add,List.nil_append] at hown1
 obtain⟨na,nc,rfl⟩:=Za3 hown1
 have hsz2:w1.heap.size<w2.heap.size:=by have:=hgrow1.size;simp at this;omega
 have hblk:w2.heap[w1.heap.size]? =some (.cells #[.int .i64 (F.bu k), .int .i64 (F.cl k), .int .i64 (F.be k), .int .i64 (F.ba k), .int .i64 (F.ca k), .int .i64 (F.ji k), .slice a0 (F.an k) c0] 34 (0,0)) :=
  (hgrow1.block _ (by simp) (by simp)).trans (heap_alloc_new _ _)
 have hb12:Below w1.heap.size w1 w2:=((Below.refl _ _).alloc (Nat.le_refl _) _).grown hgrow1 (by simp) (fun k h=>by cases h)
 have hb13:∀x o,Below w1.heap.size w1 ((w2.setCell ⟨w1.heap.size,6,none⟩ x).alloc o):=fun x o=>(hb12.setCell (by simp) x).alloc (by simp [World.setCell];omega) o
 refine⟨na,nc,rfl,hsz2,hblk,fun x o=>Zah hcopy.own (hb13 x o),fun x o=> ?_,hb13⟩
 refine (ownsRow_setCell_other hown1 (fun e=> ?_) x).alloc o
 rcases hown1.2 with⟨h,_⟩ | ⟨g,cap,cur,h,hg,hh,_⟩
 ·rw [h] at e;simp [Value.ownBlock] at e
 ·rw [h] at e
  simp only [Value.ownBlock,Option.some.injEq] at e
  rw [e,hblk] at hh
  simp only [Option.some.injEq,Obj.cells.injEq] at hh
  exact absurd hh.2.1 (by decide)
theorem copy_step2 {w w1 w4 w3:World}{F:FlowD}{lv v2:Value}{b o cap k:Nat}{Na:Nat->Option Addr}{Nc:Nat->Nat}{na:Option Addr}{nc:Nat}(hcopy:CopyAt (w.heap.size+2) w1 F lv k Na Nc)(hown:Own4 w w1 F (some ⟨b,o,none⟩) cap)
  (hints:w4.ownsRow (w.heap.size+2) 3 1 (.slice na (F.an k) nc) (F.an k) (Zc5 (F.an k) (F.af k))) (hb:Below w1.heap.size w1 w4)
  (hown2:w3.ownsRow (w.heap.size+2) 34 7 v2 (k+1) (Zca F Na Nc k++nodeL F k na nc)) (hgrow2:w4.grownBy w3 lv.ownBlock) :
  ∃(la:Option Addr) (lc:Nat) (Na':Nat->Option Addr) (Nc':Nat->Nat),v2= .slice la (k+1) lc/\CopyAt (w.heap.size+2) w3 F (.slice la (k+1) lc) (k+1) Na' Nc'/\Own4 w w3 F (some ⟨b,o,none⟩) cap:=by
 have hc:=hcopy.more hints hb hown2 hgrow2
 obtain⟨la,lc,rfl⟩:=Za3 hown2
 refine⟨la,lc,_,_,rfl,hc,hown.keep ?_⟩
 have h2:=hown.sz
 have h3:=hb.size
 refine (hb.mono (by omega)).grown hgrow2 (by omega) fun g hg=> ?_
 exact (hcopy.own.lt g hg).1
def ChkIs (F:FlowD)(e a:Int):Prop :=
 (e=2/\a= -1/\¬OkTop F) \/
 (e=2/\OkTop F/\∃i,i<F.n/\a=(i:Int)/\(∀j,j<i->OkNode F j/\OkEdges F j)/\¬OkNode F i) \/
 (e=3/\OkTop F/\∃i,i<F.n/\a=(i:Int)/\(∀j,j<i->OkNode F j/\OkEdges F j)/\OkNode F i/\¬OkEdges F i) \/
 (e=4/\OkTop F/\(∀j,j<F.n->OkNode F j/\OkEdges F j)/\∃i,i<F.n/\a=(i:Int)/\¬Gone F i/\∀j,j<i->Gone F j) \/
 (e=0/\a= -1/\OkTop F/\(∀j,j<F.n->OkNode F j/\OkEdges F j)/\∀i,i<F.n->Gone F i)
theorem first_bad {P:Nat->Prop}{i j:Nat}(h1:∀k,k<i->P k)(h2:¬P i)(h3:∀k,k<j->P k)(h4:¬P j):i=j:=by
 rcases Nat.lt_trichotomy i j with h | h | h
 ·exact absurd (h3 i h) h2
 ·exact h
 ·exact absurd (h1 j h) h4
theorem ChkIs.one {F:FlowD}{e a e' a':Int}(h:ChkIs F e a)(h':ChkIs F e' a'):e=e'/\a=a':=by
 have key:∀{i j:Nat},(∀k,k<i->OkNode F k/\OkEdges F k)->¬(OkNode F i/\OkEdges F i)->(∀k,k<j->OkNode F k/\OkEdges F k)->¬(OkNode F j/\OkEdges F j)->i=j:=fun a b c d=>first_bad a b c d
 rcases h with⟨rfl,rfl,ht⟩ | ⟨rfl,ht,i,hi,rfl,hj,hk⟩ | ⟨rfl,ht,i,hi,rfl,hj,hk,hl⟩ | ⟨rfl,ht,hall,i,hi,rfl,hj,hk⟩ | ⟨rfl,rfl,ht,hall,hg⟩ <;>
 rcases h' with⟨rfl,rfl,ht'⟩ | ⟨rfl,ht',i',hi',rfl,hj',hk'⟩ | ⟨rfl,ht',i',hi',rfl,hj',hk',hl'⟩ | ⟨rfl,ht',hall',i',hi',rfl,hj',hk'⟩ | ⟨rfl,rfl,ht',hall',hg'⟩
 case inl.inl=>exact⟨rfl,rfl⟩
 case inr.inl.inr.inl=>obtain rfl:=key hj (fun x=>hk x.1) hj' (fun x=>hk' x.1);exact⟨rfl,rfl⟩
 case inr.inl.inr.inr.inl=>obtain rfl:=key hj (fun x=>hk x.1) hj' (fun x=>hl' x.2);exact absurd hk' hk
 case inr.inr.inl.inr.inl=>obtain rfl:=key hj (fun x=>hl x.2) hj' (fun x=>hk' x.1);exact absurd hk hk'
 case inr.inr.inl.inr.inr.inl=>obtain rfl:=key hj (fun x=>hl x.2) hj' (fun x=>hl' x.2);exact⟨rfl,rfl⟩
 case inr.inr.inr.inl.inr.inr.inr.inl=>obtain rfl:=first_bad hk hj hk' hj';exact⟨rfl,rfl⟩
 case inr.inr.inr.inr.inr.inr.inr.inr=>exact⟨rfl,rfl⟩
 all_goals exfalso
 all_goals first
  | exact ht ht'
  | exact ht' ht
  | exact hk (hall' _ hi).1
  | exact hl (hall' _ hi).2
  | exact hk' (hall _ hi').1
  | exact hl' (hall _ hi').2
  | exact hj (hg' _ hi)
  | exact hj' (hg _ hi')
def cnt (S:Nat->Bool):Nat->Nat
 | 0=>0
 | n+1=>cnt S n+if S n then 1 else 0
def Sound (F:FlowD)(S:Nat->Bool):Prop:=∀j,j<F.n->S j=true->Gone F j
def Closed (F:FlowD)(S:Nat->Bool):Prop:=∀j,j<F.n->(∀k,k<F.an j->S (F.af j k).toNat=true)->S j=true
theorem gone_iff {F:FlowD}{S:Nat->Bool}(he:∀j,j<F.n->OkEdges F j)(hs:Sound F S)(hc:Closed F S):∀i,i<F.n->(Gone F i↔S i=true):=by
 intro i hi
 refine⟨fun h=> ?_,hs i hi⟩
 induction h with
 | mk i _ ih=>exact hc i hi fun k hk=>ih k hk (by have:=he i hi k hk;unfold OkEdge at this;omega)
theorem OkEdge.lt {F:FlowD}{i k:Nat}(h:OkEdge F i k):(F.af i k).toNat<F.n:=by have:=h.1;have:=h.2.1;omega
structure Own2 (w wr:World)(F:FlowD)(a:Option Addr)(cap:Nat):Prop where
 c0:wr.cell? ⟨w.heap.size,0,none⟩=some (.int .i64 F.dl)
 c1:wr.cell? ⟨w.heap.size,1,none⟩=some (.slice a F.n cap)
 sz:w.heap.size<wr.heap.size
 bl:Below w.heap.size w wr
theorem Own2.keep {w wr wx:World}{F:FlowD}{a:Option Addr}{cap:Nat}(h:Own2 w wr F a cap)(hb:Below wr.heap.size wr wx):Own2 w wx F a cap :=
 ⟨(hb.cell (p:=⟨w.heap.size,0,none⟩) h.sz).trans h.c0,(hb.cell (p:=⟨w.heap.size,1,none⟩) h.sz).trans h.c1,Nat.lt_of_lt_of_le h.sz hb.size,h.bl.trans (hb.mono (Nat.le_of_lt h.sz))⟩
theorem Own2.start (w:World)(F:FlowD)(a:Option Addr)(cap:Nat)(t:TypeId):Own2 w (w.alloc (.cells #[.int .i64 F.dl, .slice a F.n cap] t)) F a cap :=
 ⟨by simp,by simp,by simp,(Below.refl _ _).alloc (Nat.le_refl _) _⟩
def TabIn (w:World):Prop:=∀j,j<64->w.cell? ⟨2,j,none⟩=some (.int .u8 (Lib.deBruijn64tab.getD j 0))
theorem tz64_key (x a:Nat)(hx:x<18446744073709551616)(hx0:x≠0)(hlow:x &&& (18446744073709551616 - x)=a) :
  IntKind.u64.wrap (bits BinOp.and IntKind.u64 (x:Int) (IntKind.u64.wrap (-(x:Int))) * 285870213051353865) / 288230376151711744=((a * 285870213051353865 % 18446744073709551616 / 288230376151711744:Nat):Int):=by
 have e1:IntKind.u64.wrap (-(x:Int))=((18446744073709551616 - x:Nat):Int):=by rw [IntKind.wrap_u64];omega
 rw [e1,bits_and_u64_nat x _ hx (by omega),hlow,IntKind.wrap_u64]
 omega
set_option maxHeartbeats 1000000 in
theorem tz64_core (x k idx:Nat)(w:World)(hx0:((x:Int) == 0)=false)
  (key:IntKind.u64.wrap (bits BinOp.and IntKind.u64 (x:Int) (IntKind.u64.wrap (-(x:Int))) * 285870213051353865) / 288230376151711744=(idx:Int))
  (hi:idx<64) (hk:k<64) (hcell:w.cell? ⟨2,idx,none⟩=some (.int .u8 k)) :
  Calls Tryz.prog 157 #[.int .u64 x] w fun e w'=>e= .returned (.int .i64 k)/\w'=w:=by
 go_enter Tryz.func157,Tryz.ntmps157
 go_wp2_with (simp only [key])
 go_ret
 exact⟨rfl,rfl⟩
theorem tz64_any (x:Nat)(hx:x<18446744073709551616)(hx0:x≠0)(w:World)(hT:TabIn w) :
  Calls Tryz.prog 157 #[.int .u64 x] w fun e w'=>e= .returned (.int .i64 (Lib.ctz 64 x))/\w'=w:=by
 obtain⟨hlow,hk⟩:=Lib.lowest_bit 64 x hx0 hx
 obtain⟨hi,htab⟩:=Lib.deBruijn64_at _ hk
 have hcell:=hT _ hi
 rw [htab] at hcell
 exact tz64_core x _ _ w (by simp;omega) (tz64_key x _ hx hx0 hlow) hi hk hcell
theorem tz_any (x:Nat)(hx:x<18446744073709551616)(hx0:x≠0)(w:World)(hT:TabIn w) :
  Calls Tryz.prog 188 #[.int .u64 x] w fun e w'=>e= .returned (.int .i64 (Lib.ctz 64 x))/\w'=w:=by
 have c64:=tz64_any x hx hx0 w hT
 go_enter Tryz.func188,Tryz.ntmps188
 go_wp2_with (go_at_call 157;refine c64.mono ?_;rintro e w' ⟨rfl,hw'⟩;rw [hw'])
 go_ret
 exact⟨rfl,rfl⟩
theorem ctzFrom_first (f p j:Nat)(hf:p<2 ^ f)(hj:j<f)(h1:∀i,i<j->p.testBit i=true)(h2:p.testBit j=false):Lib.ctzFrom f (2 ^ f - 1 - p)=j:=by
 induction f generalizing p j with
 | zero=>omega
 | succ f ih =>
  have hp2:2 ^ (f+1)=2 * 2 ^ f:=by rw [Nat.pow_succ];omega
  unfold Lib.ctzFrom
  cases j with
  | zero =>
   have:p % 2=0:=by simpa [Nat.testBit_zero] using h2
   rw [if_pos (by omega)]
  | succ j =>
   have e0:p % 2=1:=by simpa [Nat.testBit_zero] using h1 0 (by omega)
   rw [if_neg (by omega)]
   have e1:(2 ^ (f+1) - 1 - p) / 2=2 ^ f - 1 - p / 2:=by omega
   rw [e1,ih (p / 2) j (by omega) (by omega) (fun i hi=>by have:=h1 (i+1) (by omega);rwa [Nat.testBit_succ] at this) (by rwa [Nat.testBit_succ] at h2)]
   omega
theorem ctz_first (p j:Nat)(hp:p<2 ^ 63)(hj:j<64)(h1:∀i,i<j->p.testBit i=true)(h2:p.testBit j=false):Lib.ctz 64 (18446744073709551615 - p)=j:=by
 unfold Lib.ctz
 rw [if_neg (by omega)]
 exact ctzFrom_first 64 p j (by omega) hj h1 h2
end Go.Proofs.YtgdcjccbdmcebabGreatDoor
namespace Go.Proofs.YtgdcjccbdmcebabGreatDoor
open Go.RowKit
set_option maxRecDepth 100000
set_option maxHeartbeats 400000 in
theorem kpick_any (c n:Int)(w:World)(hc: -9223372036854775808<=c)(hc2:c<=9223372036854775807)(hn:1<=n)(hn2:n<=9223372036854775807) :
  Calls Tryz.prog 7 #[.int .i64 c, .int .i64 n] w fun e w'=>e= .returned (.int .i64 (pickI c n))/\w'=w:=by
 by_cases h1:c<0
 ·go_enter Tryz.func7,Tryz.ntmps7
  go_wp2
  go_ret
  exact⟨ri (by rw [pickI_neg h1,<-Int.neg_tmod,Int.tmod_eq_emod_of_nonneg (by omega)]),rfl⟩
 ·go_enter Tryz.func7,Tryz.ntmps7
  go_wp2
  go_ret
  exact⟨ri (by rw [pickI_pos (by omega)]),rfl⟩
structure IntsIn (w:World)(a:Option Addr)(n cap:Nat)(f:Nat->Int):Prop where
 at':IntsAt w a n cap f
 lo:∀k,k<n-> -9223372036854775808<=f k
 hi:∀k,k<n->f k<=9223372036854775807
 len:n<=maxLen
theorem IntsIn.keep {w w':World}{a:Option Addr}{n cap:Nat}{f:Nat->Int}(h:IntsIn w a n cap f)(hb:Below w.heap.size w w'):IntsIn w' a n cap f:=⟨h.at'.keep hb,h.lo,h.hi,h.len⟩
end Go.Proofs.YtgdcjccbdmcebabGreatDoor
