/-
  
-/
import Derived.Test.YtbaihklbefhgdaaGreatSC10
import Derived.Test.YtbaihklbefhgdaaGreatSC31
import Derived.Test.YtbaihklbefhgdaaGreatSC24
import Derived.Test.YtbaihklbefhgdaaGreatSC27
import Derived.Test.YtbaihklbefhgdaaGreatSC29
import Derived.Test.YtbaihklbefhgdaaGreatSC11
set_option linter.unusedVariables false
set_option linter.unusedSimpArgs false
set_option linter.unusedSectionVars false
namespace Go.Proofs.YtbaihklbefhgdaaGreat
open Go.RowKit
open Go.Lib (hid)
open Dg Zn
namespace Vc
structure rN where
 is:World->Value->Prop
 shape:Option Nat
 plain:Bool
 ok:∀ w v,is w v->∃ cs,Shaped shape v cs
 pl:plain=true->∀ w v,is w v->∀ c∈v.cells.toList,cZ c=true
inductive Dm where
 | int (z:Int) (k:Nat)
 | nums (m:Nat)
 | cell (x:Int)
 | rt (p q:Int) (k:Nat)
 | ints (zs:List Int)
 | lint (l:List Int) (k:Nat)
 | pint (z:Int) (k:Nat)
 | llint (l:List (List Int)) (k:Nat)
 | plint (l:List Int) (k:Nat)
 | dl (ds:List Nat)
 | full (ds:List Nat)
 | gen (g:rN)
def aGf (w:World) (v:Value) (l:List Int) (k:Nat):Prop :=
 ∃ ao cap,v=.slice ao l.length cap/\(0<l.length->∃ b off,ao=some ⟨b,off,none⟩/\∀ i,i<l.length->∃ s,w.cell? ⟨b,off+2*i,none⟩=some (.bool (decide (l.getD i 0<0)))/\w.cell? ⟨b,off+2*i+1,none⟩=some s/\aL w s (aA (l.getD i 0).natAbs)/\len (l.getD i 0)<=k)
def Dm.at:Dm->World->Value->Prop
 | .int z k,w,v=>aW w v z/\len z<=k
 | .nums m,w,v=>aL w v (aA m)
 | .cell x,w,v=>∃ a,v=.pointer (some a)/\w.cell? a=some (.int .i64 x)
 | .rt p q k,w,v=>∃ s t,v=.agg #[.bool (decide (p<0)),s,.bool (decide (q<0)),t]/\aL w s (aA p.natAbs)/\aL w t (aA q.natAbs)/\len p<=k/\len q<=k
 | .ints zs,w,v=>aGm w v zs
 | .lint l k,w,v=>aGf w v l k
 | .pint z k,w,v=>∃ b off s,v=.pointer (some ⟨b,off,none⟩)/\w.cell? ⟨b,off,none⟩=some (.bool (decide (z<0)))/\w.cell? ⟨b,off+1,none⟩=some s/\aL w s (aA z.natAbs)/\len z<=k
 | .llint l k,w,v=>∃ ao cap,v=.slice ao l.length cap/\(0<l.length->∃ b off,ao=some ⟨b,off,none⟩/\∀ i,i<l.length->∃ s,w.cell? ⟨b,off+i,none⟩=some s/\aGf w s (l.getD i []) k)
 | .plint l k,w,v=>∃ b off s,v=.pointer (some ⟨b,off,none⟩)/\w.cell? ⟨b,off,none⟩=some s/\aGf w s l k
 | .dl ds,w,v=>aL w v ds
 | .full ds,w,v=>aL w v ds/\∃ ao,v=.slice ao ds.length ds.length
 | .gen g,w,v=>g.is w v
def Dm.shape:Dm->Option Nat
 | .int _ _=>some 2
 | .rt _ _ _=>some 4
 | .gen g=>g.shape
 | _=>none
def Dm.plain:Dm->Bool
 | .gen g=>g.plain
 | _=>true
theorem kT {w:World} {v:Value} {ds:List Nat} (h:aL w v ds):∃ a n c,v=.slice a n c:=by
 obtain⟨a,c,h,_⟩:=h;exact⟨a,_,c,h⟩
instance:bO Dm where
 dat:=Dm.at
 shape:=Dm.shape
 plain:=Dm.plain
 shape_ok:=by
  intro x w v h;cases x with
  | int z k =>
   obtain⟨⟨s,rfl,hs⟩,_⟩:=h;obtain⟨a,n,c,rfl⟩:=kT hs;exact⟨[_,_],rfl,rfl,by simp[Value.oneCell']⟩
  | nums m=>obtain⟨a,n,c,rfl⟩:=kT h; exact⟨_,rfl,rfl⟩
  | cell x=>obtain⟨a,rfl,_⟩:=h; exact⟨_,rfl,rfl⟩
  | rt p q k =>
   obtain⟨s,t,rfl,hs,ht,_⟩:=h;obtain⟨a,n,c,rfl⟩:=kT hs;obtain⟨a',n',c',rfl⟩:=kT ht;exact⟨[_,_,_,_],rfl,rfl,by simp[Value.oneCell']⟩
  | ints zs=>obtain⟨_,a,c,rfl,_⟩:=h; exact⟨_,rfl,rfl⟩
  | lint l k=>obtain⟨a,c,rfl,_⟩:=h; exact⟨_,rfl,rfl⟩
  | pint z k=>obtain⟨b,off,s,rfl,_⟩:=h; exact⟨_,rfl,rfl⟩
  | llint l k=>obtain⟨a,c,rfl,_⟩:=h; exact⟨_,rfl,rfl⟩
  | plint l k=>obtain⟨b,off,s,rfl,_⟩:=h; exact⟨_,rfl,rfl⟩
  | dl ds=>obtain⟨a,n,c,rfl⟩:=kT h; exact⟨_,rfl,rfl⟩
  | full ds=>obtain⟨_,a,rfl⟩:=h; exact⟨_,rfl,rfl⟩
  | gen g=>exact g.ok w v h
 W:=fun _=>True
 W_keep:=fun _ _ _ h=>h
 plain_ok:=by
  intro x w v hp h;cases x with
  | int z k =>
   obtain⟨⟨s,rfl,hs⟩,_⟩:=h;obtain⟨a,n,c,rfl⟩:=kT hs;simp[Value.cells,cZ]
  | nums m=>obtain⟨a,n,c,rfl⟩:=kT h; simp[Value.cells,cZ]
  | cell x=>obtain⟨a,rfl,_⟩:=h; simp[Value.cells,cZ]
  | rt p q k =>
   obtain⟨s,t,rfl,hs,ht,_⟩:=h;obtain⟨a,n,c,rfl⟩:=kT hs;obtain⟨a',n',c',rfl⟩:=kT ht;simp[Value.cells,cZ]
  | ints zs=>obtain⟨_,a,c,rfl,_⟩:=h; simp[Value.cells,cZ]
  | lint l k=>obtain⟨a,c,rfl,_⟩:=h; simp[Value.cells,cZ]
  | pint z k=>obtain⟨b,off,s,rfl,_⟩:=h; simp[Value.cells,cZ]
  | llint l k=>obtain⟨a,c,rfl,_⟩:=h; simp[Value.cells,cZ]
  | plint l k=>obtain⟨b,off,s,rfl,_⟩:=h; simp[Value.cells,cZ]
  | dl ds=>obtain⟨a,n,c,rfl⟩:=kT h; simp[Value.cells,cZ]
  | full ds=>obtain⟨_,a,rfl⟩:=h; simp[Value.cells,cZ]
  | gen g=>exact g.pl hp w v h
/-! Numbers are not met by what changes: the last digit of one isn't 0. -/
theorem aWf {L:Nat->Prop} {w:World} (hn:gO L w) {a:Addr} {z:Int} (h:w.cell? a=some (.int .i64 z)) (hz:z≠0):¬ L a.block:=by
 intro hL;simp only[World.cell?] at h;cases hq:w.heap[a.block]? with
 | none=>rw[hq] at h; cases h
 | some ob =>
  rw[hq] at h;cases ob with
  | cells cs T fr =>
   simp only at h;split at h
   ·cases h
   ·have:=hn a.block hL cs T fr hq (.int .i64 z) (by
     rw[Array.mem_toList_iff];exact Array.mem_of_getElem? h)
    exact hz (of_decide_eq_true this)
  | _=>cases h
theorem aIj {L:Nat->Prop} {w w':World} {a:Addr} {v:Value} (hL:¬ L a.block) (hag:Agree L w w') (h:w.cell? a=some v):w'.cell? a=some v:=by
 have hb:a.block<w.heap.size:=by
  rcases Nat.lt_or_ge a.block w.heap.size with hb | hb
  ·exact hb
  ·exfalso;simp only[World.cell?] at h;rw[Array.getElem?_eq_none (by omega)] at h;cases h
 rw[World.cell?_of_block (w:=w) (hag.2 a.block hb hL)];exact h
theorem aRq {L:Nat->Prop} {w w':World} {v:Value} {ds:List Nat} (h:aL w v ds) (hl:0<ds.length->ds.getD (ds.length-1) 0≠0) (hn:gO L w) (hag:Agree L w w'):aL w' v ds:=by
 obtain⟨a,c,h1,h2,h3,h4⟩:=h;refine⟨a,c,h1,h2,h3,fun hp=>?_⟩;obtain⟨b,off,h5,h6⟩:=h4 hp;have hL:¬ L b:=aWf hn (h6 (ds.length-1) (by omega)) (by have:=hl hp; omega);exact⟨b,off,h5,fun i hi=>aIj hL hag (h6 i hi)⟩
theorem aTh {L:Nat->Prop} {w w':World} {v:Value} {z:Int} (h:aW w v z) (hn:gO L w) (hag:Agree L w w'):aW w' v z:=by
 obtain⟨s,h1,h2⟩:=h;refine⟨s,h1,aRq h2 (fun hp=>aEg ?_) hn hag⟩;rcases Nat.eq_zero_or_pos z.natAbs with h0 | h0
 ·rw[h0,gA] at hp; exact absurd hp (by decide)
 ·exact h0
theorem aHf {L:Nat->Prop} {w w':World} (hn:gO L w) (hlt:∀ b,L b->b<w.heap.size) (hb:Below w.heap.size w w'):gO L w':=fun b hL cs T fr h=>hn b hL cs T fr (by rw[<- hb.block b (hlt b hL)]; exact h)
theorem xS {L:Nat->Prop} {ρ:aR} {w w':World} {v:Value} {z:Int} {k:Nat} (h:aW w' v z) (hk:len z<=k) (hn:gO L w) (hlt:∀ b,L b->b<w.heap.size) (hb:Below w.heap.size w w'):(SA.d (Dm.int z k)).is L ρ w' v :=
 fun _ hag=>⟨aTh h (aHf hn hlt hb) hag,hk⟩
theorem qY {L:Nat->Prop} {ρ:aR} {w:World} {v:Value} {z:Int} {k:Nat} (h:(SA.d (Dm.int z k)).is L ρ w v):aW w v z/\len z<=k:=h w (Agree.refl _ _)
variable {P:Program}
theorem uL {f:FuncId} {x y z:Int} {j k m:Nat} (h:∀ vx vy w,aW w vx x->aW w vy y->len x<=j->len y<=k->Calls P f #[vx,vy] w (fF w z)) (hm:len x<=j->len y<=k->len z<=m):aD P f [.d (Dm.int x j),.d (Dm.int y k)] (.one (.d (Dm.int z m))):=by
 rintro L ρ w vs hlt hn hwf hall
 match vs,hall with
 | [vx,vy],⟨h1,h2,_⟩ =>
  obtain⟨h1,l1⟩:=qY h1;obtain⟨h2,l2⟩:=qY h2;refine(h vx vy w h1 h2 l1 l2).mono ?_;rintro e w' ⟨v,rfl,h3,h4⟩;exact⟨v,rfl,h4,xS (ρ:=ρ) h3 (hm l1 l2) hn hlt h4⟩
theorem aLk {f:FuncId} {x z:Int} {j m:Nat} (h:∀ vx w,aW w vx x->len x<=j->Calls P f #[vx] w (fF w z)) (hm:len x<=j->len z<=m):aD P f [.d (Dm.int x j)] (.one (.d (Dm.int z m))):=by
 rintro L ρ w vs hlt hn hwf hall
 match vs,hall with
 | [vx],⟨h1,_⟩ =>
  obtain⟨h1,l1⟩:=qY h1;refine(h vx w h1 l1).mono ?_;rintro e w' ⟨v,rfl,h3,h4⟩;exact⟨v,rfl,h4,xS (ρ:=ρ) h3 (hm l1) hn hlt h4⟩
theorem aLl {f:FuncId} {x:Value} {z:Int} {m:Nat} (h:∀ w,Calls P f #[x] w (fF w z)) (hm:len z<=m):aD P f [.v x] (.one (.d (Dm.int z m))):=by
 rintro L ρ w vs hlt hn hwf hall
 match vs,hall with
 | [vx],⟨h1,_⟩ =>
  obtain rfl:vx=x:=h1;refine(h w).mono ?_;rintro e w' ⟨v,rfl,h3,h4⟩;exact⟨v,rfl,h4,xS (ρ:=ρ) h3 hm hn hlt h4⟩
theorem aEh {f:FuncId} {x y:Int} {j k:Nat} {r:Value} (h:∀ vx vy w,aW w vx x->aW w vy y->Calls P f #[vx,vy] w fun e w'=>e=.returned r/\Below w.heap.size w w'):aD P f [.d (Dm.int x j),.d (Dm.int y k)] (.one (.v r)):=by
 rintro L ρ w vs hlt hn hwf hall
 match vs,hall with
 | [vx,vy],⟨h1,h2,_⟩ =>
  refine(h vx vy w (qY h1).1 (qY h2).1).mono ?_;rintro e w' ⟨rfl,h4⟩;exact⟨r,rfl,h4,rfl⟩
theorem aLi {f:FuncId} {x:Int} {j:Nat} {r:Value} (h:∀ vx w,aW w vx x->Calls P f #[vx] w fun e w'=>e=.returned r/\Below w.heap.size w w'):aD P f [.d (Dm.int x j)] (.one (.v r)):=by
 rintro L ρ w vs hlt hn hwf hall
 match vs,hall with
 | [vx],⟨h1,_⟩ =>
  refine(h vx w (qY h1).1).mono ?_;rintro e w' ⟨rfl,h4⟩;exact⟨r,rfl,h4,rfl⟩
theorem aLj {f:FuncId} {x y q r:Int} {j k m:Nat} {m':Nat} (h:∀ vx vy w,aW w vx x->aW w vy y->len x<=j->len y<=k->Calls P f #[vx,vy] w (sM w q r)) (hm:len x<=j->len y<=k->len q<=m/\len r<=m') :
  aD P f [.d (Dm.int x j),.d (Dm.int y k)] (.tup [.d (Dm.int q m),.d (Dm.int r m')]):=by
 rintro L ρ w vs hlt hn hwf hall
 match vs,hall with
 | [vx,vy],⟨h1,h2,_⟩ =>
  obtain⟨h1,l1⟩:=qY h1;obtain⟨h2,l2⟩:=qY h2;refine(h vx vy w h1 h2 l1 l2).mono ?_;rintro e w' ⟨s,t,rfl,h3,h3',h4⟩;exact⟨_,rfl,h4,[s,t],rfl,xS (ρ:=ρ) h3 (hm l1 l2).1 hn hlt h4,xS (ρ:=ρ) h3' (hm l1 l2).2 hn hlt h4,trivial⟩
/-! Lengths. -/
theorem oF {x y:Int} (h:x.natAbs<=y.natAbs):len x<=len y:=dW h
theorem mQ {x:Int} {k:Nat}:len x<=k ↔ x.natAbs<1000000000^k:=fG
theorem qT {x y:Int} {j k:Nat} (hx:len x<=j) (hy:len y<=k):len (x*y)<=j+k:=by
 rw[mQ] at *;rw[Int.natAbs_mul,Nat.pow_add];exact Nat.mul_lt_mul'' hx hy
theorem aAs {x y:Int} {j k:Nat} (hx:len x<=j) (hy:len y<=k):len (x+y)<=j+k+1:=by
 have h1:=mQ.1 (Nat.le_trans hx (Nat.le_add_right j k));have h2:=mQ.1 (Nat.le_trans hy (Nat.le_add_left k j));rw[mQ,Nat.pow_succ];have:=Int.natAbs_add_le x y;generalize 1000000000^(j+k)=M at *;omega
theorem aAr {x:Int} {k:Nat} (hx:len x<=k):len (-x)<=k:=by
 rw[mQ] at *;rwa[Int.natAbs_neg]
theorem aG5 (x y:Int):(x/y).natAbs<=x.natAbs:=Int.natAbs_ediv_le_natAbs x y
/-! Package integer. -/
theorem aFo (x y:Int) {j k:Nat} (hj:j<=1000000000) (hk:k<=1000000000):aD Tryz.prog 141 [.d (Dm.int x j),.d (Dm.int y k)] (.one (.d (Dm.int (x+y) (j+k+1)))) :=
 uL (fun vx vy w h1 h2 l1 l2=>aYy vx vy x y w h1 h2 (by omega) (by omega)) fun l1 l2=>aAs l1 l2
theorem iU (x y:Int) {j k:Nat} (hj:j<=1000000000) (hk:k<=1000000000):aD Tryz.prog 136 [.d (Dm.int x j),.d (Dm.int y k)] (.one (.d (Dm.int (x*y) (j+k)))) :=
 uL (fun vx vy w h1 h2 l1 l2=>aYt vx vy x y w h1 h2 (by omega) (by omega)) fun l1 l2=>qT l1 l2
theorem aYv (x y:Int) {j k:Nat} (hj:j<=1000000000) (hk:k<=1000000000):aD Tryz.prog 201 [.d (Dm.int x j),.d (Dm.int y k)] (.tup [.d (Dm.int (x/y) j),.d (Dm.int (if y=0 then 0 else x%y) k)]):=by
 refine aLj (fun vx vy w h1 h2 l1 l2=>?_) fun l1 l2=>⟨Nat.le_trans (oF (aG5 x y)) l1,?_⟩
 ·by_cases hy:y=0
  ·subst hy;rw[if_pos rfl,Int.ediv_zero];exact aWw vx vy x w h1 h2
  ·rw[if_neg hy];exact aYw vx vy x y w h1 h2 hy (by omega) (by omega)
 ·split
  ·show (aA 0).length<=_; rw[gA]; exact Nat.zero_le _
  ·rename_i hy;refine Nat.le_trans (oF ?_) l2;have h1:=Int.emod_nonneg x hy;have h2:=Int.emod_lt x hy;omega
theorem aA2 (x y:Int) {j k:Nat} (hj:j<=1000000000) (hk:k<=1000000000):aD Tryz.prog 142 [.d (Dm.int x j),.d (Dm.int y k)] (.one (.d (Dm.int ((Int.gcd x y:Nat):Int) (j+k)))):=by
 refine uL (fun vx vy w h1 h2 l1 l2=>aYu vx vy x y w h1 h2 (by omega) (by omega)) fun l1 l2=>?_;by_cases hx:x=0
 ·subst hx;refine Nat.le_trans (oF ?_) (Nat.le_trans l2 (Nat.le_add_left ..));simp
 ·refine Nat.le_trans (oF (y:=x) ?_) (Nat.le_trans l1 (Nat.le_add_right ..));have:=Nat.le_of_dvd (Int.natAbs_pos.2 hx) (Int.gcd_dvd_natAbs_left x y);simpa using this
theorem aFn (x:Int) {j:Nat}:aD Tryz.prog 186 [.d (Dm.int x j)] (.one (.d (Dm.int (-x) j))) :=
 aLk (fun vx w h1 _=>aYs vx x w h1) fun l1=>aAr l1
theorem aCq (x y:Int) {j k:Nat}:aD Tryz.prog 123 [.d (Dm.int x j),.d (Dm.int y k)] (.one (.v (.int .i64 (bA x y)))) :=
 aEh fun vx vy w h1 h2=>aHm vx vy x y w h1 h2
theorem aLv (x:Int) {j:Nat}:aD Tryz.prog 140 [.d (Dm.int x j)] (.one (.v (.int .i64 (bA x 0)))) :=
 aLi fun vx w h1=>aWm vx x w h1
theorem aGe (n:Int) (h1 : -9223372036854775808<=n) (h2:n<=9223372036854775807):aD Tryz.prog 145 [.v (.int .i64 n)] (.one (.d (Dm.int n 3))) :=
 aLl (fun w=>aZy n w h1 h2) (by rw[mQ]; omega)
/-! Types. -/
theorem aK:dL Tryz.prog 28 (some 2):=dL.row (by kernel_rfl) (by kernel_rfl)
theorem aAk:dL Tryz.prog 4 none:=dL.one (by kernel_rfl) (by kernel_rfl)
theorem kX:dL Tryz.prog 3 none:=dL.one (by kernel_rfl) (by kernel_rfl)
theorem pF:dL Tryz.prog 22 none:=dL.one (by kernel_rfl) (by kernel_rfl)
theorem aC:dL Tryz.prog 30 (some 4):=dL.row (by kernel_rfl) (by kernel_rfl)
theorem dH:iK Tryz.prog 30 0 0:=iK.of (sz:=1) (by kernel_rfl)
theorem mN:iK Tryz.prog 30 1 2:=iK.of (sz:=1) (by kernel_rfl)
theorem aAw:iK Tryz.prog 28 0 0:=iK.of (sz:=0) (by kernel_rfl)
theorem pO:iK Tryz.prog 28 1 1:=iK.of (sz:=0) (by kernel_rfl)
theorem dC:(Tryz.prog.info? 28).map (·.zero)=some (some (.agg #[.bool false,.slice none 0 0])):=by kernel_rfl
theorem cI:(Tryz.prog.info? 30).map (·.zero)=some (some (.agg #[.bool false,.slice none 0 0,.bool false,.slice none 0 0])):=by kernel_rfl
/-! Parts. -/
theorem aE8 {z:Int} {k:Nat}:mA (Dm.int z k) 0 none (.v (.bool (decide (z<0)))):=by
 rintro w cs ⟨⟨s,h,hs⟩,_⟩;injection h with h;have h2:cs=[.bool (decide (z<0)),s]:=by simpa using congrArg Array.toList h
 exact⟨[],[_],[s],_,by rw[h2]; rfl,rfl,⟨rfl,rfl⟩,rfl⟩
theorem sL {z:Int} {k:Nat}:mA (Dm.int z k) 1 none (.d (Dm.nums z.natAbs)):=by
 rintro w cs ⟨⟨s,h,hs⟩,_⟩;injection h with h;have h2:cs=[.bool (decide (z<0)),s]:=by simpa using congrArg Array.toList h
 obtain⟨a,n,c,rfl⟩:=kT hs;exact⟨[_],[_],[],_,by rw[h2]; rfl,rfl,⟨rfl,rfl⟩,hs⟩
theorem iH {p q:Int} {k:Nat} {w:World} {cs:List Value} (h:Dm.at (.rt p q k) w (.agg cs.toArray)) :
  ∃ a n c a' n' c',cs=[.bool (decide (p<0)),.slice a n c,.bool (decide (q<0)),.slice a' n' c']/\aL w (.slice a n c) (aA p.natAbs)/\aL w (.slice a' n' c') (aA q.natAbs)/\len p<=k/\len q<=k:=by
 obtain⟨s,t,h,hs,ht,l1,l2⟩:=h;injection h with h;obtain⟨a,n,c,rfl⟩:=kT hs;obtain⟨a',n',c',rfl⟩:=kT ht;exact⟨a,n,c,a',n',c',by simpa using congrArg Array.toList h,hs,ht,l1,l2⟩
theorem dG {p q:Int} {k:Nat}:mA (Dm.rt p q k) 0 (some 2) (.d (Dm.int p k)):=by
 intro w cs h;obtain⟨a,n,c,a',n',c',rfl,hs,ht,l1,l2⟩:=iH h;exact⟨[],[_,_],[_,_],_,rfl,rfl,⟨rfl,rfl,by simp[Value.oneCell']⟩,⟨_,rfl,hs⟩,l1⟩
theorem pM {p q:Int} {k:Nat}:mA (Dm.rt p q k) 2 (some 2) (.d (Dm.int q k)):=by
 intro w cs h;obtain⟨a,n,c,a',n',c',rfl,hs,ht,l1,l2⟩:=iH h;exact⟨[_,_],[_,_],[],_,rfl,rfl,⟨rfl,rfl,by simp[Value.oneCell']⟩,⟨_,rfl,ht⟩,l2⟩
theorem aK9 {p q:Int} {k:Nat}:mA (Dm.rt p q k) 3 none (.d (Dm.nums q.natAbs)):=by
 intro w cs h;obtain⟨a,n,c,a',n',c',rfl,hs,ht,l1,l2⟩:=iH h;exact⟨[_,_,_],[_],[],_,rfl,rfl,⟨rfl,rfl⟩,ht⟩
theorem aV0 {p q:Int} {k:Nat}:mA (Dm.rt p q k) 2 none (.v (.bool (decide (q<0)))):=by
 intro w cs h;obtain⟨a,n,c,a',n',c',rfl,hs,ht,l1,l2⟩:=iH h;exact⟨[_,_],[_],[_],_,rfl,rfl,⟨rfl,rfl⟩,rfl⟩
end Vc
end Go.Proofs.YtbaihklbefhgdaaGreat

namespace Go.Proofs.YtbaihklbefhgdaaGreat
open Go.RowKit
open Go.Lib (hid)
open Dg Zn
namespace Vc
section
variable {D:Type} [bO D] {P:Program} {cx:Cx D} {n:Nat} {σ:St D} {o:Oper} {d:Nat} {x y:Operand} {T T':TypeId} {k:IntKind} {a b:Int}
theorem nH {op:BinOp} {u v r:Value} (ho:o.op=.binOp op T x y T') (hd:o.dst=some d) (hn:d<n) (hx:opd σ x=.av (.one (.v u))) (hy:opd σ y=.av (.one (.v v)))
  (hr:∀ w,(do eqGuard op T x y u v; binOp op T u v:Sem Value).run P w=.ok r w):aN P cx n σ o (bH x++bH y) [(.s d,.av (.one (.v r)))]:=by
 refine fE hd hn rfl fun σ' ρ a w h hk=>⟨r,?_,rfl⟩
 have e1:a.eval x=u:=h.opd ((cR fun q hq=>hk q (by simp[hq])).trans hx);have e2:a.eval y=v:=h.opd ((cR fun q hq=>hk q (by simp[hq])).trans hy);have:=hr w;simp only[execOp,ho,e1,e2,Sem.run_bind,this,Result.andThen_ok,Sem.run_pure]
theorem cW (ho:o.op=.binOp .eql T x y T':=by exact rfl) (hd:o.dst=some d:=by exact rfl) (hn:d<n:=by exact bd) (hx:opd σ x=.av (.one (.v (.int k a))):=by exact rfl) (hy:opd σ y=.av (.one (.v (.int k b))):=by exact rfl):aN P cx n σ o (bH x++bH y) [(.s d,.av (.one (.v (.bool (a==b)))))] :=
 nH ho hd hn hx hy fun w=>by simp[eqGuard,binOp,Op.intCmp]
theorem pT (ho:o.op=.binOp .neq T x y T':=by exact rfl) (hd:o.dst=some d:=by exact rfl) (hn:d<n:=by exact bd) (hx:opd σ x=.av (.one (.v (.int k a))):=by exact rfl) (hy:opd σ y=.av (.one (.v (.int k b))):=by exact rfl):aN P cx n σ o (bH x++bH y) [(.s d,.av (.one (.v (.bool (a != b)))))] :=
 nH ho hd hn hx hy fun w=>by simp[eqGuard,binOp,Op.intCmp]
theorem dP (ho:o.op=.binOp .lss T x y T':=by exact rfl) (hd:o.dst=some d:=by exact rfl) (hn:d<n:=by exact bd) (hx:opd σ x=.av (.one (.v (.int k a))):=by exact rfl) (hy:opd σ y=.av (.one (.v (.int k b))):=by exact rfl):aN P cx n σ o (bH x++bH y) [(.s d,.av (.one (.v (.bool (decide (a<b))))))] :=
 nH ho hd hn hx hy fun w=>by simp[eqGuard,binOp,Op.intCmp]
theorem aNy (ho:o.op=.binOp .leq T x y T') (hd:o.dst=some d) (hn:d<n) (hx:opd σ x=.av (.one (.v (.int k a)))) (hy:opd σ y=.av (.one (.v (.int k b)))):aN P cx n σ o (bH x++bH y) [(.s d,.av (.one (.v (.bool (decide (a<=b))))))] :=
 nH ho hd hn hx hy fun w=>by simp[eqGuard,binOp,Op.intCmp]
theorem gC (ho:o.op=.binOp .gtr T x y T':=by exact rfl) (hd:o.dst=some d:=by exact rfl) (hn:d<n:=by exact bd) (hx:opd σ x=.av (.one (.v (.int k a))):=by exact rfl) (hy:opd σ y=.av (.one (.v (.int k b))):=by exact rfl):aN P cx n σ o (bH x++bH y) [(.s d,.av (.one (.v (.bool (decide (b<a))))))] :=
 nH ho hd hn hx hy fun w=>by simp[eqGuard,binOp,Op.intCmp]
theorem qX (ho:o.op=.binOp .geq T x y T':=by exact rfl) (hd:o.dst=some d:=by exact rfl) (hn:d<n:=by exact bd) (hx:opd σ x=.av (.one (.v (.int k a))):=by exact rfl) (hy:opd σ y=.av (.one (.v (.int k b))):=by exact rfl):aN P cx n σ o (bH x++bH y) [(.s d,.av (.one (.v (.bool (decide (b<=a))))))] :=
 nH ho hd hn hx hy fun w=>by simp[eqGuard,binOp,Op.intCmp]
theorem cP {c:Int} (hw:k.wrap (a+b)=c) (ho:o.op=.binOp .add T x y T':=by exact rfl) (hd:o.dst=some d:=by exact rfl) (hn:d<n:=by exact bd) (hx:opd σ x=.av (.one (.v (.int k a))):=by exact rfl) (hy:opd σ y=.av (.one (.v (.int k b))):=by exact rfl):aN P cx n σ o (bH x++bH y) [(.s d,.av (.one (.v (.int k c))))] :=
 nH ho hd hn hx hy fun w=>by simp[eqGuard,binOp,Op.intArith,hw]
theorem dU {c:Int} (hw:k.wrap (a-b)=c) (ho:o.op=.binOp .sub T x y T':=by exact rfl) (hd:o.dst=some d:=by exact rfl) (hn:d<n:=by exact bd) (hx:opd σ x=.av (.one (.v (.int k a))):=by exact rfl) (hy:opd σ y=.av (.one (.v (.int k b))):=by exact rfl):aN P cx n σ o (bH x++bH y) [(.s d,.av (.one (.v (.int k c))))] :=
 nH ho hd hn hx hy fun w=>by simp[eqGuard,binOp,Op.intArith,hw]
theorem aZf {c:Int} (hw:k.wrap (a*b)=c) (ho:o.op=.binOp .mul T x y T') (hd:o.dst=some d) (hn:d<n) (hx:opd σ x=.av (.one (.v (.int k a)))) (hy:opd σ y=.av (.one (.v (.int k b)))):aN P cx n σ o (bH x++bH y) [(.s d,.av (.one (.v (.int k c))))] :=
 nH ho hd hn hx hy fun w=>by simp[eqGuard,binOp,Op.intArith,hw]
theorem aZd {c:Int} (hb:b≠0) (hw:k.wrap (a.tdiv b)=c) (ho:o.op=.binOp .quo T x y T') (hd:o.dst=some d) (hn:d<n) (hx:opd σ x=.av (.one (.v (.int k a)))) (hy:opd σ y=.av (.one (.v (.int k b)))):aN P cx n σ o (bH x++bH y) [(.s d,.av (.one (.v (.int k c))))] :=
 nH ho hd hn hx hy fun w=>by simp[eqGuard,binOp,Op.intDiv,hb,hw]
theorem uZ (ho:o.op=.binOp .rem T x y T':=by exact rfl) (hd:o.dst=some d:=by exact rfl) (hn:d<n:=by exact bd) (hx:opd σ x=.av (.one (.v (.int k a))):=by exact rfl) (hy:opd σ y=.av (.one (.v (.int k b))):=by exact rfl) (hb:b≠0:=by decide):aN P cx n σ o (bH x++bH y) [(.s d,.av (.one (.v (.int k (a.tmod b)))))] :=
 nH ho hd hn hx hy fun w=>by simp[eqGuard,binOp,Op.intDiv,hb]
theorem lN {p:Bool} (ho:o.op=.unOp .not T x:=by exact rfl) (hd:o.dst=some d:=by exact rfl) (hn:d<n:=by exact bd) (hx:opd σ x=.av (.one (.v (.bool p))):=by exact rfl):aN P cx n σ o (bH x) [(.s d,.av (.one (.v (.bool (!p)))))]:=by
 refine fE hd hn rfl fun σ' ρ a w h hk=>⟨.bool !p,?_,rfl⟩
 have e1:a.eval x=.bool p:=h.opd ((cR fun q hq=>hk q (by simp[hq])).trans hx);simp[execOp,ho,e1,Op.unary]
theorem aZe {c:Int} (hw:k.wrap (0-a)=c) (ho:o.op=.unOp .neg T x) (hd:o.dst=some d) (hn:d<n) (hx:opd σ x=.av (.one (.v (.int k a)))):aN P cx n σ o (bH x) [(.s d,.av (.one (.v (.int k c))))]:=by
 refine fE hd hn rfl fun σ' ρ a' w h hk=>⟨.int k c,?_,rfl⟩
 have e1:a'.eval x=.int k a:=h.opd ((cR fun q hq=>hk q (by simp[hq])).trans hx);rw[Int.zero_sub] at hw;simp[execOp,ho,e1,Op.unary,Op.intArith,hw]
theorem cX {c:Operand} {av:AV D} (ho:o.op=.pick c x y:=by exact rfl) (hd:o.dst=some d:=by exact rfl) (hn:d<n:=by exact bd) (hc:opd σ c=.av (.one (.v (.bool true))):=by exact rfl) (hx:opd σ x=.av av:=by exact rfl) (hp:av.ptrs=[]:=by exact rfl):aN P cx n σ o (bH c++bH x) [(.s d,.av av)]:=by
 refine fE hd hn hp fun σ' ρ a w h hk=>⟨a.eval x,?_,h.opd ((cR fun q hq=>hk q (by simp[hq])).trans hx)⟩
 have e1:a.eval c=.bool true:=h.opd ((cR fun q hq=>hk q (by simp[hq])).trans hc);simp[execOp,ho,e1,asBool]
theorem eI {c:Operand} {av:AV D} (ho:o.op=.pick c x y:=by exact rfl) (hd:o.dst=some d:=by exact rfl) (hn:d<n:=by exact bd) (hc:opd σ c=.av (.one (.v (.bool false))):=by exact rfl) (hy:opd σ y=.av av:=by exact rfl) (hp:av.ptrs=[]:=by exact rfl):aN P cx n σ o (bH c++bH y) [(.s d,.av av)]:=by
 refine fE hd hn hp fun σ' ρ a w h hk=>⟨a.eval y,?_,h.opd ((cR fun q hq=>hk q (by simp[hq])).trans hy)⟩
 have e1:a.eval c=.bool false:=h.opd ((cR fun q hq=>hk q (by simp[hq])).trans hc);simp[execOp,ho,e1,asBool]
end
section
variable {cx:Cx Dm} {n:Nat} {σ:St Dm} {o:Oper} {d t:Nat}
theorem sN {m:Nat} (ho:o.op=.call ⟨.builtin .len,#[.tmp t],#[22]⟩:=by exact rfl) (hd:o.dst=some d:=by exact rfl) (hn:d<n:=by exact bd) (ht:σ (.s t)=.av (.one (.d (.nums m))):=by exact rfl):aN Tryz.prog cx n σ o [.s t] [(.s d,.av (.one (.v (.int .i64 (((aA m).length:Nat):Int)))))]:=by
 refine fE hd hn rfl fun σ' ρ a w h hk=>⟨_,?_,rfl⟩
 obtain⟨ao,c,hv,_⟩:=(h.slt t _ ((hk (.s t) (by simp)).trans ht)) w (Agree.refl _ _);have e1:a.eval (.tmp t)=.slice ao (aA m).length c:=hv;simp[execOp,ho,resolve,invoke,e1,builtin,Builtin.len_,run_underlying fN,goInt]
theorem aNz {m i:Nat} {j:Operand} (hi:i<(aA m).length) (ho:o.op=.indexAddr 22 (.tmp t) j) (hd:o.dst=some d) (hn:d<n) (ht:σ (.s t)=.av (.one (.d (.nums m)))) (hj:opd σ j=.av (.one (.v (.int .i64 (i:Int))))) :
  aN Tryz.prog cx n σ o (.s t::bH j) [(.s d,.av (.one (.d (.cell (((aA m).getD i 0:Nat):Int)))))]:=by
 refine fE hd hn rfl fun σ' ρ a w h hk=>?_;have hs:=h.slt t _ ((hk (.s t) (by simp)).trans ht);obtain⟨ao,c,hv,h2,h3,h4⟩:=hs w (Agree.refl _ _);obtain⟨g,off,rfl,h6⟩:=h4 (by omega);have e1:a.eval (.tmp t)=.slice (some ⟨g,off,none⟩) (aA m).length c:=hv;have e2:a.eval j=.int .i64 (i:Int):=h.opd ((cR fun q hq=>hk q (by simp[hq])).trans hj);have hsz:∀ w,(sizeOf 3).run Tryz.prog w=.ok 1 w:=by
  intro w;obtain⟨i0,hi0,_,hz1,_⟩:=info_parts kR;simp[sizeOf,typeInfo,hi0,hz1]
 refine⟨.pointer (some ⟨g,off+i,none⟩),?_,?_⟩
 ·have h0:(0:Int)<=(i:Int)/\(i:Int)<(((aA m).length:Nat):Int):=by omega
  simp[execOp,ho,e1,e2,Instr.indexAt,asIntOf,run_underlying fN,hsz,hi,Addr.add_mid]
 ·intro w' hag;refine⟨_,rfl,?_⟩;obtain⟨ao',c',hv',_,_,h4'⟩:=hs w' hag;obtain⟨g',off',hg',h6'⟩:=h4' (by omega);have e3:=e1.symm.trans (show a.eval (.tmp t)=_ from hv');injection e3 with e4;rw[hg'] at e4;injection e4 with e4;injection e4 with e5 e6;subst e5; subst e6;exact h6' i hi
theorem aKq {z:Int} (ho:o.op=.load 3 (.tmp t)) (hd:o.dst=some d) (hn:d<n) (ht:σ (.s t)=.av (.one (.d (.cell z)))):aN Tryz.prog cx n σ o [.s t] [(.s d,.av (.one (.v (.int .i64 z))))]:=by
 refine fE hd hn rfl fun σ' ρ a w h hk=>⟨_,?_,rfl⟩
 obtain⟨ad,hv,hc⟩:=(h.slt t _ ((hk (.s t) (by simp)).trans ht)) w (Agree.refl _ _);have e1:a.eval (.tmp t)=.pointer (some ad):=hv;obtain⟨⟨dd,hu,hdd⟩,_⟩:=kX;have hagg:(isAgg 3).run Tryz.prog w=.ok false w:=by
  unfold isAgg;rw[Sem.run_bind,run_underlying hu w];cases dd<;>simp_all
 simp[execOp,ho,e1,Instr.loadAt,Instr.sureAddr,loadVar,hagg,load,Sem.run,hc]
theorem aFf {L:Nat->Prop} {ρ:aR} {w:World} {z:Int} {k:Nat} {v:Value} (h:(SA.d (Dm.int z k)).is L ρ w v):∃ a m c,v=.agg #[.bool (decide (z<0)),.slice a m c]/\∀ w',Agree L w w'->aL w' (.slice a m c) (aA z.natAbs)/\len z<=k:=by
 obtain⟨⟨s,rfl,hs⟩,hl⟩:=h w (Agree.refl _ _);obtain⟨a,m,c,rfl⟩:=kT hs;refine⟨a,m,c,rfl,fun w' hw=>?_⟩;obtain⟨⟨s',e,hs'⟩,hl'⟩:=h w' hw;injection e with e;have e2:[Value.bool (decide (z<0)),.slice a m c]=[.bool (decide (z<0)),s']:=by simpa using congrArg Array.toList e
 injection e2 with _ e3;injection e3 with e4;subst e4;exact⟨hs',hl'⟩
theorem aDo (parts:List (Nat × Value)):Tryz.prog.built 30 parts=Instr.fill ((#[(0,2),(2,2)]:Array (Nat × Nat))[·]?) #[.bool false,.slice none 0 0,.bool false,.slice none 0 0] parts:=by kernel_rfl
theorem pA (ho:o.op=.build 30 #[]:=by exact rfl) (hd:o.dst=some d:=by exact rfl) (hn:d<n:=by exact bd):aN Tryz.prog cx n σ o [] [(.s d,.av (.one (.d (.rt 0 0 0))))]:=by
 refine fE hd hn rfl fun σ' ρ a w h hk=>⟨.agg #[.bool false,.slice none 0 0,.bool false,.slice none 0 0],?_,?_⟩
 ·have hb2:=run_build w 30 #[] _ (show Tryz.prog.built 30 (#[]:Array (Nat × Value)).toList=some #[.bool false,.slice none 0 0,.bool false,.slice none 0 0] by rw[aDo]; kernel_rfl);simp only[execOp,ho,Sem.run_bind];rw[show (#[]:Array (Nat × Operand)).map (fun p=>(p.1,a.eval p.2))=#[] by simp,hb2];rfl
 ·intro w' _;have h0:(aA (0:Int).natAbs).length<=0:=by rw[show (0:Int).natAbs=0 from rfl,gA]; exact Nat.le_refl _
  exact⟨_,_,rfl,aL.nil (by decide),aL.nil (by decide),h0,h0⟩
theorem rY {x:Operand} {p:Int} {k:Nat} (ho:o.op=.build 30 #[(0,x)]:=by exact rfl) (hd:o.dst=some d:=by exact rfl) (hn:d<n:=by exact bd) (hx:opd σ x=.av (.one (.d (.int p k))):=by exact rfl):aN Tryz.prog cx n σ o (bH x) [(.s d,.av (.one (.d (.rt p 0 k))))]:=by
 refine fE hd hn rfl fun σ' ρ a w h hk=>?_;obtain⟨s,m,c,hv,hs⟩:=aFf (ρ:=ρ) (h.opd ((cR hk).trans hx));refine⟨.agg #[.bool (decide (p<0)),.slice s m c,.bool false,.slice none 0 0],?_,?_⟩
 ·have hb:Tryz.prog.built 30 #[(0,a.eval x)].toList=some #[.bool (decide (p<0)),.slice s m c,.bool false,.slice none 0 0]:=by
   rw[hv,aDo]
   kernel_rfl
  have hb2:=run_build w 30 #[(0,a.eval x)] _ hb;simp only[execOp,ho,Sem.run_bind];rw[show (#[(0,x)]:Array (Nat × Operand)).map (fun p=>(p.1,a.eval p.2))=#[(0,a.eval x)] by simp,hb2];rfl
 ·intro w' hw;have h0:(aA (0:Int).natAbs).length<=k:=by rw[show (0:Int).natAbs=0 from rfl,gA]; exact Nat.zero_le _
  exact⟨_,_,rfl,(hs w' hw).1,aL.nil (by decide),(hs w' hw).2,h0⟩
theorem tT {x y:Operand} {p q:Int} {j k:Nat} (ho:o.op=.build 30 #[(0,x),(1,y)]:=by exact rfl) (hd:o.dst=some d:=by exact rfl) (hn:d<n:=by exact bd) (hx:opd σ x=.av (.one (.d (.int p j))):=by exact rfl) (hy:opd σ y=.av (.one (.d (.int q k))):=by exact rfl):aN Tryz.prog cx n σ o (bH x++bH y) [(.s d,.av (.one (.d (.rt p q (max j k)))))]:=by
 refine fE hd hn rfl fun σ' ρ a w h hk=>?_;obtain⟨s,m,c,hv,hs⟩:=aFf (ρ:=ρ) (h.opd ((cR fun q hq=>hk q (by simp[hq])).trans hx));obtain⟨s',m',c',hv',hs'⟩:=aFf (ρ:=ρ) (h.opd ((cR fun q hq=>hk q (by simp[hq])).trans hy));refine⟨.agg #[.bool (decide (p<0)),.slice s m c,.bool (decide (q<0)),.slice s' m' c'],?_,?_⟩
 ·have hb:Tryz.prog.built 30 #[(0,a.eval x),(1,a.eval y)].toList=some #[.bool (decide (p<0)),.slice s m c,.bool (decide (q<0)),.slice s' m' c']:=by
   rw[hv,hv',aDo]
   kernel_rfl
  have hb2:=run_build w 30 #[(0,a.eval x),(1,a.eval y)] _ hb;simp only[execOp,ho,Sem.run_bind];rw[show (#[(0,x),(1,y)]:Array (Nat × Operand)).map (fun p=>(p.1,a.eval p.2))=#[(0,a.eval x),(1,a.eval y)] by simp,hb2];rfl
 ·intro w' hw;exact⟨_,_,rfl,(hs w' hw).1,(hs' w' hw).1,Nat.le_trans (hs w' hw).2 (Nat.le_max_left ..),Nat.le_trans (hs' w' hw).2 (Nat.le_max_right ..)⟩
end
theorem nW {z:Int}:((((aA z.natAbs).length:Nat):Int)==0)=decide (z=0):=by
 rw[Bool.eq_iff_iff];simp only[beq_iff_eq,decide_eq_true_eq];constructor
 ·intro h;have:=jF.1 (List.eq_nil_of_length_eq_zero (show (aA z.natAbs).length=0 by omega));omega
 ·rintro rfl;rfl
theorem dZ {p q p' q':Int} {k k':Nat} (hp:p=p') (hq:q=q') (hk:k<=k'):∀ L ρ w v,(SA.d (Dm.rt p q k)).is L ρ w v->(AV.one (SA.d (Dm.rt p' q' k'))).is L ρ w v:=by
 subst hp; subst hq;intro L ρ w v h w' hw;obtain⟨s,t,h1,h2,h3,h4,h5⟩:=h w' hw;exact⟨s,t,h1,h2,h3,Nat.le_trans h4 hk,Nat.le_trans h5 hk⟩
theorem sK {p p':Int} {k k':Nat} (hp:p=p') (hk:k<=k'):∀ L ρ w v,(SA.d (Dm.int p k)).is L ρ w v->(AV.one (SA.d (Dm.int p' k'))).is L ρ w v:=by
 subst hp;intro L ρ w v h w' hw;exact⟨(h w' hw).1,Nat.le_trans (h w' hw).2 hk⟩
theorem aMo {p p' q q':Int} {j j' k k':Nat} (hp:p=p') (hj:j<=j') (hq:q=q') (hk:k<=k'):∀ L ρ w v,(AV.tup [SA.d (Dm.int p j),SA.d (Dm.int q k)]).is L ρ w v->(AV.tup [SA.d (Dm.int p' j'),SA.d (Dm.int q' k')]).is L ρ w v:=by
 intro L ρ w v h;obtain⟨vs,rfl,h⟩:=h
 match vs,h with
 | [a,b],⟨h1,h2,_⟩=>exact⟨[a,b],rfl,sK hp hj L ρ w a h1,sK hq hk L ρ w b h2,trivial⟩
set_option maxRecDepth 100000
theorem aMg {m:Nat} (h:(aA m).length=1):(aA m).getD 0 0=m:=by
 have hv:=aX m
 match hd:aA m with
 | []=>rw[hd] at h; cases h
 | [x]=>rw[hd] at hv; simp only[val] at hv; rw[<- hv]; simp
 | _::_::_=>rw[hd] at h; cases h
theorem qI (p q:Int) (k:Nat):aD Tryz.prog 135 [.d (Dm.rt p q k)] (.one (.v (.bool (decide (q=0))))):=by
 refine aD.of (n:=8) Tryz.func135 rfl rfl rfl rfl rfl fun cx hfr=>?_;refine sr rfl ?_;refine p2 (cC (i:=0)) ?_;refine xn ?_;refine RV.done (sr rfl ?_);refine p1 (bJ mN) ?_;refine p1 (bJ pO) ?_;refine p1 (bM 3 aK9 pF) ?_;refine p1 (sN) ?_;refine p1 (cW) ?_;refine xn ?_;refine RV.done ?_;refine CV.ret ?_;rw[nW];exact aS rfl (.inr rfl) rfl cL
theorem tX (z:Int) (k:Nat):aD Tryz.prog 197 [.d (Dm.int z k)] (.one (.v (.bool (decide (z=1))))):=by
 refine aD.of (n:=19) Tryz.func197 rfl rfl rfl rfl rfl fun cx hfr=>?_;refine sr rfl ?_;refine p2 (cC (i:=0)) ?_;refine xn ?_;refine RV.done (sr rfl ?_);refine p1 (bJ aAw) ?_;refine p1 (bM 0 aE8 aAk) ?_;refine p1 (lN) ?_;refine xm ?_;refine RV.bool (fun h1=>?_) (fun h1=>?_)
 ·refine y1 (bJ pO) ?_;refine y1 (bM 1 sL pF) ?_;refine y1 (sN) ?_;refine y1 (cW) ?_;refine p1 (cX) ?_;refine xm ?_;refine RV.bool (fun h2=>?_) (fun h2=>?_)
  ·refine y1 (bJ pO) ?_;refine y1 (bM 1 sL pF) ?_;refine y1 (aNz (i:=0) (by simp at h2; omega) rfl rfl bd rfl rfl) ?_;refine y1 (aKq rfl rfl bd rfl) ?_;refine y1 (cW) ?_;refine p1 (cX) ?_;refine xn ?_;refine RV.done ?_;refine CV.ret ?_;refine aS rfl (.inr rfl) rfl (gB ?_);rw[aMg (by simp at h2; omega),Bool.eq_iff_iff];simp at h1 |-;omega
  ·refine xk ?_;refine xk ?_;refine xk ?_;refine xk ?_;refine xk ?_;refine p1 (eI) ?_;refine xn ?_;refine RV.done ?_;refine CV.ret ?_;refine aS rfl (.inr rfl) rfl (gB ?_);rw[eq_comm,decide_eq_false_iff_not];rintro rfl;cases h2
 ·refine xk ?_;refine xk ?_;refine xk ?_;refine xk ?_;refine p1 (eI) ?_;refine xm ?_;refine xk ?_;refine xk ?_;refine xk ?_;refine xk ?_;refine xk ?_;refine p1 (eI) ?_;refine xn ?_;refine RV.done ?_;refine CV.ret ?_;refine aS rfl (.inr rfl) rfl (gB ?_);rw[eq_comm,decide_eq_false_iff_not];simp at h1;omega
theorem aYx (p q:Int) (k:Nat):aD Tryz.prog 138 [.d (Dm.rt p q k)] (.one (.d (Dm.int (if q=0 then 1 else q) (k+3)))):=by
 refine aD.of (n:=8) Tryz.func138 rfl rfl rfl rfl rfl fun cx hfr=>?_;refine sr rfl ?_;refine p2 (cC (i:=0)) ?_;refine p2 (aU (i:=1) dC) ?_;refine RV.done ?_;refine CV.seq ?_;refine sr rfl ?_;refine p1 (aJ aC) ?_;refine xc (qI _ _ _) Tryz.func135 (xa rfl) hfr ?_;refine RV.done ?_;refine CV.cond rfl (fun hc=>?_) (fun hc=>?_)
 ·refine sr rfl ?_;refine xd rfl (aGe _ (by decide) (by decide)) Tryz.func145 (xa rfl) hfr ?_;refine p1 (aQ (aK).2) ?_;refine RV.done ?_;refine CV.ret ?_;exact aS rfl (.inr rfl) ⟨_,_,_,_,_,rfl,rfl,rfl,aK⟩ (sK (by rw[if_pos (by simpa using hc)]) (by omega))
 ·refine CV.skip ?_;refine sr rfl ?_;refine p1 (bJ mN) ?_;refine p1 (bM 2 pM aK) ?_;refine p1 (aQ (aK).2) ?_;refine RV.done ?_;refine CV.ret ?_;exact aS rfl (.inr rfl) ⟨_,_,_,_,_,rfl,rfl,rfl,aK⟩ (sK (by rw[if_neg (by simpa using hc)]) (by omega))
theorem sX (x y:Int) (j k:Nat) (hj:j<=1000000000) (hk:k<=1000000000):aD Tryz.prog 143 [.d (Dm.int x j),.d (Dm.int y k)] (.one (.d (Dm.int (x/y) j))):=by
 refine aD.of (n:=17) Tryz.func143 rfl rfl rfl rfl rfl fun cx hfr=>?_;refine sr rfl ?_;refine p2 (cC (i:=0)) ?_;refine p2 (cC (i:=1)) ?_;refine p2 (aU (i:=2) dC) ?_;refine RV.done ?_;refine CV.seq ?_;refine sr rfl ?_;refine p1 (aJ aK) ?_;refine xc (tX _ _) Tryz.func197 (xa rfl) hfr ?_;refine RV.done ?_;refine CV.cond rfl (fun hc=>?_) (fun hc=>?_)
 ·refine sr rfl ?_;refine p1 (aJ aK) ?_;refine p1 (aQ (aK).2) ?_;refine RV.done ?_;refine CV.ret ?_;exact aS rfl (.inr rfl) ⟨_,_,_,_,_,rfl,rfl,rfl,aK⟩ (sK (by rw[show y=1 by simpa using hc]; simp) (by omega))
 ·refine CV.skip ?_;refine sr rfl ?_;refine p1 (aJ aK) ?_;refine p1 (aJ aK) ?_;refine xc (aYv _ _ hj hk) Tryz.func201 (xb rfl rfl) hfr ?_;refine xm ?_;refine p1 (cO) ?_;refine p1 (cO) ?_;refine p2 (aU (i:=3) dC) ?_;refine p2 (aU (i:=4) dC) ?_;refine p1 (aQ (aK).2) ?_;refine p1 (aQ (aK).2) ?_;refine RV.done (sr rfl ?_);refine p1 (aJ aK) ?_;refine p1 (aQ (aK).2) ?_;refine RV.done ?_;refine CV.ret ?_;exact aS rfl (.inr rfl) ⟨_,_,_,_,_,rfl,rfl,rfl,aK⟩ cL
theorem rR (x y:Int) (j k:Nat) (hj:j<=500000000) (hk:k<=500000000):aD Tryz.prog 137 [.d (Dm.int x j),.d (Dm.int y k)] (.tup [.d (Dm.int (x/(Int.gcd x y:Nat)) j),.d (Dm.int (y/(Int.gcd x y:Nat)) k)]):=by
 refine aD.of (n:=20) Tryz.func137 rfl rfl rfl rfl rfl fun cx hfr=>?_;refine sr rfl ?_;refine p2 (cC (i:=0)) ?_;refine p2 (cC (i:=1)) ?_;refine p2 (aU (i:=2) dC) ?_;refine p2 (aU (i:=3) dC) ?_;refine RV.done ?_;refine CV.seq ?_;refine sr rfl ?_;refine p1 (aJ aK) ?_;refine xc (tX _ _) Tryz.func197 (xa rfl) hfr ?_;refine RV.done ?_;refine CV.cond rfl (fun hc=>?_) (fun hc=>?_)
 ·refine CV.seq ?_;refine CV.region rfl (fun _=>by kernel_rfl) ?_;refine p1 (aJ aK) ?_;refine p1 (aJ aK) ?_;refine p1 (aQ (aK).2) ?_;refine p1 (aQ (aK).2) ?_;refine bU (by kernel_rfl) ?_;refine CV.ret ?_;refine lS rfl (.inr rfl) ⟨_,_,_,_,_,rfl,rfl,rfl,aK⟩ ⟨_,_,_,_,_,rfl,rfl,rfl,aK⟩ (aMo ?_ (Nat.le_refl _) ?_ (Nat.le_refl _))
  all_goals rw[show y=1 by simpa using hc]; simp
 ·refine CV.skip ?_;refine sr rfl ?_;refine p1 (aJ aK) ?_;refine p1 (aJ aK) ?_;refine xd rfl (aA2 _ _ (by omega) (by omega)) Tryz.func142 (xb rfl rfl) hfr ?_;refine p2 (aU (i:=4) dC) ?_;refine p1 (aQ (aK).2) ?_;refine RV.done ?_;refine CV.seq ?_;refine CV.region rfl (fun _=>by kernel_rfl) ?_;refine p1 (aJ aK) ?_;refine p1 (aJ aK) ?_;refine xd rfl (sX _ _ _ _ (by omega) (by omega)) Tryz.func143 (xb rfl rfl) hfr ?_;refine p1 (aJ aK) ?_;refine p1 (aJ aK) ?_;refine xd rfl (sX _ _ _ _ (by omega) (by omega)) Tryz.func143 (xb rfl rfl) hfr ?_;refine p1 (aQ (aK).2) ?_;refine p1 (aQ (aK).2) ?_;refine bU (by kernel_rfl) ?_;refine CV.ret ?_;exact lS rfl (.inr rfl) ⟨_,_,_,_,_,rfl,rfl,rfl,aK⟩ ⟨_,_,_,_,_,rfl,rfl,rfl,aK⟩ sJ
end Vc
end Go.Proofs.YtbaihklbefhgdaaGreat

namespace Go.Proofs.YtbaihklbefhgdaaGreat
open Dg Zn
namespace Vc
def qd (a:Rat):Int:=if a.den=1 then 0 else a.den
theorem rF (a:Rat):(a.den:Int)≠0:=by have:=a.den_nz; omega
theorem yB (a:Rat):(if qd a=0 then 1 else qd a)=(a.den:Int):=by
 unfold qd;by_cases h:a.den=1
 ·simp[h]
 ·rw[if_neg h,if_neg (rF a)]
theorem qQ {a:Rat}:qd a=0 ↔ a.den=1:=by
 unfold qd;split
 ·rename_i h; simp[h]
 ·rename_i h; exact⟨fun h1=>absurd h1 (rF a),fun h1=>absurd h1 h⟩
theorem red (a:Rat):Int.gcd a.num a.den=1:=by
 rw[Int.gcd_eq_natAbs_gcd_natAbs];exact a.reduced
theorem bAi (a:Rat):Int.gcd a.den a.num=1:=by rw[Int.gcd_comm]; exact red a
theorem qS {p q:Int} (hc:Int.gcd p q=1):(Rat.divInt p q).num=q.sign*p:=by
 rw[Rat.num_divInt,Int.gcd_comm,hc];simp
theorem aAq {p q:Int} (hc:Int.gcd p q=1) (hq:q≠0):((Rat.divInt p q).den:Int)=(q.natAbs:Int):=by
 rw[Rat.den_divInt,Int.gcd_comm,hc];simp[hq]
theorem xQ {p q:Int} (hc:Int.gcd p q=1) (hq:q≠0):qd (Rat.divInt p q)=if q.natAbs=1 then 0 else (q.natAbs:Int):=by
 have h:=aAq hc hq;unfold qd;rw[show (Rat.divInt p q).den=q.natAbs by omega]
theorem wF (p:Int):(Rat.divInt p 0).num=0/\qd (Rat.divInt p 0)=0:=by
 rw[Rat.divInt_zero];exact⟨rfl,rfl⟩
theorem tA {x y x' y':Int} (h:Int.gcd x y=1) (hx:x' ∣ x) (hy:y' ∣ y):Int.gcd x' y'=1:=by
 have h1:=Int.gcd_dvd_gcd_of_dvd_left y hx;have h2:=Int.gcd_dvd_gcd_of_dvd_right x' hy;have h3:=Nat.dvd_trans h2 h1;rw[h] at h3;exact Nat.dvd_one.1 h3
theorem yZ {x y z:Int} (h1:Int.gcd x y=1) (h2:Int.gcd x z=1):Int.gcd x (y*z)=1:=by
 rw[Int.gcd_mul_right_right_of_gcd_eq_one h1]; exact h2
theorem yX {x y z:Int} (h1:Int.gcd x z=1) (h2:Int.gcd y z=1):Int.gcd (x*y) z=1:=by
 rw[Int.gcd_comm] at *;exact yZ h1 h2
theorem tZ (a b:Rat) (g m n s h p r:Int) (hg:g=(Int.gcd a.den b.den:Nat)) (hm:m=a.den/g) (hn:n=b.den/g) (hs:s=a.num*n+b.num*m) (hh:h=(Int.gcd s g:Nat)) (hp:p=s/h) (hr:r=g/h) :
  Int.gcd p (m*n*r)=1/\Rat.divInt p (m*n*r)=a+b:=by
 have ha:=rF a;have hb:=rF b;have hgp:0<Int.gcd a.den b.den:=Int.gcd_pos_of_ne_zero_left _ ha;have hg0:g≠0:=by omega
 have hga:g ∣ (a.den:Int):=by rw[hg]; exact Int.gcd_dvd_left ..
 have hgb:g ∣ (b.den:Int):=by rw[hg]; exact Int.gcd_dvd_right ..
 have ea:(a.den:Int)=m*g:=by rw[hm]; exact(Int.ediv_mul_cancel hga).symm
 have eb:(b.den:Int)=n*g:=by rw[hn]; exact(Int.ediv_mul_cancel hgb).symm
 have hhp:0<Int.gcd s g:=Int.gcd_pos_of_ne_zero_right _ hg0;have hh0:h≠0:=by omega
 have hhs:h ∣ s:=by rw[hh]; exact Int.gcd_dvd_left ..
 have hhg:h ∣ g:=by rw[hh]; exact Int.gcd_dvd_right ..
 have es:s=p*h:=by rw[hp]; exact(Int.ediv_mul_cancel hhs).symm
 have eg:g=r*h:=by rw[hr]; exact(Int.ediv_mul_cancel hhg).symm
 have hmn:Int.gcd m n=1:=by rw[hm,hn,hg]; exact Int.gcd_ediv_gcd_ediv_gcd hgp
 have hpr:Int.gcd p r=1:=by rw[hp,hr,hh]; exact Int.gcd_ediv_gcd_ediv_gcd hhp
 have hm0:m≠0:=fun e=>ha (by rw[ea,e,Int.zero_mul]);have hn0:n≠0:=fun e=>hb (by rw[eb,e,Int.zero_mul]);have hr0:r≠0:=fun e=>hg0 (by rw[eg,e,Int.zero_mul]);have h1m:Int.gcd a.num m=1:=tA (red a) (Int.dvd_refl _) ⟨g,ea⟩;have h2n:Int.gcd b.num n=1:=tA (red b) (Int.dvd_refl _) ⟨g,eb⟩;have hsm:Int.gcd s m=1:=by
  rw[hs,Int.gcd_add_mul_right_left];exact yX h1m (by rw[Int.gcd_comm]; exact hmn)
 have hsn:Int.gcd s n=1:=by
  rw[hs,Int.add_comm,Int.gcd_add_mul_right_left];exact yX h2n hmn
 have hps:p ∣ s:=⟨h,es⟩
 refine⟨yZ (yZ (tA hsm hps (Int.dvd_refl _)) (tA hsn hps (Int.dvd_refl _))) hpr,?_⟩;have hq0:m*n*r≠0:=Int.mul_ne_zero (Int.mul_ne_zero hm0 hn0) hr0;have e:a+b=Rat.divInt (a.num*b.den+b.num*a.den) (a.den*b.den):=by
  rw[<- Rat.divInt_add_divInt a.num b.num ha hb,Rat.num_divInt_den,Rat.num_divInt_den]
 rw[e,Rat.divInt_eq_divInt_iff hq0 (Int.mul_ne_zero ha hb),ea,eb];have:a.num*(n*g)+b.num*(m*g)=s*g:=by rw[hs]; grind
 rw[this,es,eg];grind
theorem tV (a b:Rat) (g h m n r s:Int) (hg:g=(Int.gcd a.num b.den:Nat)) (hh:h=(Int.gcd b.num a.den:Nat)) (hm:m=a.num/g) (hs:s=b.den/g) (hn:n=b.num/h) (hr:r=a.den/h) :
  Int.gcd (m*n) (r*s)=1/\Rat.divInt (m*n) (r*s)=a*b:=by
 have ha:=rF a;have hb:=rF b;have hgp:0<Int.gcd a.num b.den:=Int.gcd_pos_of_ne_zero_right _ hb;have hhp:0<Int.gcd b.num a.den:=Int.gcd_pos_of_ne_zero_right _ ha;have d1:g ∣ a.num:=by rw[hg]; exact Int.gcd_dvd_left ..
 have d2:g ∣ (b.den:Int):=by rw[hg]; exact Int.gcd_dvd_right ..
 have d3:h ∣ b.num:=by rw[hh]; exact Int.gcd_dvd_left ..
 have d4:h ∣ (a.den:Int):=by rw[hh]; exact Int.gcd_dvd_right ..
 have e1:a.num=m*g:=by rw[hm]; exact(Int.ediv_mul_cancel d1).symm
 have e2:(b.den:Int)=s*g:=by rw[hs]; exact(Int.ediv_mul_cancel d2).symm
 have e3:b.num=n*h:=by rw[hn]; exact(Int.ediv_mul_cancel d3).symm
 have e4:(a.den:Int)=r*h:=by rw[hr]; exact(Int.ediv_mul_cancel d4).symm
 have hms:Int.gcd m s=1:=by rw[hm,hs,hg]; exact Int.gcd_ediv_gcd_ediv_gcd hgp
 have hnr:Int.gcd n r=1:=by rw[hn,hr,hh]; exact Int.gcd_ediv_gcd_ediv_gcd hhp
 have hmr:Int.gcd m r=1:=tA (red a) ⟨g,e1⟩ ⟨h,e4⟩;have hns:Int.gcd n s=1:=tA (red b) ⟨h,e3⟩ ⟨g,e2⟩;have hr0:r≠0:=fun e=>ha (by rw[e4,e,Int.zero_mul]);have hs0:s≠0:=fun e=>hb (by rw[e2,e,Int.zero_mul]);refine⟨yZ (yX hmr hnr) (yX hms hns),?_⟩;have e:a*b=Rat.divInt (a.num*b.num) (a.den*b.den):=by
  rw[<- Rat.divInt_mul_divInt,Rat.num_divInt_den,Rat.num_divInt_den]
 rw[e,Rat.divInt_eq_divInt_iff (Int.mul_ne_zero hr0 hs0) (Int.mul_ne_zero ha hb),e4,e2];rw[e1,e3];grind
theorem aHi {a b:Rat} (ha:a.den=1) (hb:b.den=1):(a+b).num=a.num+b.num/\(a+b).den=1/\(a*b).num=a.num*b.num/\(a*b).den=1:=by
 have xa:Rat.divInt a.num 1=a:=by have h:=Rat.num_divInt_den a; rw[ha] at h; exact h
 have xb:Rat.divInt b.num 1=b:=by have h:=Rat.num_divInt_den b; rw[hb] at h; exact h
 have e:a+b=Rat.divInt (a.num+b.num) 1:=by
  have h:=Rat.divInt_add_divInt a.num b.num (d₁:=1) (d₂:=1) (by decide) (by decide);rw[xa,xb] at h;rw[h];simp
 have e':a*b=Rat.divInt (a.num*b.num) 1:=by
  have h:=Rat.divInt_mul_divInt a.num b.num (d₁:=1) (d₂:=1);rw[xa,xb] at h;rw[h];simp
 have hg:∀ x:Int,Int.gcd x 1=1:=fun x=>Int.gcd_one_right x;refine⟨?_,?_,?_,?_⟩
 ·rw[e,qS (hg _)]; simp
 ·have:=aAq (hg (a.num+b.num)) (by decide); rw[e]; omega
 ·rw[e',qS (hg _)]; simp
 ·have:=aAq (hg (a.num*b.num)) (by decide); rw[e']; omega
theorem aCz (p q:Int) (hq:q≠0):Int.gcd (p/(Int.gcd p q:Nat)) (q/(Int.gcd p q:Nat))=1/\Rat.divInt (p/(Int.gcd p q:Nat)) (q/(Int.gcd p q:Nat))=Rat.divInt p q:=by
 have hg:0<Int.gcd p q:=Int.gcd_pos_of_ne_zero_right _ hq;have d1:((Int.gcd p q:Nat):Int) ∣ p:=Int.gcd_dvd_left ..;have d2:((Int.gcd p q:Nat):Int) ∣ q:=Int.gcd_dvd_right ..;refine⟨Int.gcd_ediv_gcd_ediv_gcd hg,?_⟩;obtain⟨x,hx⟩:=d1;obtain⟨y,hy⟩:=d2;generalize ((Int.gcd p q:Nat):Int)=G at *;have hG:G≠0:=by rintro rfl; rw[Int.zero_mul] at hy; exact hq hy
 have h1:p/G=x:=by rw[hx]; exact Int.mul_ediv_cancel_left _ hG
 have h2:q/G=y:=by rw[hy]; exact Int.mul_ediv_cancel_left _ hG
 have hy0:y≠0:=by rintro rfl; rw[Int.mul_zero] at hy; exact hq hy
 rw[h1,h2,Rat.divInt_eq_divInt_iff hy0 hq];rw[hx,hy];grind
theorem aSl {q:Int} (h:(bA q 0==0)=true):q=0:=by
 have h:bA q 0=0:=by simpa using h
 unfold bA at h;split at h
 ·omega
 ·split at h<;>omega
theorem aKf {q:Int} (h:(bA q 0 == -1)=true):q<0:=by
 have h:bA q 0 = -1:=by simpa using h
 unfold bA at h;split at h
 ·omega
 ·split at h<;>omega
theorem aKe {q:Int} (h:(bA q 0==0)=false) (h':(bA q 0 == -1)=false):0<q:=by
 have h:bA q 0≠0:=by simpa using h
 have h':bA q 0 ≠ -1:=by simpa using h'
 unfold bA at h h';split at h
 ·simp_all
 ·split at h<;>omega
end Vc
end Go.Proofs.YtbaihklbefhgdaaGreat

namespace Go.Proofs.YtbaihklbefhgdaaGreat
open Go.RowKit
open Go.Lib (hid)
open Dg Zn
namespace Vc
set_option maxRecDepth 100000
abbrev RT (a:Rat) (k:Nat):SA Dm:=.d (Dm.rt a.num (qd a) k)
theorem tD (p q:Int) (j k:Nat) (hc:q≠0->Int.gcd p q=1):aD Tryz.prog 139 [.d (Dm.int p j),.d (Dm.int q k)] (.one (RT (Rat.divInt p q) (max j k))):=by
 refine aD.of (n:=23) Tryz.func139 rfl rfl rfl rfl rfl fun cx hfr=>?_;refine sr rfl ?_;refine p2 (cC (i:=0)) ?_;refine p2 (cC (i:=1)) ?_;refine p2 (aU (i:=2) cI) ?_;refine RV.done ?_;refine CV.seq ?_;refine sr rfl ?_;refine p1 (aJ aK) ?_;refine xc (aLv _) Tryz.func140 (xa rfl) hfr ?_;refine RV.done ?_;refine CV.block ?_;refine sr rfl ?_;refine p1 (cW) ?_;refine xn ?_;refine RV.done ?_;refine CV.cond rfl (fun h1=>?_) (fun h1=>?_)
 ·refine sr rfl ?_;refine p1 (pA) ?_;refine p1 (aQ (aC).2) ?_;refine RV.done ?_;refine CV.ret ?_;obtain rfl:=aSl h1;exact aS rfl (.inr rfl) ⟨_,_,_,_,_,rfl,rfl,rfl,aC⟩ (dZ (wF p).1.symm (wF p).2.symm (Nat.zero_le _))
 ·refine sr rfl ?_;refine p1 (cW) ?_;refine xn ?_;refine RV.done ?_;refine CV.cond rfl (fun h2=>?_) (fun h2=>?_)
  ·refine CV.region rfl (fun _=>by kernel_rfl) ?_;refine p1 (aJ aK) ?_;refine xc (aFn _) Tryz.func186 (xa rfl) hfr ?_;refine p1 (aJ aK) ?_;refine xc (aFn _) Tryz.func186 (xa rfl) hfr ?_;refine p1 (aQ (aK).2) ?_;refine p1 (aQ (aK).2) ?_;refine bU (by kernel_rfl) ?_;refine CV.seq ?_;refine sr rfl ?_;refine p1 (aJ aK) ?_;refine xc (tX _ _) Tryz.func197 (xa rfl) hfr ?_;refine RV.done ?_;refine CV.cond rfl (fun h3=>?_) (fun h3=>?_)
   ·refine sr rfl ?_;refine p1 (aJ aK) ?_;refine p1 (rY) ?_;refine p1 (aQ (aC).2) ?_;refine RV.done ?_;refine CV.ret ?_;have hq:=aKf h2;have h4 : -q=1:=by simpa using h3
    refine aS rfl (.inr rfl) ⟨_,_,_,_,_,rfl,rfl,rfl,aC⟩ (dZ ?_ ?_ (Nat.le_max_left ..))
    ·rw[qS (hc (by omega)),Int.sign_eq_neg_one_of_neg hq]; omega
    ·rw[xQ (hc (by omega)) (by omega),if_pos (by omega)]
   ·refine CV.skip ?_;refine sr rfl ?_;refine p1 (aJ aK) ?_;refine p1 (aJ aK) ?_;refine p1 (tT) ?_;refine p1 (aQ (aC).2) ?_;refine RV.done ?_;refine CV.ret ?_;have hq:=aKf h2;have h4:¬ -q=1:=by simpa using h3
    refine aS rfl (.inr rfl) ⟨_,_,_,_,_,rfl,rfl,rfl,aC⟩ (dZ ?_ ?_ (Nat.le_refl _))
    ·rw[qS (hc (by omega)),Int.sign_eq_neg_one_of_neg hq]; omega
    ·rw[xQ (hc (by omega)) (by omega),if_neg (by omega)]; omega
  ·refine CV.skip ?_;refine CV.seq ?_;refine sr rfl ?_;refine p1 (aJ aK) ?_;refine xc (tX _ _) Tryz.func197 (xa rfl) hfr ?_;refine RV.done ?_;refine CV.cond rfl (fun h3=>?_) (fun h3=>?_)
   ·refine sr rfl ?_;refine p1 (aJ aK) ?_;refine p1 (rY) ?_;refine p1 (aQ (aC).2) ?_;refine RV.done ?_;refine CV.ret ?_;have hq:=aKe h1 h2;have h4:q=1:=by simpa using h3
    refine aS rfl (.inr rfl) ⟨_,_,_,_,_,rfl,rfl,rfl,aC⟩ (dZ ?_ ?_ (Nat.le_max_left ..))
    ·rw[qS (hc (by omega)),Int.sign_eq_one_of_pos hq]; omega
    ·rw[xQ (hc (by omega)) (by omega),if_pos (by omega)]
   ·refine CV.skip ?_;refine sr rfl ?_;refine p1 (aJ aK) ?_;refine p1 (aJ aK) ?_;refine p1 (tT) ?_;refine p1 (aQ (aC).2) ?_;refine RV.done ?_;refine CV.ret ?_;have hq:=aKe h1 h2;have h4:¬ q=1:=by simpa using h3
    refine aS rfl (.inr rfl) ⟨_,_,_,_,_,rfl,rfl,rfl,aC⟩ (dZ ?_ ?_ (Nat.le_refl _))
    ·rw[qS (hc (by omega)),Int.sign_eq_one_of_pos hq]; omega
    ·rw[xQ (hc (by omega)) (by omega),if_neg (by omega)]; omega
theorem iJ (a:Rat) (k:Nat):aD Tryz.prog 138 [RT a k] (.one (.d (Dm.int a.den (k+3)))):=by
 have h:=aYx a.num (qd a) k;rwa[yB] at h
theorem xE (a b:Rat) (j k:Nat) (hj:j<=10000000) (hk:k<=10000000):aD Tryz.prog 73 [RT a j,RT b k] (.one (RT (a+b) (3*(j+k)+20))):=by
 refine aD.of (n:=58) Tryz.func73 rfl rfl rfl rfl rfl fun cx hfr=>?_;refine sr rfl ?_;refine p2 (cC (i:=0)) ?_;refine p2 (cC (i:=1)) ?_;refine p2 (aU (i:=2) cI) ?_;refine RV.done ?_;refine CV.seq ?_;refine sr rfl ?_;refine p1 (aJ aC) ?_;refine xc (qI _ _ _) Tryz.func135 (xa rfl) hfr ?_;refine xm ?_;refine RV.bool (fun h1=>?_) (fun h1=>?_)
 ·refine y1 (aJ aC) ?_;refine y1 (cG (qI _ _ _) rfl rfl bd Tryz.func135 rfl rfl (xa rfl) rfl hfr rfl) ?_;refine p1 (cX) ?_;refine RV.done ?_;refine CV.cond rfl (fun h2=>?_) (fun h2=>?_)
  ·refine sr rfl ?_;refine p1 (bJ dH) ?_;refine p1 (bM 0 dG aK) ?_;refine p1 (bJ dH) ?_;refine p1 (bM 0 dG aK) ?_;refine xd rfl (aFo _ _ (by omega) (by omega)) Tryz.func141 (xb rfl rfl) hfr ?_;refine p1 (rY) ?_;refine p1 (aQ (aC).2) ?_;refine RV.done ?_;refine CV.ret ?_;have ha:=qQ.1 (by simpa using h1);have hb:=qQ.1 (by simpa using h2);obtain⟨e1,e2,-,-⟩:=aHi ha hb;exact aS rfl (.inr rfl) ⟨_,_,_,_,_,rfl,rfl,rfl,aC⟩ (dZ e1.symm (qQ.2 e2).symm (by omega))
  ·refine CV.skip ?_;refine CV.seq ?_;refine CV.region rfl (fun _=>by kernel_rfl) ?_;refine p1 (aJ aC) ?_;refine xc (iJ _ _) Tryz.func138 (xa rfl) hfr ?_;refine p1 (aJ aC) ?_;refine xc (iJ _ _) Tryz.func138 (xa rfl) hfr ?_;refine xd rfl (aA2 _ _ (by omega) (by omega)) Tryz.func142 (xb rfl rfl) hfr ?_;refine p2 (aU (i:=3) dC) ?_;refine p1 (aQ (aK).2) ?_;refine bU (by kernel_rfl) ?_;refine CV.seq ?_;refine CV.region rfl (fun _=>by kernel_rfl) ?_;refine p1 (aJ aC) ?_;refine xc (iJ _ _) Tryz.func138 (xa rfl) hfr ?_;refine p1 (aJ aK) ?_;refine xd rfl (sX _ _ _ _ (by omega) (by omega)) Tryz.func143 (xb rfl rfl) hfr ?_;refine p1 (aJ aC) ?_;refine xc (iJ _ _) Tryz.func138 (xa rfl) hfr ?_;refine p1 (aJ aK) ?_;refine xd rfl (sX _ _ _ _ (by omega) (by omega)) Tryz.func143 (xb rfl rfl) hfr ?_;refine p2 (aU (i:=4) dC) ?_;refine p2 (aU (i:=5) dC) ?_;refine p1 (aQ (aK).2) ?_;refine p1 (aQ (aK).2) ?_;refine bU (by kernel_rfl) ?_;refine CV.seq ?_;refine CV.region rfl (fun _=>by kernel_rfl) ?_;refine p1 (bJ dH) ?_;refine p1 (bM 0 dG aK) ?_;refine p1 (aJ aK) ?_;refine xd rfl (iU _ _ (by omega) (by omega)) Tryz.func136 (xb rfl rfl) hfr ?_;refine p1 (bJ dH) ?_;refine p1 (bM 0 dG aK) ?_;refine p1 (aJ aK) ?_;refine xd rfl (iU _ _ (by omega) (by omega)) Tryz.func136 (xb rfl rfl) hfr ?_;refine xd rfl (aFo _ _ (by omega) (by omega)) Tryz.func141 (xb rfl rfl) hfr ?_;refine p2 (aU (i:=6) dC) ?_;refine p1 (aQ (aK).2) ?_;refine bU (by kernel_rfl) ?_;refine sr rfl ?_;refine p1 (aJ aK) ?_;refine p1 (aJ aK) ?_;refine xd rfl (rR _ _ _ _ (by omega) (by omega)) Tryz.func137 (xb rfl rfl) hfr ?_;refine xm ?_;refine p1 (cO) ?_;refine p1 (cO) ?_;refine p2 (aU (i:=7) dC) ?_;refine p2 (aU (i:=8) dC) ?_;refine p1 (aQ (aK).2) ?_;refine p1 (aQ (aK).2) ?_;refine RV.done ?_;refine CV.seq ?_;refine CV.region rfl (fun _=>by kernel_rfl) ?_;refine p1 (aJ aK) ?_;refine p1 (aJ aK) ?_;refine p1 (aJ aK) ?_;refine xd rfl (iU _ _ (by omega) (by omega)) Tryz.func136 (xb rfl rfl) hfr ?_;refine p1 (aJ aK) ?_;refine xd rfl (iU _ _ (by omega) (by omega)) Tryz.func136 (xb rfl rfl) hfr ?_;refine xc (tD _ _ _ _ (fun _=>(tZ a b _ _ _ _ _ _ _ rfl rfl rfl rfl rfl rfl rfl).1)) Tryz.func139 (xb rfl rfl) hfr ?_;refine p1 (aQ (aC).2) ?_;refine bU (by kernel_rfl) ?_;refine CV.ret ?_;exact aS rfl (.inr rfl) ⟨_,_,_,_,_,rfl,rfl,rfl,aC⟩ (dZ (by rw[(tZ a b _ _ _ _ _ _ _ rfl rfl rfl rfl rfl rfl rfl).2]) (by rw[(tZ a b _ _ _ _ _ _ _ rfl rfl rfl rfl rfl rfl rfl).2]) (by omega))
 ·refine xk ?_;refine xk ?_;refine p1 (eI) ?_;refine RV.done ?_;refine CV.no rfl ?_;refine CV.skip ?_;refine CV.seq ?_;refine CV.region rfl (fun _=>by kernel_rfl) ?_;refine p1 (aJ aC) ?_;refine xc (iJ _ _) Tryz.func138 (xa rfl) hfr ?_;refine p1 (aJ aC) ?_;refine xc (iJ _ _) Tryz.func138 (xa rfl) hfr ?_;refine xd rfl (aA2 _ _ (by omega) (by omega)) Tryz.func142 (xb rfl rfl) hfr ?_;refine p2 (aU (i:=3) dC) ?_;refine p1 (aQ (aK).2) ?_;refine bU (by kernel_rfl) ?_;refine CV.seq ?_;refine CV.region rfl (fun _=>by kernel_rfl) ?_;refine p1 (aJ aC) ?_;refine xc (iJ _ _) Tryz.func138 (xa rfl) hfr ?_;refine p1 (aJ aK) ?_;refine xd rfl (sX _ _ _ _ (by omega) (by omega)) Tryz.func143 (xb rfl rfl) hfr ?_;refine p1 (aJ aC) ?_;refine xc (iJ _ _) Tryz.func138 (xa rfl) hfr ?_;refine p1 (aJ aK) ?_;refine xd rfl (sX _ _ _ _ (by omega) (by omega)) Tryz.func143 (xb rfl rfl) hfr ?_;refine p2 (aU (i:=4) dC) ?_;refine p2 (aU (i:=5) dC) ?_;refine p1 (aQ (aK).2) ?_;refine p1 (aQ (aK).2) ?_;refine bU (by kernel_rfl) ?_;refine CV.seq ?_;refine CV.region rfl (fun _=>by kernel_rfl) ?_;refine p1 (bJ dH) ?_;refine p1 (bM 0 dG aK) ?_;refine p1 (aJ aK) ?_;refine xd rfl (iU _ _ (by omega) (by omega)) Tryz.func136 (xb rfl rfl) hfr ?_;refine p1 (bJ dH) ?_;refine p1 (bM 0 dG aK) ?_;refine p1 (aJ aK) ?_;refine xd rfl (iU _ _ (by omega) (by omega)) Tryz.func136 (xb rfl rfl) hfr ?_;refine xd rfl (aFo _ _ (by omega) (by omega)) Tryz.func141 (xb rfl rfl) hfr ?_;refine p2 (aU (i:=6) dC) ?_;refine p1 (aQ (aK).2) ?_;refine bU (by kernel_rfl) ?_;refine sr rfl ?_;refine p1 (aJ aK) ?_;refine p1 (aJ aK) ?_;refine xd rfl (rR _ _ _ _ (by omega) (by omega)) Tryz.func137 (xb rfl rfl) hfr ?_;refine xm ?_;refine p1 (cO) ?_;refine p1 (cO) ?_;refine p2 (aU (i:=7) dC) ?_;refine p2 (aU (i:=8) dC) ?_;refine p1 (aQ (aK).2) ?_;refine p1 (aQ (aK).2) ?_;refine RV.done ?_;refine CV.seq ?_;refine CV.region rfl (fun _=>by kernel_rfl) ?_;refine p1 (aJ aK) ?_;refine p1 (aJ aK) ?_;refine p1 (aJ aK) ?_;refine xd rfl (iU _ _ (by omega) (by omega)) Tryz.func136 (xb rfl rfl) hfr ?_;refine p1 (aJ aK) ?_;refine xd rfl (iU _ _ (by omega) (by omega)) Tryz.func136 (xb rfl rfl) hfr ?_;refine xc (tD _ _ _ _ (fun _=>(tZ a b _ _ _ _ _ _ _ rfl rfl rfl rfl rfl rfl rfl).1)) Tryz.func139 (xb rfl rfl) hfr ?_;refine p1 (aQ (aC).2) ?_;refine bU (by kernel_rfl) ?_;refine CV.ret ?_;exact aS rfl (.inr rfl) ⟨_,_,_,_,_,rfl,rfl,rfl,aC⟩ (dZ (by rw[(tZ a b _ _ _ _ _ _ _ rfl rfl rfl rfl rfl rfl rfl).2]) (by rw[(tZ a b _ _ _ _ _ _ _ rfl rfl rfl rfl rfl rfl rfl).2]) (by omega))
end Vc
end Go.Proofs.YtbaihklbefhgdaaGreat

namespace Go.Proofs.YtbaihklbefhgdaaGreat
open Go.RowKit
open Dg Zn
namespace Vc
theorem aRr (w:World):gO (fun _=>False) w:=fun _ h=>h.elim
theorem aX3 {w:World} {v:Value} {l:List Int} (h:aGm w v l):(SA.d (Dm.ints l)).is (fun _=>False) (fun _=>(0,0)) w v:=by
 intro w' hag;obtain⟨h0,ao,cap,h1,h2,h3,h4⟩:=h;refine⟨h0,ao,cap,h1,h2,h3,fun hl=>?_⟩;obtain⟨b,off,h5,h6⟩:=h4 hl;exact⟨b,off,h5,fun i hi=>aIj (L:=fun _=>False) (fun q=>q) hag (h6 i hi)⟩
theorem aD.walk {P:Program} {f:FuncId} {args:List (SA Dm)} {b:Bool} (hcon:aD P f args (.one (.v (.bool b)))) {w:World} {vs:List Value} (h:dR (fun _=>False) (fun _=>(0,0)) w args vs):Calls P f vs.toArray w (aB0 w b):=by
 refine(hcon (fun _=>False) (fun _=>(0,0)) w vs (fun _ h=>h.elim) (aRr w) trivial h).mono ?_;rintro e w' ⟨v,rfl,h1,h2⟩;exact⟨congrArg Ending.returned h2,h1⟩
end Vc
end Go.Proofs.YtbaihklbefhgdaaGreat
