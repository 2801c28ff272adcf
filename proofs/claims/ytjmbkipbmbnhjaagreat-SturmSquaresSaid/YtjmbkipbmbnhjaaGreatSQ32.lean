/-
  
-/
import Derived.Test.YtjmbkipbmbnhjaaGreatSQ8
import Derived.Test.YtjmbkipbmbnhjaaGreatSQ26
import Derived.Test.YtjmbkipbmbnhjaaGreatSQ22
import Derived.Test.YtjmbkipbmbnhjaaGreatSQ28
import Derived.Test.YtjmbkipbmbnhjaaGreatSQ31
import Derived.Test.YtjmbkipbmbnhjaaGreatSQ9
set_option linter.unusedVariables false
set_option linter.unusedSimpArgs false
set_option linter.unusedSectionVars false
namespace Go.Proofs.YtjmbkipbmbnhjaaGreat
open Go.RowKit
open Go.Lib (hid)
open Dg Zn
namespace Vc
structure qW where
 is:World->Value->Prop
 shape:Option Nat
 plain:Bool
 ok:∀ w v,is w v->∃ cs,Shaped shape v cs
 pl:plain=true->∀ w v,is w v->∀ c∈v.cells.toList,cW c=true
inductive Dm where
 | int (z:Int) (k:Nat)
 | nums (m:Nat)
 | cell (x:Int)
 | rt (p q:Int) (k:Nat)
 | ints (zs:List Int)
 | lint (l:List Int) (k:Nat)
 | pint (z:Int) (k:Nat)
 | llint (l:List (List Int)) (k:Nat)
 | plint (l:List Int) (k:Nat)
 | dl (ds:List Nat)
 | full (ds:List Nat)
 | gen (g:qW)
def aFk (w:World) (v:Value) (l:List Int) (k:Nat):Prop :=
 ∃ ao cap,v=.slice ao l.length cap/\(0<l.length->∃ b off,ao=some ⟨b,off,none⟩/\∀ i,i<l.length->∃ s,w.cell? ⟨b,off+2*i,none⟩=some (.bool (decide (l.getD i 0<0)))/\w.cell? ⟨b,off+2*i+1,none⟩=some s/\aM w s (aA (l.getD i 0).natAbs)/\len (l.getD i 0)<=k)
def Dm.at:Dm->World->Value->Prop
 | .int z k,w,v=>aZ w v z/\len z<=k
 | .nums m,w,v=>aM w v (aA m)
 | .cell x,w,v=>∃ a,v=.pointer (some a)/\w.cell? a=some (.int .i64 x)
 | .rt p q k,w,v=>∃ s t,v=.agg #[.bool (decide (p<0)),s,.bool (decide (q<0)),t]/\aM w s (aA p.natAbs)/\aM w t (aA q.natAbs)/\len p<=k/\len q<=k
 | .ints zs,w,v=>aBf w v zs
 | .lint l k,w,v=>aFk w v l k
 | .pint z k,w,v=>∃ b off s,v=.pointer (some ⟨b,off,none⟩)/\w.cell? ⟨b,off,none⟩=some (.bool (decide (z<0)))/\w.cell? ⟨b,off+1,none⟩=some s/\aM w s (aA z.natAbs)/\len z<=k
 | .llint l k,w,v=>∃ ao cap,v=.slice ao l.length cap/\(0<l.length->∃ b off,ao=some ⟨b,off,none⟩/\∀ i,i<l.length->∃ s,w.cell? ⟨b,off+i,none⟩=some s/\aFk w s (l.getD i []) k)
 | .plint l k,w,v=>∃ b off s,v=.pointer (some ⟨b,off,none⟩)/\w.cell? ⟨b,off,none⟩=some s/\aFk w s l k
 | .dl ds,w,v=>aM w v ds
 | .full ds,w,v=>aM w v ds/\∃ ao,v=.slice ao ds.length ds.length
 | .gen g,w,v=>g.is w v
def Dm.shape:Dm->Option Nat
 | .int _ _=>some 2
 | .rt _ _ _=>some 4
 | .gen g=>g.shape
 | _=>none
def Dm.plain:Dm->Bool
 | .gen g=>g.plain
 | _=>true
theorem kL {w:World} {v:Value} {ds:List Nat} (h:aM w v ds):∃ a n c,v=.slice a n c:=by
 obtain⟨a,c,h,_⟩:=h;exact⟨a,_,c,h⟩
instance:bR Dm where
 dat:=Dm.at
 shape:=Dm.shape
 plain:=Dm.plain
 shape_ok:=by
  intro x w v h;cases x with
  | int z k =>
   obtain⟨⟨s,rfl,hs⟩,_⟩:=h;obtain⟨a,n,c,rfl⟩:=kL hs;exact⟨[_,_],rfl,rfl,by simp[Value.oneCell']⟩
  | nums m=>obtain⟨a,n,c,rfl⟩:=kL h; exact⟨_,rfl,rfl⟩
  | cell x=>obtain⟨a,rfl,_⟩:=h; exact⟨_,rfl,rfl⟩
  | rt p q k =>
   obtain⟨s,t,rfl,hs,ht,_⟩:=h;obtain⟨a,n,c,rfl⟩:=kL hs;obtain⟨a',n',c',rfl⟩:=kL ht;exact⟨[_,_,_,_],rfl,rfl,by simp[Value.oneCell']⟩
  | ints zs=>obtain⟨_,a,c,rfl,_⟩:=h; exact⟨_,rfl,rfl⟩
  | lint l k=>obtain⟨a,c,rfl,_⟩:=h; exact⟨_,rfl,rfl⟩
  | pint z k=>obtain⟨b,off,s,rfl,_⟩:=h; exact⟨_,rfl,rfl⟩
  | llint l k=>obtain⟨a,c,rfl,_⟩:=h; exact⟨_,rfl,rfl⟩
  | plint l k=>obtain⟨b,off,s,rfl,_⟩:=h; exact⟨_,rfl,rfl⟩
  | dl ds=>obtain⟨a,n,c,rfl⟩:=kL h; exact⟨_,rfl,rfl⟩
  | full ds=>obtain⟨_,a,rfl⟩:=h; exact⟨_,rfl,rfl⟩
  | gen g=>exact g.ok w v h
 W:=fun _=>True
 W_keep:=fun _ _ _ h=>h
 plain_ok:=by
  intro x w v hp h;cases x with
  | int z k =>
   obtain⟨⟨s,rfl,hs⟩,_⟩:=h;obtain⟨a,n,c,rfl⟩:=kL hs;simp[Value.cells,cW]
  | nums m=>obtain⟨a,n,c,rfl⟩:=kL h; simp[Value.cells,cW]
  | cell x=>obtain⟨a,rfl,_⟩:=h; simp[Value.cells,cW]
  | rt p q k =>
   obtain⟨s,t,rfl,hs,ht,_⟩:=h;obtain⟨a,n,c,rfl⟩:=kL hs;obtain⟨a',n',c',rfl⟩:=kL ht;simp[Value.cells,cW]
  | ints zs=>obtain⟨_,a,c,rfl,_⟩:=h; simp[Value.cells,cW]
  | lint l k=>obtain⟨a,c,rfl,_⟩:=h; simp[Value.cells,cW]
  | pint z k=>obtain⟨b,off,s,rfl,_⟩:=h; simp[Value.cells,cW]
  | llint l k=>obtain⟨a,c,rfl,_⟩:=h; simp[Value.cells,cW]
  | plint l k=>obtain⟨b,off,s,rfl,_⟩:=h; simp[Value.cells,cW]
  | dl ds=>obtain⟨a,n,c,rfl⟩:=kL h; simp[Value.cells,cW]
  | full ds=>obtain⟨_,a,rfl⟩:=h; simp[Value.cells,cW]
  | gen g=>exact g.pl hp w v h
/-! Numbers are not met by what changes: the last digit of one isn't 0. -/
theorem aUi {L:Nat->Prop} {w:World} (hn:gH L w) {a:Addr} {z:Int} (h:w.cell? a=some (.int .i64 z)) (hz:z≠0):¬ L a.block:=by
 intro hL;simp only[World.cell?] at h;cases hq:w.heap[a.block]? with
 | none=>rw[hq] at h; cases h
 | some ob =>
  rw[hq] at h;cases ob with
  | cells cs T fr =>
   simp only at h;split at h
   ·cases h
   ·have:=hn a.block hL cs T fr hq (.int .i64 z) (by
     rw[Array.mem_toList_iff];exact Array.mem_of_getElem? h)
    exact hz (of_decide_eq_true this)
  | _=>cases h
theorem aHh {L:Nat->Prop} {w w':World} {a:Addr} {v:Value} (hL:¬ L a.block) (hag:Agree L w w') (h:w.cell? a=some v):w'.cell? a=some v:=by
 have hb:a.block<w.heap.size:=by
  rcases Nat.lt_or_ge a.block w.heap.size with hb | hb
  ·exact hb
  ·exfalso;simp only[World.cell?] at h;rw[Array.getElem?_eq_none (by omega)] at h;cases h
 rw[World.cell?_of_block (w:=w) (hag.2 a.block hb hL)];exact h
theorem aP9 {L:Nat->Prop} {w w':World} {v:Value} {ds:List Nat} (h:aM w v ds) (hl:0<ds.length->ds.getD (ds.length-1) 0≠0) (hn:gH L w) (hag:Agree L w w'):aM w' v ds:=by
 obtain⟨a,c,h1,h2,h3,h4⟩:=h;refine⟨a,c,h1,h2,h3,fun hp=>?_⟩;obtain⟨b,off,h5,h6⟩:=h4 hp;have hL:¬ L b:=aUi hn (h6 (ds.length-1) (by omega)) (by have:=hl hp; omega);exact⟨b,off,h5,fun i hi=>aHh hL hag (h6 i hi)⟩
theorem aRz {L:Nat->Prop} {w w':World} {v:Value} {z:Int} (h:aZ w v z) (hn:gH L w) (hag:Agree L w w'):aZ w' v z:=by
 obtain⟨s,h1,h2⟩:=h;refine⟨s,h1,aP9 h2 (fun hp=>aDw ?_) hn hag⟩;rcases Nat.eq_zero_or_pos z.natAbs with h0 | h0
 ·rw[h0,gA] at hp; exact absurd hp (by decide)
 ·exact h0
theorem aGl {L:Nat->Prop} {w w':World} (hn:gH L w) (hlt:∀ b,L b->b<w.heap.size) (hb:Below w.heap.size w w'):gH L w':=fun b hL cs T fr h=>hn b hL cs T fr (by rw[<- hb.block b (hlt b hL)]; exact h)
theorem xH {L:Nat->Prop} {ρ:aX} {w w':World} {v:Value} {z:Int} {k:Nat} (h:aZ w' v z) (hk:len z<=k) (hn:gH L w) (hlt:∀ b,L b->b<w.heap.size) (hb:Below w.heap.size w w'):(SA.d (Dm.int z k)).is L ρ w' v :=
 fun _ hag=>⟨aRz h (aGl hn hlt hb) hag,hk⟩
theorem qJ {L:Nat->Prop} {ρ:aX} {w:World} {v:Value} {z:Int} {k:Nat} (h:(SA.d (Dm.int z k)).is L ρ w v):aZ w v z/\len z<=k:=h w (Agree.refl _ _)
variable {P:Program}
theorem uG {f:FuncId} {x y z:Int} {j k m:Nat} (h:∀ vx vy w,aZ w vx x->aZ w vy y->len x<=j->len y<=k->Calls P f #[vx,vy] w (eW w z)) (hm:len x<=j->len y<=k->len z<=m):aC P f [.d (Dm.int x j),.d (Dm.int y k)] (.one (.d (Dm.int z m))):=by
 rintro L ρ w vs hlt hn hwf hall
 match vs,hall with
 | [vx,vy],⟨h1,h2,_⟩ =>
  obtain⟨h1,l1⟩:=qJ h1;obtain⟨h2,l2⟩:=qJ h2;refine(h vx vy w h1 h2 l1 l2).mono ?_;rintro e w' ⟨v,rfl,h3,h4⟩;exact⟨v,rfl,h4,xH (ρ:=ρ) h3 (hm l1 l2) hn hlt h4⟩
theorem aKd {f:FuncId} {x z:Int} {j m:Nat} (h:∀ vx w,aZ w vx x->len x<=j->Calls P f #[vx] w (eW w z)) (hm:len x<=j->len z<=m):aC P f [.d (Dm.int x j)] (.one (.d (Dm.int z m))):=by
 rintro L ρ w vs hlt hn hwf hall
 match vs,hall with
 | [vx],⟨h1,_⟩ =>
  obtain⟨h1,l1⟩:=qJ h1;refine(h vx w h1 l1).mono ?_;rintro e w' ⟨v,rfl,h3,h4⟩;exact⟨v,rfl,h4,xH (ρ:=ρ) h3 (hm l1) hn hlt h4⟩
theorem aKe {f:FuncId} {x:Value} {z:Int} {m:Nat} (h:∀ w,Calls P f #[x] w (eW w z)) (hm:len z<=m):aC P f [.v x] (.one (.d (Dm.int z m))):=by
 rintro L ρ w vs hlt hn hwf hall
 match vs,hall with
 | [vx],⟨h1,_⟩ =>
  obtain rfl:vx=x:=h1;refine(h w).mono ?_;rintro e w' ⟨v,rfl,h3,h4⟩;exact⟨v,rfl,h4,xH (ρ:=ρ) h3 hm hn hlt h4⟩
theorem aDx {f:FuncId} {x y:Int} {j k:Nat} {r:Value} (h:∀ vx vy w,aZ w vx x->aZ w vy y->Calls P f #[vx,vy] w fun e w'=>e=.returned r/\Below w.heap.size w w'):aC P f [.d (Dm.int x j),.d (Dm.int y k)] (.one (.v r)):=by
 rintro L ρ w vs hlt hn hwf hall
 match vs,hall with
 | [vx,vy],⟨h1,h2,_⟩ =>
  refine(h vx vy w (qJ h1).1 (qJ h2).1).mono ?_;rintro e w' ⟨rfl,h4⟩;exact⟨r,rfl,h4,rfl⟩
theorem aKb {f:FuncId} {x:Int} {j:Nat} {r:Value} (h:∀ vx w,aZ w vx x->Calls P f #[vx] w fun e w'=>e=.returned r/\Below w.heap.size w w'):aC P f [.d (Dm.int x j)] (.one (.v r)):=by
 rintro L ρ w vs hlt hn hwf hall
 match vs,hall with
 | [vx],⟨h1,_⟩ =>
  refine(h vx w (qJ h1).1).mono ?_;rintro e w' ⟨rfl,h4⟩;exact⟨r,rfl,h4,rfl⟩
theorem aKc {f:FuncId} {x y q r:Int} {j k m:Nat} {m':Nat} (h:∀ vx vy w,aZ w vx x->aZ w vy y->len x<=j->len y<=k->Calls P f #[vx,vy] w (sE w q r)) (hm:len x<=j->len y<=k->len q<=m/\len r<=m') :
  aC P f [.d (Dm.int x j),.d (Dm.int y k)] (.tup [.d (Dm.int q m),.d (Dm.int r m')]):=by
 rintro L ρ w vs hlt hn hwf hall
 match vs,hall with
 | [vx,vy],⟨h1,h2,_⟩ =>
  obtain⟨h1,l1⟩:=qJ h1;obtain⟨h2,l2⟩:=qJ h2;refine(h vx vy w h1 h2 l1 l2).mono ?_;rintro e w' ⟨s,t,rfl,h3,h3',h4⟩;exact⟨_,rfl,h4,[s,t],rfl,xH (ρ:=ρ) h3 (hm l1 l2).1 hn hlt h4,xH (ρ:=ρ) h3' (hm l1 l2).2 hn hlt h4,trivial⟩
/-! Lengths. -/
theorem nY {x y:Int} (h:x.natAbs<=y.natAbs):len x<=len y:=dR h
theorem kP {x:Int} {k:Nat}:len x<=k ↔ x.natAbs<1000000000^k:=eX
theorem qH {x y:Int} {j k:Nat} (hx:len x<=j) (hy:len y<=k):len (x*y)<=j+k:=by
 rw[kP] at *;rw[Int.natAbs_mul,Nat.pow_add];exact Nat.mul_lt_mul'' hx hy
theorem aAi {x y:Int} {j k:Nat} (hx:len x<=j) (hy:len y<=k):len (x+y)<=j+k+1:=by
 have h1:=kP.1 (Nat.le_trans hx (Nat.le_add_right j k));have h2:=kP.1 (Nat.le_trans hy (Nat.le_add_left k j));rw[kP,Nat.pow_succ];have:=Int.natAbs_add_le x y;generalize 1000000000^(j+k)=M at *;omega
theorem aAh {x:Int} {k:Nat} (hx:len x<=k):len (-x)<=k:=by
 rw[kP] at *;rwa[Int.natAbs_neg]
theorem aGc (x y:Int):(x/y).natAbs<=x.natAbs:=Int.natAbs_ediv_le_natAbs x y
/-! Package integer. -/
theorem aEw (x y:Int) {j k:Nat} (hj:j<=1000000000) (hk:k<=1000000000):aC Tryz.prog 106 [.d (Dm.int x j),.d (Dm.int y k)] (.one (.d (Dm.int (x+y) (j+k+1)))) :=
 uG (fun vx vy w h1 h2 l1 l2=>aWt vx vy x y w h1 h2 (by omega) (by omega)) fun l1 l2=>aAi l1 l2
theorem iI (x y:Int) {j k:Nat} (hj:j<=1000000000) (hk:k<=1000000000):aC Tryz.prog 105 [.d (Dm.int x j),.d (Dm.int y k)] (.one (.d (Dm.int (x*y) (j+k)))) :=
 uG (fun vx vy w h1 h2 l1 l2=>aWo vx vy x y w h1 h2 (by omega) (by omega)) fun l1 l2=>qH l1 l2
theorem aWq (x y:Int) {j k:Nat} (hj:j<=1000000000) (hk:k<=1000000000):aC Tryz.prog 146 [.d (Dm.int x j),.d (Dm.int y k)] (.tup [.d (Dm.int (x/y) j),.d (Dm.int (if y=0 then 0 else x%y) k)]):=by
 refine aKc (fun vx vy w h1 h2 l1 l2=>?_) fun l1 l2=>⟨Nat.le_trans (nY (aGc x y)) l1,?_⟩
 ·by_cases hy:y=0
  ·subst hy;rw[if_pos rfl,Int.ediv_zero];exact aUy vx vy x w h1 h2
  ·rw[if_neg hy];exact aWr vx vy x y w h1 h2 hy (by omega) (by omega)
 ·split
  ·show (aA 0).length<=_; rw[gA]; exact Nat.zero_le _
  ·rename_i hy;refine Nat.le_trans (nY ?_) l2;have h1:=Int.emod_nonneg x hy;have h2:=Int.emod_lt x hy;omega
theorem aAp (x y:Int) {j k:Nat} (hj:j<=1000000000) (hk:k<=1000000000):aC Tryz.prog 107 [.d (Dm.int x j),.d (Dm.int y k)] (.one (.d (Dm.int ((Int.gcd x y:Nat):Int) (j+k)))):=by
 refine uG (fun vx vy w h1 h2 l1 l2=>aWp vx vy x y w h1 h2 (by omega) (by omega)) fun l1 l2=>?_;by_cases hx:x=0
 ·subst hx;refine Nat.le_trans (nY ?_) (Nat.le_trans l2 (Nat.le_add_left ..));simp
 ·refine Nat.le_trans (nY (y:=x) ?_) (Nat.le_trans l1 (Nat.le_add_right ..));have:=Nat.le_of_dvd (Int.natAbs_pos.2 hx) (Int.gcd_dvd_natAbs_left x y);simpa using this
theorem aEv (x:Int) {j:Nat}:aC Tryz.prog 138 [.d (Dm.int x j)] (.one (.d (Dm.int (-x) j))) :=
 aKd (fun vx w h1 _=>aWn vx x w h1) fun l1=>aAh l1
theorem aB9 (x y:Int) {j k:Nat}:aC Tryz.prog 104 [.d (Dm.int x j),.d (Dm.int y k)] (.one (.v (.int .i64 (bB x y)))) :=
 aDx fun vx vy w h1 h2=>aGs vx vy x y w h1 h2
theorem aKr (x:Int) {j:Nat}:aC Tryz.prog 137 [.d (Dm.int x j)] (.one (.v (.int .i64 (bB x 0)))) :=
 aKb fun vx w h1=>aUo vx x w h1
theorem aFj (n:Int) (h1 : -9223372036854775808<=n) (h2:n<=9223372036854775807):aC Tryz.prog 111 [.v (.int .i64 n)] (.one (.d (Dm.int n 3))) :=
 aKe (fun w=>aXm n w h1 h2) (by rw[kP]; omega)
/-! Types. -/
theorem aL:dG Tryz.prog 29 (some 2):=dG.row (by kernel_rfl) (by kernel_rfl)
theorem zY:dG Tryz.prog 4 none:=dG.one (by kernel_rfl) (by kernel_rfl)
theorem iB:dG Tryz.prog 3 none:=dG.one (by kernel_rfl) (by kernel_rfl)
theorem pC:dG Tryz.prog 22 none:=dG.one (by kernel_rfl) (by kernel_rfl)
theorem aB:dG Tryz.prog 31 (some 4):=dG.row (by kernel_rfl) (by kernel_rfl)
theorem dK:gV Tryz.prog 31 0 0:=gV.of (sz:=1) (by kernel_rfl)
theorem mI:gV Tryz.prog 31 1 2:=gV.of (sz:=1) (by kernel_rfl)
theorem aAl:gV Tryz.prog 29 0 0:=gV.of (sz:=0) (by kernel_rfl)
theorem pJ:gV Tryz.prog 29 1 1:=gV.of (sz:=0) (by kernel_rfl)
theorem cZ:(Tryz.prog.info? 29).map (·.zero)=some (some (.agg #[.bool false,.slice none 0 0])):=by kernel_rfl
theorem bS:(Tryz.prog.info? 31).map (·.zero)=some (some (.agg #[.bool false,.slice none 0 0,.bool false,.slice none 0 0])):=by kernel_rfl
/-! Parts. -/
theorem aEj {z:Int} {k:Nat}:lU (Dm.int z k) 0 none (.v (.bool (decide (z<0)))):=by
 rintro w cs ⟨⟨s,h,hs⟩,_⟩;injection h with h;have h2:cs=[.bool (decide (z<0)),s]:=by simpa using congrArg Array.toList h
 exact⟨[],[_],[s],_,by rw[h2]; rfl,rfl,⟨rfl,rfl⟩,rfl⟩
theorem sD {z:Int} {k:Nat}:lU (Dm.int z k) 1 none (.d (Dm.nums z.natAbs)):=by
 rintro w cs ⟨⟨s,h,hs⟩,_⟩;injection h with h;have h2:cs=[.bool (decide (z<0)),s]:=by simpa using congrArg Array.toList h
 obtain⟨a,n,c,rfl⟩:=kL hs;exact⟨[_],[_],[],_,by rw[h2]; rfl,rfl,⟨rfl,rfl⟩,hs⟩
theorem gT {p q:Int} {k:Nat} {w:World} {cs:List Value} (h:Dm.at (.rt p q k) w (.agg cs.toArray)) :
  ∃ a n c a' n' c',cs=[.bool (decide (p<0)),.slice a n c,.bool (decide (q<0)),.slice a' n' c']/\aM w (.slice a n c) (aA p.natAbs)/\aM w (.slice a' n' c') (aA q.natAbs)/\len p<=k/\len q<=k:=by
 obtain⟨s,t,h,hs,ht,l1,l2⟩:=h;injection h with h;obtain⟨a,n,c,rfl⟩:=kL hs;obtain⟨a',n',c',rfl⟩:=kL ht;exact⟨a,n,c,a',n',c',by simpa using congrArg Array.toList h,hs,ht,l1,l2⟩
theorem dJ {p q:Int} {k:Nat}:lU (Dm.rt p q k) 0 (some 2) (.d (Dm.int p k)):=by
 intro w cs h;obtain⟨a,n,c,a',n',c',rfl,hs,ht,l1,l2⟩:=gT h;exact⟨[],[_,_],[_,_],_,rfl,rfl,⟨rfl,rfl,by simp[Value.oneCell']⟩,⟨_,rfl,hs⟩,l1⟩
theorem pF {p q:Int} {k:Nat}:lU (Dm.rt p q k) 2 (some 2) (.d (Dm.int q k)):=by
 intro w cs h;obtain⟨a,n,c,a',n',c',rfl,hs,ht,l1,l2⟩:=gT h;exact⟨[_,_],[_,_],[],_,rfl,rfl,⟨rfl,rfl,by simp[Value.oneCell']⟩,⟨_,rfl,ht⟩,l2⟩
theorem aJ5 {p q:Int} {k:Nat}:lU (Dm.rt p q k) 3 none (.d (Dm.nums q.natAbs)):=by
 intro w cs h;obtain⟨a,n,c,a',n',c',rfl,hs,ht,l1,l2⟩:=gT h;exact⟨[_,_,_],[_],[],_,rfl,rfl,⟨rfl,rfl⟩,ht⟩
theorem aT2 {p q:Int} {k:Nat}:lU (Dm.rt p q k) 2 none (.v (.bool (decide (q<0)))):=by
 intro w cs h;obtain⟨a,n,c,a',n',c',rfl,hs,ht,l1,l2⟩:=gT h;exact⟨[_,_],[_],[_],_,rfl,rfl,⟨rfl,rfl⟩,rfl⟩
end Vc
end Go.Proofs.YtjmbkipbmbnhjaaGreat

namespace Go.Proofs.YtjmbkipbmbnhjaaGreat
open Go.RowKit
open Go.Lib (hid)
open Dg Zn
namespace Vc
section
variable {D:Type} [bR D] {P:Program} {cx:Cx D} {n:Nat} {σ:St D} {o:Oper} {d:Nat} {x y:Operand} {T T':TypeId} {k:IntKind} {a b:Int}
theorem lL {op:BinOp} {u v r:Value} (ho:o.op=.binOp op T x y T') (hd:o.dst=some d) (hn:d<n) (hx:opd σ x=.av (.one (.v u))) (hy:opd σ y=.av (.one (.v v)))
  (hr:∀ w,(do eqGuard op T x y u v; binOp op T u v:Sem Value).run P w=.ok r w):aS P cx n σ o (bF x++bF y) [(.s d,.av (.one (.v r)))]:=by
 refine eV hd hn rfl fun σ' ρ a w h hk=>⟨r,?_,rfl⟩
 have e1:a.eval x=u:=h.opd ((cQ fun q hq=>hk q (by simp[hq])).trans hx);have e2:a.eval y=v:=h.opd ((cQ fun q hq=>hk q (by simp[hq])).trans hy);have:=hr w;simp only[execOp,ho,e1,e2,Sem.run_bind,this,Result.andThen_ok,Sem.run_pure]
theorem dF (ho:o.op=.binOp .eql T x y T':=by exact rfl) (hd:o.dst=some d:=by exact rfl) (hn:d<n:=by exact bd) (hx:opd σ x=.av (.one (.v (.int k a))):=by exact rfl) (hy:opd σ y=.av (.one (.v (.int k b))):=by exact rfl):aS P cx n σ o (bF x++bF y) [(.s d,.av (.one (.v (.bool (a==b)))))] :=
 lL ho hd hn hx hy fun w=>by simp[eqGuard,binOp,Op.intCmp]
theorem uQ (ho:o.op=.binOp .neq T x y T':=by exact rfl) (hd:o.dst=some d:=by exact rfl) (hn:d<n:=by exact bd) (hx:opd σ x=.av (.one (.v (.int k a))):=by exact rfl) (hy:opd σ y=.av (.one (.v (.int k b))):=by exact rfl):aS P cx n σ o (bF x++bF y) [(.s d,.av (.one (.v (.bool (a != b)))))] :=
 lL ho hd hn hx hy fun w=>by simp[eqGuard,binOp,Op.intCmp]
theorem eE (ho:o.op=.binOp .lss T x y T':=by exact rfl) (hd:o.dst=some d:=by exact rfl) (hn:d<n:=by exact bd) (hx:opd σ x=.av (.one (.v (.int k a))):=by exact rfl) (hy:opd σ y=.av (.one (.v (.int k b))):=by exact rfl):aS P cx n σ o (bF x++bF y) [(.s d,.av (.one (.v (.bool (decide (a<b))))))] :=
 lL ho hd hn hx hy fun w=>by simp[eqGuard,binOp,Op.intCmp]
theorem iC (ho:o.op=.binOp .gtr T x y T':=by exact rfl) (hd:o.dst=some d:=by exact rfl) (hn:d<n:=by exact bd) (hx:opd σ x=.av (.one (.v (.int k a))):=by exact rfl) (hy:opd σ y=.av (.one (.v (.int k b))):=by exact rfl):aS P cx n σ o (bF x++bF y) [(.s d,.av (.one (.v (.bool (decide (b<a))))))] :=
 lL ho hd hn hx hy fun w=>by simp[eqGuard,binOp,Op.intCmp]
theorem xA (ho:o.op=.binOp .geq T x y T':=by exact rfl) (hd:o.dst=some d:=by exact rfl) (hn:d<n:=by exact bd) (hx:opd σ x=.av (.one (.v (.int k a))):=by exact rfl) (hy:opd σ y=.av (.one (.v (.int k b))):=by exact rfl):aS P cx n σ o (bF x++bF y) [(.s d,.av (.one (.v (.bool (decide (b<=a))))))] :=
 lL ho hd hn hx hy fun w=>by simp[eqGuard,binOp,Op.intCmp]
theorem cU {c:Int} (hw:k.wrap (a+b)=c) (ho:o.op=.binOp .add T x y T':=by exact rfl) (hd:o.dst=some d:=by exact rfl) (hn:d<n:=by exact bd) (hx:opd σ x=.av (.one (.v (.int k a))):=by exact rfl) (hy:opd σ y=.av (.one (.v (.int k b))):=by exact rfl):aS P cx n σ o (bF x++bF y) [(.s d,.av (.one (.v (.int k c))))] :=
 lL ho hd hn hx hy fun w=>by simp[eqGuard,binOp,Op.intArith,hw]
theorem eD {c:Int} (hw:k.wrap (a-b)=c) (ho:o.op=.binOp .sub T x y T':=by exact rfl) (hd:o.dst=some d:=by exact rfl) (hn:d<n:=by exact bd) (hx:opd σ x=.av (.one (.v (.int k a))):=by exact rfl) (hy:opd σ y=.av (.one (.v (.int k b))):=by exact rfl):aS P cx n σ o (bF x++bF y) [(.s d,.av (.one (.v (.int k c))))] :=
 lL ho hd hn hx hy fun w=>by simp[eqGuard,binOp,Op.intArith,hw]
theorem aW6 {c:Int} (hw:k.wrap (a*b)=c) (ho:o.op=.binOp .mul T x y T') (hd:o.dst=some d) (hn:d<n) (hx:opd σ x=.av (.one (.v (.int k a)))) (hy:opd σ y=.av (.one (.v (.int k b)))):aS P cx n σ o (bF x++bF y) [(.s d,.av (.one (.v (.int k c))))] :=
 lL ho hd hn hx hy fun w=>by simp[eqGuard,binOp,Op.intArith,hw]
theorem aE6 {c:Int} (hb:b≠0) (hw:k.wrap (a.tdiv b)=c) (ho:o.op=.binOp .quo T x y T') (hd:o.dst=some d) (hn:d<n) (hx:opd σ x=.av (.one (.v (.int k a)))) (hy:opd σ y=.av (.one (.v (.int k b)))):aS P cx n σ o (bF x++bF y) [(.s d,.av (.one (.v (.int k c))))] :=
 lL ho hd hn hx hy fun w=>by simp[eqGuard,binOp,Op.intDiv,hb,hw]
theorem aE5 (hb:b≠0) (ho:o.op=.binOp .rem T x y T') (hd:o.dst=some d) (hn:d<n) (hx:opd σ x=.av (.one (.v (.int k a)))) (hy:opd σ y=.av (.one (.v (.int k b)))):aS P cx n σ o (bF x++bF y) [(.s d,.av (.one (.v (.int k (a.tmod b)))))] :=
 lL ho hd hn hx hy fun w=>by simp[eqGuard,binOp,Op.intDiv,hb]
theorem fL {p:Bool} (ho:o.op=.unOp .not T x:=by exact rfl) (hd:o.dst=some d:=by exact rfl) (hn:d<n:=by exact bd) (hx:opd σ x=.av (.one (.v (.bool p))):=by exact rfl):aS P cx n σ o (bF x) [(.s d,.av (.one (.v (.bool (!p)))))]:=by
 refine eV hd hn rfl fun σ' ρ a w h hk=>⟨.bool !p,?_,rfl⟩
 have e1:a.eval x=.bool p:=h.opd ((cQ fun q hq=>hk q (by simp[hq])).trans hx);simp[execOp,ho,e1,Op.unary]
theorem aMi {c:Int} (hw:k.wrap (0-a)=c) (ho:o.op=.unOp .neg T x) (hd:o.dst=some d) (hn:d<n) (hx:opd σ x=.av (.one (.v (.int k a)))):aS P cx n σ o (bF x) [(.s d,.av (.one (.v (.int k c))))]:=by
 refine eV hd hn rfl fun σ' ρ a' w h hk=>⟨.int k c,?_,rfl⟩
 have e1:a'.eval x=.int k a:=h.opd ((cQ fun q hq=>hk q (by simp[hq])).trans hx);rw[Int.zero_sub] at hw;simp[execOp,ho,e1,Op.unary,Op.intArith,hw]
theorem cI {c:Operand} {av:AV D} (ho:o.op=.pick c x y:=by exact rfl) (hd:o.dst=some d:=by exact rfl) (hn:d<n:=by exact bd) (hc:opd σ c=.av (.one (.v (.bool true))):=by exact rfl) (hx:opd σ x=.av av:=by exact rfl) (hp:av.ptrs=[]:=by exact rfl):aS P cx n σ o (bF c++bF x) [(.s d,.av av)]:=by
 refine eV hd hn hp fun σ' ρ a w h hk=>⟨a.eval x,?_,h.opd ((cQ fun q hq=>hk q (by simp[hq])).trans hx)⟩
 have e1:a.eval c=.bool true:=h.opd ((cQ fun q hq=>hk q (by simp[hq])).trans hc);simp[execOp,ho,e1,asBool]
theorem cN {c:Operand} {av:AV D} (ho:o.op=.pick c x y:=by exact rfl) (hd:o.dst=some d:=by exact rfl) (hn:d<n:=by exact bd) (hc:opd σ c=.av (.one (.v (.bool false))):=by exact rfl) (hy:opd σ y=.av av:=by exact rfl) (hp:av.ptrs=[]:=by exact rfl):aS P cx n σ o (bF c++bF y) [(.s d,.av av)]:=by
 refine eV hd hn hp fun σ' ρ a w h hk=>⟨a.eval y,?_,h.opd ((cQ fun q hq=>hk q (by simp[hq])).trans hy)⟩
 have e1:a.eval c=.bool false:=h.opd ((cQ fun q hq=>hk q (by simp[hq])).trans hc);simp[execOp,ho,e1,asBool]
end
section
variable {cx:Cx Dm} {n:Nat} {σ:St Dm} {o:Oper} {d t:Nat}
theorem sH {m:Nat} (ho:o.op=.call ⟨.builtin .len,#[.tmp t],#[22]⟩:=by exact rfl) (hd:o.dst=some d:=by exact rfl) (hn:d<n:=by exact bd) (ht:σ (.s t)=.av (.one (.d (.nums m))):=by exact rfl):aS Tryz.prog cx n σ o [.s t] [(.s d,.av (.one (.v (.int .i64 (((aA m).length:Nat):Int)))))]:=by
 refine eV hd hn rfl fun σ' ρ a w h hk=>⟨_,?_,rfl⟩
 obtain⟨ao,c,hv,_⟩:=(h.slt t _ ((hk (.s t) (by simp)).trans ht)) w (Agree.refl _ _);have e1:a.eval (.tmp t)=.slice ao (aA m).length c:=hv;simp[execOp,ho,resolve,invoke,e1,builtin,Builtin.len_,run_underlying fJ,goInt]
theorem aMj {m i:Nat} {j:Operand} (hi:i<(aA m).length) (ho:o.op=.indexAddr 22 (.tmp t) j) (hd:o.dst=some d) (hn:d<n) (ht:σ (.s t)=.av (.one (.d (.nums m)))) (hj:opd σ j=.av (.one (.v (.int .i64 (i:Int))))) :
  aS Tryz.prog cx n σ o (.s t::bF j) [(.s d,.av (.one (.d (.cell (((aA m).getD i 0:Nat):Int)))))]:=by
 refine eV hd hn rfl fun σ' ρ a w h hk=>?_;have hs:=h.slt t _ ((hk (.s t) (by simp)).trans ht);obtain⟨ao,c,hv,h2,h3,h4⟩:=hs w (Agree.refl _ _);obtain⟨g,off,rfl,h6⟩:=h4 (by omega);have e1:a.eval (.tmp t)=.slice (some ⟨g,off,none⟩) (aA m).length c:=hv;have e2:a.eval j=.int .i64 (i:Int):=h.opd ((cQ fun q hq=>hk q (by simp[hq])).trans hj);have hsz:∀ w,(sizeOf 3).run Tryz.prog w=.ok 1 w:=by
  intro w;obtain⟨i0,hi0,_,hz1,_⟩:=info_parts kG;simp[sizeOf,typeInfo,hi0,hz1]
 refine⟨.pointer (some ⟨g,off+i,none⟩),?_,?_⟩
 ·have h0:(0:Int)<=(i:Int)/\(i:Int)<(((aA m).length:Nat):Int):=by omega
  simp[execOp,ho,e1,e2,Instr.indexAt,asIntOf,run_underlying fJ,hsz,hi,Addr.add_mid]
 ·intro w' hag;refine⟨_,rfl,?_⟩;obtain⟨ao',c',hv',_,_,h4'⟩:=hs w' hag;obtain⟨g',off',hg',h6'⟩:=h4' (by omega);have e3:=e1.symm.trans (show a.eval (.tmp t)=_ from hv');injection e3 with e4;rw[hg'] at e4;injection e4 with e4;injection e4 with e5 e6;subst e5; subst e6;exact h6' i hi
theorem aJr {z:Int} (ho:o.op=.load 3 (.tmp t)) (hd:o.dst=some d) (hn:d<n) (ht:σ (.s t)=.av (.one (.d (.cell z)))):aS Tryz.prog cx n σ o [.s t] [(.s d,.av (.one (.v (.int .i64 z))))]:=by
 refine eV hd hn rfl fun σ' ρ a w h hk=>⟨_,?_,rfl⟩
 obtain⟨ad,hv,hc⟩:=(h.slt t _ ((hk (.s t) (by simp)).trans ht)) w (Agree.refl _ _);have e1:a.eval (.tmp t)=.pointer (some ad):=hv;obtain⟨⟨dd,hu,hdd⟩,_⟩:=iB;have hagg:(isAgg 3).run Tryz.prog w=.ok false w:=by
  unfold isAgg;rw[Sem.run_bind,run_underlying hu w];cases dd<;>simp_all
 simp[execOp,ho,e1,Instr.loadAt,Instr.sureAddr,loadVar,hagg,load,Sem.run,hc]
theorem aEp {L:Nat->Prop} {ρ:aX} {w:World} {z:Int} {k:Nat} {v:Value} (h:(SA.d (Dm.int z k)).is L ρ w v):∃ a m c,v=.agg #[.bool (decide (z<0)),.slice a m c]/\∀ w',Agree L w w'->aM w' (.slice a m c) (aA z.natAbs)/\len z<=k:=by
 obtain⟨⟨s,rfl,hs⟩,hl⟩:=h w (Agree.refl _ _);obtain⟨a,m,c,rfl⟩:=kL hs;refine⟨a,m,c,rfl,fun w' hw=>?_⟩;obtain⟨⟨s',e,hs'⟩,hl'⟩:=h w' hw;injection e with e;have e2:[Value.bool (decide (z<0)),.slice a m c]=[.bool (decide (z<0)),s']:=by simpa using congrArg Array.toList e
 injection e2 with _ e3;injection e3 with e4;subst e4;exact⟨hs',hl'⟩
theorem aC4 (parts:List (Nat × Value)):Tryz.prog.built 31 parts=Instr.fill ((#[(0,2),(2,2)]:Array (Nat × Nat))[·]?) #[.bool false,.slice none 0 0,.bool false,.slice none 0 0] parts:=by kernel_rfl
theorem tL (ho:o.op=.build 31 #[]:=by exact rfl) (hd:o.dst=some d:=by exact rfl) (hn:d<n:=by exact bd):aS Tryz.prog cx n σ o [] [(.s d,.av (.one (.d (.rt 0 0 0))))]:=by
 refine eV hd hn rfl fun σ' ρ a w h hk=>⟨.agg #[.bool false,.slice none 0 0,.bool false,.slice none 0 0],?_,?_⟩
 ·have hb2:=run_build w 31 #[] _ (show Tryz.prog.built 31 (#[]:Array (Nat × Value)).toList=some #[.bool false,.slice none 0 0,.bool false,.slice none 0 0] by rw[aC4]; kernel_rfl);simp only[execOp,ho,Sem.run_bind];rw[show (#[]:Array (Nat × Operand)).map (fun p=>(p.1,a.eval p.2))=#[] by simp,hb2];rfl
 ·intro w' _;have h0:(aA (0:Int).natAbs).length<=0:=by rw[show (0:Int).natAbs=0 from rfl,gA]; exact Nat.le_refl _
  exact⟨_,_,rfl,aM.nil (by decide),aM.nil (by decide),h0,h0⟩
theorem rI {x:Operand} {p:Int} {k:Nat} (ho:o.op=.build 31 #[(0,x)]:=by exact rfl) (hd:o.dst=some d:=by exact rfl) (hn:d<n:=by exact bd) (hx:opd σ x=.av (.one (.d (.int p k))):=by exact rfl):aS Tryz.prog cx n σ o (bF x) [(.s d,.av (.one (.d (.rt p 0 k))))]:=by
 refine eV hd hn rfl fun σ' ρ a w h hk=>?_;obtain⟨s,m,c,hv,hs⟩:=aEp (ρ:=ρ) (h.opd ((cQ hk).trans hx));refine⟨.agg #[.bool (decide (p<0)),.slice s m c,.bool false,.slice none 0 0],?_,?_⟩
 ·have hb:Tryz.prog.built 31 #[(0,a.eval x)].toList=some #[.bool (decide (p<0)),.slice s m c,.bool false,.slice none 0 0]:=by
   rw[hv,aC4]
   kernel_rfl
  have hb2:=run_build w 31 #[(0,a.eval x)] _ hb;simp only[execOp,ho,Sem.run_bind];rw[show (#[(0,x)]:Array (Nat × Operand)).map (fun p=>(p.1,a.eval p.2))=#[(0,a.eval x)] by simp,hb2];rfl
 ·intro w' hw;have h0:(aA (0:Int).natAbs).length<=k:=by rw[show (0:Int).natAbs=0 from rfl,gA]; exact Nat.zero_le _
  exact⟨_,_,rfl,(hs w' hw).1,aM.nil (by decide),(hs w' hw).2,h0⟩
theorem tJ {x y:Operand} {p q:Int} {j k:Nat} (ho:o.op=.build 31 #[(0,x),(1,y)]:=by exact rfl) (hd:o.dst=some d:=by exact rfl) (hn:d<n:=by exact bd) (hx:opd σ x=.av (.one (.d (.int p j))):=by exact rfl) (hy:opd σ y=.av (.one (.d (.int q k))):=by exact rfl):aS Tryz.prog cx n σ o (bF x++bF y) [(.s d,.av (.one (.d (.rt p q (max j k)))))]:=by
 refine eV hd hn rfl fun σ' ρ a w h hk=>?_;obtain⟨s,m,c,hv,hs⟩:=aEp (ρ:=ρ) (h.opd ((cQ fun q hq=>hk q (by simp[hq])).trans hx));obtain⟨s',m',c',hv',hs'⟩:=aEp (ρ:=ρ) (h.opd ((cQ fun q hq=>hk q (by simp[hq])).trans hy));refine⟨.agg #[.bool (decide (p<0)),.slice s m c,.bool (decide (q<0)),.slice s' m' c'],?_,?_⟩
 ·have hb:Tryz.prog.built 31 #[(0,a.eval x),(1,a.eval y)].toList=some #[.bool (decide (p<0)),.slice s m c,.bool (decide (q<0)),.slice s' m' c']:=by
   rw[hv,hv',aC4]
   kernel_rfl
  have hb2:=run_build w 31 #[(0,a.eval x),(1,a.eval y)] _ hb;simp only[execOp,ho,Sem.run_bind];rw[show (#[(0,x),(1,y)]:Array (Nat × Operand)).map (fun p=>(p.1,a.eval p.2))=#[(0,a.eval x),(1,a.eval y)] by simp,hb2];rfl
 ·intro w' hw;exact⟨_,_,rfl,(hs w' hw).1,(hs' w' hw).1,Nat.le_trans (hs w' hw).2 (Nat.le_max_left ..),Nat.le_trans (hs' w' hw).2 (Nat.le_max_right ..)⟩
end
theorem nP {z:Int}:((((aA z.natAbs).length:Nat):Int)==0)=decide (z=0):=by
 rw[Bool.eq_iff_iff];simp only[beq_iff_eq,decide_eq_true_eq];constructor
 ·intro h;have:=iR.1 (List.eq_nil_of_length_eq_zero (show (aA z.natAbs).length=0 by omega));omega
 ·rintro rfl;rfl
theorem dZ {p q p' q':Int} {k k':Nat} (hp:p=p') (hq:q=q') (hk:k<=k'):∀ L ρ w v,(SA.d (Dm.rt p q k)).is L ρ w v->(AV.one (SA.d (Dm.rt p' q' k'))).is L ρ w v:=by
 subst hp; subst hq;intro L ρ w v h w' hw;obtain⟨s,t,h1,h2,h3,h4,h5⟩:=h w' hw;exact⟨s,t,h1,h2,h3,Nat.le_trans h4 hk,Nat.le_trans h5 hk⟩
theorem sC {p p':Int} {k k':Nat} (hp:p=p') (hk:k<=k'):∀ L ρ w v,(SA.d (Dm.int p k)).is L ρ w v->(AV.one (SA.d (Dm.int p' k'))).is L ρ w v:=by
 subst hp;intro L ρ w v h w' hw;exact⟨(h w' hw).1,Nat.le_trans (h w' hw).2 hk⟩
theorem aLm {p p' q q':Int} {j j' k k':Nat} (hp:p=p') (hj:j<=j') (hq:q=q') (hk:k<=k'):∀ L ρ w v,(AV.tup [SA.d (Dm.int p j),SA.d (Dm.int q k)]).is L ρ w v->(AV.tup [SA.d (Dm.int p' j'),SA.d (Dm.int q' k')]).is L ρ w v:=by
 intro L ρ w v h;obtain⟨vs,rfl,h⟩:=h
 match vs,h with
 | [a,b],⟨h1,h2,_⟩=>exact⟨[a,b],rfl,sC hp hj L ρ w a h1,sC hq hk L ρ w b h2,trivial⟩
set_option maxRecDepth 100000
theorem aLc {m:Nat} (h:(aA m).length=1):(aA m).getD 0 0=m:=by
 have hv:=bA m
 match hd:aA m with
 | []=>rw[hd] at h; cases h
 | [x]=>rw[hd] at hv; simp only[val] at hv; rw[<- hv]; simp
 | _::_::_=>rw[hd] at h; cases h
theorem pW (p q:Int) (k:Nat):aC Tryz.prog 103 [.d (Dm.rt p q k)] (.one (.v (.bool (decide (q=0))))):=by
 refine aC.of (n:=8) Tryz.func103 rfl rfl rfl rfl rfl fun cx hfr=>?_;refine sr rfl ?_;refine p2 (cG (i:=0)) ?_;refine xn ?_;refine RV.done (sr rfl ?_);refine p1 (bJ mI) ?_;refine p1 (bJ pJ) ?_;refine p1 (bN 3 aJ5 pC) ?_;refine p1 (sH) ?_;refine p1 (dF) ?_;refine xn ?_;refine RV.done ?_;refine CV.ret ?_;rw[nP];exact aW rfl (.inr rfl) rfl cH
theorem tQ (z:Int) (k:Nat):aC Tryz.prog 139 [.d (Dm.int z k)] (.one (.v (.bool (decide (z=1))))):=by
 refine aC.of (n:=19) Tryz.func139 rfl rfl rfl rfl rfl fun cx hfr=>?_;refine sr rfl ?_;refine p2 (cG (i:=0)) ?_;refine xn ?_;refine RV.done (sr rfl ?_);refine p1 (bJ aAl) ?_;refine p1 (bN 0 aEj zY) ?_;refine p1 (fL) ?_;refine xm ?_;refine RV.bool (fun h1=>?_) (fun h1=>?_)
 ·refine y1 (bJ pJ) ?_;refine y1 (bN 1 sD pC) ?_;refine y1 (sH) ?_;refine y1 (dF) ?_;refine p1 (cI) ?_;refine xm ?_;refine RV.bool (fun h2=>?_) (fun h2=>?_)
  ·refine y1 (bJ pJ) ?_;refine y1 (bN 1 sD pC) ?_;refine y1 (aMj (i:=0) (by simp at h2; omega) rfl rfl bd rfl rfl) ?_;refine y1 (aJr rfl rfl bd rfl) ?_;refine y1 (dF) ?_;refine p1 (cI) ?_;refine xn ?_;refine RV.done ?_;refine CV.ret ?_;refine aW rfl (.inr rfl) rfl (fV ?_);rw[aLc (by simp at h2; omega),Bool.eq_iff_iff];simp at h1 |-;omega
  ·refine xk ?_;refine xk ?_;refine xk ?_;refine xk ?_;refine xk ?_;refine p1 (cN) ?_;refine xn ?_;refine RV.done ?_;refine CV.ret ?_;refine aW rfl (.inr rfl) rfl (fV ?_);rw[eq_comm,decide_eq_false_iff_not];rintro rfl;cases h2
 ·refine xk ?_;refine xk ?_;refine xk ?_;refine xk ?_;refine p1 (cN) ?_;refine xm ?_;refine xk ?_;refine xk ?_;refine xk ?_;refine xk ?_;refine xk ?_;refine p1 (cN) ?_;refine xn ?_;refine RV.done ?_;refine CV.ret ?_;refine aW rfl (.inr rfl) rfl (fV ?_);rw[eq_comm,decide_eq_false_iff_not];simp at h1;omega
theorem aWs (p q:Int) (k:Nat):aC Tryz.prog 102 [.d (Dm.rt p q k)] (.one (.d (Dm.int (if q=0 then 1 else q) (k+3)))):=by
 refine aC.of (n:=8) Tryz.func102 rfl rfl rfl rfl rfl fun cx hfr=>?_;refine sr rfl ?_;refine p2 (cG (i:=0)) ?_;refine p2 (aV (i:=1) cZ) ?_;refine RV.done ?_;refine CV.seq ?_;refine sr rfl ?_;refine p1 (aG aB) ?_;refine xc (pW _ _ _) Tryz.func103 (xa rfl) hfr ?_;refine RV.done ?_;refine CV.cond rfl (fun hc=>?_) (fun hc=>?_)
 ·refine sr rfl ?_;refine xd rfl (aFj _ (by decide) (by decide)) Tryz.func111 (xa rfl) hfr ?_;refine p1 (aP (aL).2) ?_;refine RV.done ?_;refine CV.ret ?_;exact aW rfl (.inr rfl) ⟨_,_,_,_,_,rfl,rfl,rfl,aL⟩ (sC (by rw[if_pos (by simpa using hc)]) (by omega))
 ·refine CV.skip ?_;refine sr rfl ?_;refine p1 (bJ mI) ?_;refine p1 (bN 2 pF aL) ?_;refine p1 (aP (aL).2) ?_;refine RV.done ?_;refine CV.ret ?_;exact aW rfl (.inr rfl) ⟨_,_,_,_,_,rfl,rfl,rfl,aL⟩ (sC (by rw[if_neg (by simpa using hc)]) (by omega))
theorem sQ (x y:Int) (j k:Nat) (hj:j<=1000000000) (hk:k<=1000000000):aC Tryz.prog 108 [.d (Dm.int x j),.d (Dm.int y k)] (.one (.d (Dm.int (x/y) j))):=by
 refine aC.of (n:=17) Tryz.func108 rfl rfl rfl rfl rfl fun cx hfr=>?_;refine sr rfl ?_;refine p2 (cG (i:=0)) ?_;refine p2 (cG (i:=1)) ?_;refine p2 (aV (i:=2) cZ) ?_;refine RV.done ?_;refine CV.seq ?_;refine sr rfl ?_;refine p1 (aG aL) ?_;refine xc (tQ _ _) Tryz.func139 (xa rfl) hfr ?_;refine RV.done ?_;refine CV.cond rfl (fun hc=>?_) (fun hc=>?_)
 ·refine sr rfl ?_;refine p1 (aG aL) ?_;refine p1 (aP (aL).2) ?_;refine RV.done ?_;refine CV.ret ?_;exact aW rfl (.inr rfl) ⟨_,_,_,_,_,rfl,rfl,rfl,aL⟩ (sC (by rw[show y=1 by simpa using hc]; simp) (by omega))
 ·refine CV.skip ?_;refine sr rfl ?_;refine p1 (aG aL) ?_;refine p1 (aG aL) ?_;refine xc (aWq _ _ hj hk) Tryz.func146 (xb rfl rfl) hfr ?_;refine xm ?_;refine p1 (dE) ?_;refine p1 (dE) ?_;refine p2 (aV (i:=3) cZ) ?_;refine p2 (aV (i:=4) cZ) ?_;refine p1 (aP (aL).2) ?_;refine p1 (aP (aL).2) ?_;refine RV.done (sr rfl ?_);refine p1 (aG aL) ?_;refine p1 (aP (aL).2) ?_;refine RV.done ?_;refine CV.ret ?_;exact aW rfl (.inr rfl) ⟨_,_,_,_,_,rfl,rfl,rfl,aL⟩ cH
theorem qZ (x y:Int) (j k:Nat) (hj:j<=500000000) (hk:k<=500000000):aC Tryz.prog 109 [.d (Dm.int x j),.d (Dm.int y k)] (.tup [.d (Dm.int (x/(Int.gcd x y:Nat)) j),.d (Dm.int (y/(Int.gcd x y:Nat)) k)]):=by
 refine aC.of (n:=20) Tryz.func109 rfl rfl rfl rfl rfl fun cx hfr=>?_;refine sr rfl ?_;refine p2 (cG (i:=0)) ?_;refine p2 (cG (i:=1)) ?_;refine p2 (aV (i:=2) cZ) ?_;refine p2 (aV (i:=3) cZ) ?_;refine RV.done ?_;refine CV.seq ?_;refine sr rfl ?_;refine p1 (aG aL) ?_;refine xc (tQ _ _) Tryz.func139 (xa rfl) hfr ?_;refine RV.done ?_;refine CV.cond rfl (fun hc=>?_) (fun hc=>?_)
 ·refine CV.seq ?_;refine CV.region rfl (fun _=>by kernel_rfl) ?_;refine p1 (aG aL) ?_;refine p1 (aG aL) ?_;refine p1 (aP (aL).2) ?_;refine p1 (aP (aL).2) ?_;refine bP (by kernel_rfl) ?_;refine CV.ret ?_;refine sM rfl (.inr rfl) ⟨_,_,_,_,_,rfl,rfl,rfl,aL⟩ ⟨_,_,_,_,_,rfl,rfl,rfl,aL⟩ (aLm ?_ (Nat.le_refl _) ?_ (Nat.le_refl _))
  all_goals rw[show y=1 by simpa using hc]; simp
 ·refine CV.skip ?_;refine sr rfl ?_;refine p1 (aG aL) ?_;refine p1 (aG aL) ?_;refine xd rfl (aAp _ _ (by omega) (by omega)) Tryz.func107 (xb rfl rfl) hfr ?_;refine p2 (aV (i:=4) cZ) ?_;refine p1 (aP (aL).2) ?_;refine RV.done ?_;refine CV.seq ?_;refine CV.region rfl (fun _=>by kernel_rfl) ?_;refine p1 (aG aL) ?_;refine p1 (aG aL) ?_;refine xd rfl (sQ _ _ _ _ (by omega) (by omega)) Tryz.func108 (xb rfl rfl) hfr ?_;refine p1 (aG aL) ?_;refine p1 (aG aL) ?_;refine xd rfl (sQ _ _ _ _ (by omega) (by omega)) Tryz.func108 (xb rfl rfl) hfr ?_;refine p1 (aP (aL).2) ?_;refine p1 (aP (aL).2) ?_;refine bP (by kernel_rfl) ?_;refine CV.ret ?_;exact sM rfl (.inr rfl) ⟨_,_,_,_,_,rfl,rfl,rfl,aL⟩ ⟨_,_,_,_,_,rfl,rfl,rfl,aL⟩ aEi
end Vc
end Go.Proofs.YtjmbkipbmbnhjaaGreat

namespace Go.Proofs.YtjmbkipbmbnhjaaGreat
open Dg Zn
namespace Vc
def qd (a:Rat):Int:=if a.den=1 then 0 else a.den
theorem qQ (a:Rat):(a.den:Int)≠0:=by have:=a.den_nz; omega
theorem xS (a:Rat):(if qd a=0 then 1 else qd a)=(a.den:Int):=by
 unfold qd;by_cases h:a.den=1
 ·simp[h]
 ·rw[if_neg h,if_neg (qQ a)]
theorem qD {a:Rat}:qd a=0 ↔ a.den=1:=by
 unfold qd;split
 ·rename_i h; simp[h]
 ·rename_i h; exact⟨fun h1=>absurd h1 (qQ a),fun h1=>absurd h1 h⟩
theorem red (a:Rat):Int.gcd a.num a.den=1:=by
 rw[Int.gcd_eq_natAbs_gcd_natAbs];exact a.reduced
theorem aYa (a:Rat):Int.gcd a.den a.num=1:=by rw[Int.gcd_comm]; exact red a
theorem qG {p q:Int} (hc:Int.gcd p q=1):(Rat.divInt p q).num=q.sign*p:=by
 rw[Rat.num_divInt,Int.gcd_comm,hc];simp
theorem aAg {p q:Int} (hc:Int.gcd p q=1) (hq:q≠0):((Rat.divInt p q).den:Int)=(q.natAbs:Int):=by
 rw[Rat.den_divInt,Int.gcd_comm,hc];simp[hq]
theorem xF {p q:Int} (hc:Int.gcd p q=1) (hq:q≠0):qd (Rat.divInt p q)=if q.natAbs=1 then 0 else (q.natAbs:Int):=by
 have h:=aAg hc hq;unfold qd;rw[show (Rat.divInt p q).den=q.natAbs by omega]
theorem vV (p:Int):(Rat.divInt p 0).num=0/\qd (Rat.divInt p 0)=0:=by
 rw[Rat.divInt_zero];exact⟨rfl,rfl⟩
theorem sS {x y x' y':Int} (h:Int.gcd x y=1) (hx:x' ∣ x) (hy:y' ∣ y):Int.gcd x' y'=1:=by
 have h1:=Int.gcd_dvd_gcd_of_dvd_left y hx;have h2:=Int.gcd_dvd_gcd_of_dvd_right x' hy;have h3:=Nat.dvd_trans h2 h1;rw[h] at h3;exact Nat.dvd_one.1 h3
theorem yU {x y z:Int} (h1:Int.gcd x y=1) (h2:Int.gcd x z=1):Int.gcd x (y*z)=1:=by
 rw[Int.gcd_mul_right_right_of_gcd_eq_one h1]; exact h2
theorem yQ {x y z:Int} (h1:Int.gcd x z=1) (h2:Int.gcd y z=1):Int.gcd (x*y) z=1:=by
 rw[Int.gcd_comm] at *;exact yU h1 h2
theorem tW (a b:Rat) (g m n s h p r:Int) (hg:g=(Int.gcd a.den b.den:Nat)) (hm:m=a.den/g) (hn:n=b.den/g) (hs:s=a.num*n+b.num*m) (hh:h=(Int.gcd s g:Nat)) (hp:p=s/h) (hr:r=g/h) :
  Int.gcd p (m*n*r)=1/\Rat.divInt p (m*n*r)=a+b:=by
 have ha:=qQ a;have hb:=qQ b;have hgp:0<Int.gcd a.den b.den:=Int.gcd_pos_of_ne_zero_left _ ha;have hg0:g≠0:=by omega
 have hga:g ∣ (a.den:Int):=by rw[hg]; exact Int.gcd_dvd_left ..
 have hgb:g ∣ (b.den:Int):=by rw[hg]; exact Int.gcd_dvd_right ..
 have ea:(a.den:Int)=m*g:=by rw[hm]; exact(Int.ediv_mul_cancel hga).symm
 have eb:(b.den:Int)=n*g:=by rw[hn]; exact(Int.ediv_mul_cancel hgb).symm
 have hhp:0<Int.gcd s g:=Int.gcd_pos_of_ne_zero_right _ hg0;have hh0:h≠0:=by omega
 have hhs:h ∣ s:=by rw[hh]; exact Int.gcd_dvd_left ..
 have hhg:h ∣ g:=by rw[hh]; exact Int.gcd_dvd_right ..
 have es:s=p*h:=by rw[hp]; exact(Int.ediv_mul_cancel hhs).symm
 have eg:g=r*h:=by rw[hr]; exact(Int.ediv_mul_cancel hhg).symm
 have hmn:Int.gcd m n=1:=by rw[hm,hn,hg]; exact Int.gcd_ediv_gcd_ediv_gcd hgp
 have hpr:Int.gcd p r=1:=by rw[hp,hr,hh]; exact Int.gcd_ediv_gcd_ediv_gcd hhp
 have hm0:m≠0:=fun e=>ha (by rw[ea,e,Int.zero_mul]);have hn0:n≠0:=fun e=>hb (by rw[eb,e,Int.zero_mul]);have hr0:r≠0:=fun e=>hg0 (by rw[eg,e,Int.zero_mul]);have h1m:Int.gcd a.num m=1:=sS (red a) (Int.dvd_refl _) ⟨g,ea⟩;have h2n:Int.gcd b.num n=1:=sS (red b) (Int.dvd_refl _) ⟨g,eb⟩;have hsm:Int.gcd s m=1:=by
  rw[hs,Int.gcd_add_mul_right_left];exact yQ h1m (by rw[Int.gcd_comm]; exact hmn)
 have hsn:Int.gcd s n=1:=by
  rw[hs,Int.add_comm,Int.gcd_add_mul_right_left];exact yQ h2n hmn
 have hps:p ∣ s:=⟨h,es⟩
 refine⟨yU (yU (sS hsm hps (Int.dvd_refl _)) (sS hsn hps (Int.dvd_refl _))) hpr,?_⟩;have hq0:m*n*r≠0:=Int.mul_ne_zero (Int.mul_ne_zero hm0 hn0) hr0;have e:a+b=Rat.divInt (a.num*b.den+b.num*a.den) (a.den*b.den):=by
  rw[<- Rat.divInt_add_divInt a.num b.num ha hb,Rat.num_divInt_den,Rat.num_divInt_den]
 rw[e,Rat.divInt_eq_divInt_iff hq0 (Int.mul_ne_zero ha hb),ea,eb];have:a.num*(n*g)+b.num*(m*g)=s*g:=by rw[hs]; grind
 rw[this,es,eg];grind
theorem tM (a b:Rat) (g h m n r s:Int) (hg:g=(Int.gcd a.num b.den:Nat)) (hh:h=(Int.gcd b.num a.den:Nat)) (hm:m=a.num/g) (hs:s=b.den/g) (hn:n=b.num/h) (hr:r=a.den/h) :
  Int.gcd (m*n) (r*s)=1/\Rat.divInt (m*n) (r*s)=a*b:=by
 have ha:=qQ a;have hb:=qQ b;have hgp:0<Int.gcd a.num b.den:=Int.gcd_pos_of_ne_zero_right _ hb;have hhp:0<Int.gcd b.num a.den:=Int.gcd_pos_of_ne_zero_right _ ha;have d1:g ∣ a.num:=by rw[hg]; exact Int.gcd_dvd_left ..
 have d2:g ∣ (b.den:Int):=by rw[hg]; exact Int.gcd_dvd_right ..
 have d3:h ∣ b.num:=by rw[hh]; exact Int.gcd_dvd_left ..
 have d4:h ∣ (a.den:Int):=by rw[hh]; exact Int.gcd_dvd_right ..
 have e1:a.num=m*g:=by rw[hm]; exact(Int.ediv_mul_cancel d1).symm
 have e2:(b.den:Int)=s*g:=by rw[hs]; exact(Int.ediv_mul_cancel d2).symm
 have e3:b.num=n*h:=by rw[hn]; exact(Int.ediv_mul_cancel d3).symm
 have e4:(a.den:Int)=r*h:=by rw[hr]; exact(Int.ediv_mul_cancel d4).symm
 have hms:Int.gcd m s=1:=by rw[hm,hs,hg]; exact Int.gcd_ediv_gcd_ediv_gcd hgp
 have hnr:Int.gcd n r=1:=by rw[hn,hr,hh]; exact Int.gcd_ediv_gcd_ediv_gcd hhp
 have hmr:Int.gcd m r=1:=sS (red a) ⟨g,e1⟩ ⟨h,e4⟩;have hns:Int.gcd n s=1:=sS (red b) ⟨h,e3⟩ ⟨g,e2⟩;have hr0:r≠0:=fun e=>ha (by rw[e4,e,Int.zero_mul]);have hs0:s≠0:=fun e=>hb (by rw[e2,e,Int.zero_mul]);refine⟨yU (yQ hmr hnr) (yQ hms hns),?_⟩;have e:a*b=Rat.divInt (a.num*b.num) (a.den*b.den):=by
  rw[<- Rat.divInt_mul_divInt,Rat.num_divInt_den,Rat.num_divInt_den]
 rw[e,Rat.divInt_eq_divInt_iff (Int.mul_ne_zero hr0 hs0) (Int.mul_ne_zero ha hb),e4,e2];rw[e1,e3];grind
theorem aGo {a b:Rat} (ha:a.den=1) (hb:b.den=1):(a+b).num=a.num+b.num/\(a+b).den=1/\(a*b).num=a.num*b.num/\(a*b).den=1:=by
 have xa:Rat.divInt a.num 1=a:=by have h:=Rat.num_divInt_den a; rw[ha] at h; exact h
 have xb:Rat.divInt b.num 1=b:=by have h:=Rat.num_divInt_den b; rw[hb] at h; exact h
 have e:a+b=Rat.divInt (a.num+b.num) 1:=by
  have h:=Rat.divInt_add_divInt a.num b.num (d₁:=1) (d₂:=1) (by decide) (by decide);rw[xa,xb] at h;rw[h];simp
 have e':a*b=Rat.divInt (a.num*b.num) 1:=by
  have h:=Rat.divInt_mul_divInt a.num b.num (d₁:=1) (d₂:=1);rw[xa,xb] at h;rw[h];simp
 have hg:∀ x:Int,Int.gcd x 1=1:=fun x=>Int.gcd_one_right x;refine⟨?_,?_,?_,?_⟩
 ·rw[e,qG (hg _)]; simp
 ·have:=aAg (hg (a.num+b.num)) (by decide); rw[e]; omega
 ·rw[e',qG (hg _)]; simp
 ·have:=aAg (hg (a.num*b.num)) (by decide); rw[e']; omega
theorem aCi (p q:Int) (hq:q≠0):Int.gcd (p/(Int.gcd p q:Nat)) (q/(Int.gcd p q:Nat))=1/\Rat.divInt (p/(Int.gcd p q:Nat)) (q/(Int.gcd p q:Nat))=Rat.divInt p q:=by
 have hg:0<Int.gcd p q:=Int.gcd_pos_of_ne_zero_right _ hq;have d1:((Int.gcd p q:Nat):Int) ∣ p:=Int.gcd_dvd_left ..;have d2:((Int.gcd p q:Nat):Int) ∣ q:=Int.gcd_dvd_right ..;refine⟨Int.gcd_ediv_gcd_ediv_gcd hg,?_⟩;obtain⟨x,hx⟩:=d1;obtain⟨y,hy⟩:=d2;generalize ((Int.gcd p q:Nat):Int)=G at *;have hG:G≠0:=by rintro rfl; rw[Int.zero_mul] at hy; exact hq hy
 have h1:p/G=x:=by rw[hx]; exact Int.mul_ediv_cancel_left _ hG
 have h2:q/G=y:=by rw[hy]; exact Int.mul_ediv_cancel_left _ hG
 have hy0:y≠0:=by rintro rfl; rw[Int.mul_zero] at hy; exact hq hy
 rw[h1,h2,Rat.divInt_eq_divInt_iff hy0 hq];rw[hx,hy];grind
theorem aQ9 {q:Int} (h:(bB q 0==0)=true):q=0:=by
 have h:bB q 0=0:=by simpa using h
 unfold bB at h;split at h
 ·omega
 ·split at h<;>omega
theorem aJh {q:Int} (h:(bB q 0 == -1)=true):q<0:=by
 have h:bB q 0 = -1:=by simpa using h
 unfold bB at h;split at h
 ·omega
 ·split at h<;>omega
theorem aJg {q:Int} (h:(bB q 0==0)=false) (h':(bB q 0 == -1)=false):0<q:=by
 have h:bB q 0≠0:=by simpa using h
 have h':bB q 0 ≠ -1:=by simpa using h'
 unfold bB at h h';split at h
 ·simp_all
 ·split at h<;>omega
end Vc
end Go.Proofs.YtjmbkipbmbnhjaaGreat

namespace Go.Proofs.YtjmbkipbmbnhjaaGreat
open Go.RowKit
open Go.Lib (hid)
open Dg Zn
namespace Vc
set_option maxRecDepth 100000
abbrev RT (a:Rat) (k:Nat):SA Dm:=.d (Dm.rt a.num (qd a) k)
theorem sW (p q:Int) (j k:Nat) (hc:q≠0->Int.gcd p q=1):aC Tryz.prog 101 [.d (Dm.int p j),.d (Dm.int q k)] (.one (RT (Rat.divInt p q) (max j k))):=by
 refine aC.of (n:=23) Tryz.func101 rfl rfl rfl rfl rfl fun cx hfr=>?_;refine sr rfl ?_;refine p2 (cG (i:=0)) ?_;refine p2 (cG (i:=1)) ?_;refine p2 (aV (i:=2) bS) ?_;refine RV.done ?_;refine CV.seq ?_;refine sr rfl ?_;refine p1 (aG aL) ?_;refine xc (aKr _) Tryz.func137 (xa rfl) hfr ?_;refine RV.done ?_;refine CV.block ?_;refine sr rfl ?_;refine p1 (dF) ?_;refine xn ?_;refine RV.done ?_;refine CV.cond rfl (fun h1=>?_) (fun h1=>?_)
 ·refine sr rfl ?_;refine p1 (tL) ?_;refine p1 (aP (aB).2) ?_;refine RV.done ?_;refine CV.ret ?_;obtain rfl:=aQ9 h1;exact aW rfl (.inr rfl) ⟨_,_,_,_,_,rfl,rfl,rfl,aB⟩ (dZ (vV p).1.symm (vV p).2.symm (Nat.zero_le _))
 ·refine sr rfl ?_;refine p1 (dF) ?_;refine xn ?_;refine RV.done ?_;refine CV.cond rfl (fun h2=>?_) (fun h2=>?_)
  ·refine CV.region rfl (fun _=>by kernel_rfl) ?_;refine p1 (aG aL) ?_;refine xc (aEv _) Tryz.func138 (xa rfl) hfr ?_;refine p1 (aG aL) ?_;refine xc (aEv _) Tryz.func138 (xa rfl) hfr ?_;refine p1 (aP (aL).2) ?_;refine p1 (aP (aL).2) ?_;refine bP (by kernel_rfl) ?_;refine CV.seq ?_;refine sr rfl ?_;refine p1 (aG aL) ?_;refine xc (tQ _ _) Tryz.func139 (xa rfl) hfr ?_;refine RV.done ?_;refine CV.cond rfl (fun h3=>?_) (fun h3=>?_)
   ·refine sr rfl ?_;refine p1 (aG aL) ?_;refine p1 (rI) ?_;refine p1 (aP (aB).2) ?_;refine RV.done ?_;refine CV.ret ?_;have hq:=aJh h2;have h4 : -q=1:=by simpa using h3
    refine aW rfl (.inr rfl) ⟨_,_,_,_,_,rfl,rfl,rfl,aB⟩ (dZ ?_ ?_ (Nat.le_max_left ..))
    ·rw[qG (hc (by omega)),Int.sign_eq_neg_one_of_neg hq]; omega
    ·rw[xF (hc (by omega)) (by omega),if_pos (by omega)]
   ·refine CV.skip ?_;refine sr rfl ?_;refine p1 (aG aL) ?_;refine p1 (aG aL) ?_;refine p1 (tJ) ?_;refine p1 (aP (aB).2) ?_;refine RV.done ?_;refine CV.ret ?_;have hq:=aJh h2;have h4:¬ -q=1:=by simpa using h3
    refine aW rfl (.inr rfl) ⟨_,_,_,_,_,rfl,rfl,rfl,aB⟩ (dZ ?_ ?_ (Nat.le_refl _))
    ·rw[qG (hc (by omega)),Int.sign_eq_neg_one_of_neg hq]; omega
    ·rw[xF (hc (by omega)) (by omega),if_neg (by omega)]; omega
  ·refine CV.skip ?_;refine CV.seq ?_;refine sr rfl ?_;refine p1 (aG aL) ?_;refine xc (tQ _ _) Tryz.func139 (xa rfl) hfr ?_;refine RV.done ?_;refine CV.cond rfl (fun h3=>?_) (fun h3=>?_)
   ·refine sr rfl ?_;refine p1 (aG aL) ?_;refine p1 (rI) ?_;refine p1 (aP (aB).2) ?_;refine RV.done ?_;refine CV.ret ?_;have hq:=aJg h1 h2;have h4:q=1:=by simpa using h3
    refine aW rfl (.inr rfl) ⟨_,_,_,_,_,rfl,rfl,rfl,aB⟩ (dZ ?_ ?_ (Nat.le_max_left ..))
    ·rw[qG (hc (by omega)),Int.sign_eq_one_of_pos hq]; omega
    ·rw[xF (hc (by omega)) (by omega),if_pos (by omega)]
   ·refine CV.skip ?_;refine sr rfl ?_;refine p1 (aG aL) ?_;refine p1 (aG aL) ?_;refine p1 (tJ) ?_;refine p1 (aP (aB).2) ?_;refine RV.done ?_;refine CV.ret ?_;have hq:=aJg h1 h2;have h4:¬ q=1:=by simpa using h3
    refine aW rfl (.inr rfl) ⟨_,_,_,_,_,rfl,rfl,rfl,aB⟩ (dZ ?_ ?_ (Nat.le_refl _))
    ·rw[qG (hc (by omega)),Int.sign_eq_one_of_pos hq]; omega
    ·rw[xF (hc (by omega)) (by omega),if_neg (by omega)]; omega
theorem gU (a:Rat) (k:Nat):aC Tryz.prog 102 [RT a k] (.one (.d (Dm.int a.den (k+3)))):=by
 have h:=aWs a.num (qd a) k;rwa[xS] at h
theorem wS (a b:Rat) (j k:Nat) (hj:j<=10000000) (hk:k<=10000000):aC Tryz.prog 56 [RT a j,RT b k] (.one (RT (a+b) (3*(j+k)+20))):=by
 refine aC.of (n:=58) Tryz.func56 rfl rfl rfl rfl rfl fun cx hfr=>?_;refine sr rfl ?_;refine p2 (cG (i:=0)) ?_;refine p2 (cG (i:=1)) ?_;refine p2 (aV (i:=2) bS) ?_;refine RV.done ?_;refine CV.seq ?_;refine sr rfl ?_;refine p1 (aG aB) ?_;refine xc (pW _ _ _) Tryz.func103 (xa rfl) hfr ?_;refine xm ?_;refine RV.bool (fun h1=>?_) (fun h1=>?_)
 ·refine y1 (aG aB) ?_;refine y1 (aU (pW _ _ _) rfl rfl bd Tryz.func103 rfl rfl (xa rfl) rfl hfr rfl) ?_;refine p1 (cI) ?_;refine RV.done ?_;refine CV.cond rfl (fun h2=>?_) (fun h2=>?_)
  ·refine sr rfl ?_;refine p1 (bJ dK) ?_;refine p1 (bN 0 dJ aL) ?_;refine p1 (bJ dK) ?_;refine p1 (bN 0 dJ aL) ?_;refine xd rfl (aEw _ _ (by omega) (by omega)) Tryz.func106 (xb rfl rfl) hfr ?_;refine p1 (rI) ?_;refine p1 (aP (aB).2) ?_;refine RV.done ?_;refine CV.ret ?_;have ha:=qD.1 (by simpa using h1);have hb:=qD.1 (by simpa using h2);obtain⟨e1,e2,-,-⟩:=aGo ha hb;exact aW rfl (.inr rfl) ⟨_,_,_,_,_,rfl,rfl,rfl,aB⟩ (dZ e1.symm (qD.2 e2).symm (by omega))
  ·refine CV.skip ?_;refine CV.seq ?_;refine CV.region rfl (fun _=>by kernel_rfl) ?_;refine p1 (aG aB) ?_;refine xc (gU _ _) Tryz.func102 (xa rfl) hfr ?_;refine p1 (aG aB) ?_;refine xc (gU _ _) Tryz.func102 (xa rfl) hfr ?_;refine xd rfl (aAp _ _ (by omega) (by omega)) Tryz.func107 (xb rfl rfl) hfr ?_;refine p2 (aV (i:=3) cZ) ?_;refine p1 (aP (aL).2) ?_;refine bP (by kernel_rfl) ?_;refine CV.seq ?_;refine CV.region rfl (fun _=>by kernel_rfl) ?_;refine p1 (aG aB) ?_;refine xc (gU _ _) Tryz.func102 (xa rfl) hfr ?_;refine p1 (aG aL) ?_;refine xd rfl (sQ _ _ _ _ (by omega) (by omega)) Tryz.func108 (xb rfl rfl) hfr ?_;refine p1 (aG aB) ?_;refine xc (gU _ _) Tryz.func102 (xa rfl) hfr ?_;refine p1 (aG aL) ?_;refine xd rfl (sQ _ _ _ _ (by omega) (by omega)) Tryz.func108 (xb rfl rfl) hfr ?_;refine p2 (aV (i:=4) cZ) ?_;refine p2 (aV (i:=5) cZ) ?_;refine p1 (aP (aL).2) ?_;refine p1 (aP (aL).2) ?_;refine bP (by kernel_rfl) ?_;refine CV.seq ?_;refine CV.region rfl (fun _=>by kernel_rfl) ?_;refine p1 (bJ dK) ?_;refine p1 (bN 0 dJ aL) ?_;refine p1 (aG aL) ?_;refine xd rfl (iI _ _ (by omega) (by omega)) Tryz.func105 (xb rfl rfl) hfr ?_;refine p1 (bJ dK) ?_;refine p1 (bN 0 dJ aL) ?_;refine p1 (aG aL) ?_;refine xd rfl (iI _ _ (by omega) (by omega)) Tryz.func105 (xb rfl rfl) hfr ?_;refine xd rfl (aEw _ _ (by omega) (by omega)) Tryz.func106 (xb rfl rfl) hfr ?_;refine p2 (aV (i:=6) cZ) ?_;refine p1 (aP (aL).2) ?_;refine bP (by kernel_rfl) ?_;refine sr rfl ?_;refine p1 (aG aL) ?_;refine p1 (aG aL) ?_;refine xd rfl (qZ _ _ _ _ (by omega) (by omega)) Tryz.func109 (xb rfl rfl) hfr ?_;refine xm ?_;refine p1 (dE) ?_;refine p1 (dE) ?_;refine p2 (aV (i:=7) cZ) ?_;refine p2 (aV (i:=8) cZ) ?_;refine p1 (aP (aL).2) ?_;refine p1 (aP (aL).2) ?_;refine RV.done ?_;refine CV.seq ?_;refine CV.region rfl (fun _=>by kernel_rfl) ?_;refine p1 (aG aL) ?_;refine p1 (aG aL) ?_;refine p1 (aG aL) ?_;refine xd rfl (iI _ _ (by omega) (by omega)) Tryz.func105 (xb rfl rfl) hfr ?_;refine p1 (aG aL) ?_;refine xd rfl (iI _ _ (by omega) (by omega)) Tryz.func105 (xb rfl rfl) hfr ?_;refine xc (sW _ _ _ _ (fun _=>(tW a b _ _ _ _ _ _ _ rfl rfl rfl rfl rfl rfl rfl).1)) Tryz.func101 (xb rfl rfl) hfr ?_;refine p1 (aP (aB).2) ?_;refine bP (by kernel_rfl) ?_;refine CV.ret ?_;exact aW rfl (.inr rfl) ⟨_,_,_,_,_,rfl,rfl,rfl,aB⟩ (dZ (by rw[(tW a b _ _ _ _ _ _ _ rfl rfl rfl rfl rfl rfl rfl).2]) (by rw[(tW a b _ _ _ _ _ _ _ rfl rfl rfl rfl rfl rfl rfl).2]) (by omega))
 ·refine xk ?_;refine xk ?_;refine p1 (cN) ?_;refine RV.done ?_;refine CV.no rfl ?_;refine CV.skip ?_;refine CV.seq ?_;refine CV.region rfl (fun _=>by kernel_rfl) ?_;refine p1 (aG aB) ?_;refine xc (gU _ _) Tryz.func102 (xa rfl) hfr ?_;refine p1 (aG aB) ?_;refine xc (gU _ _) Tryz.func102 (xa rfl) hfr ?_;refine xd rfl (aAp _ _ (by omega) (by omega)) Tryz.func107 (xb rfl rfl) hfr ?_;refine p2 (aV (i:=3) cZ) ?_;refine p1 (aP (aL).2) ?_;refine bP (by kernel_rfl) ?_;refine CV.seq ?_;refine CV.region rfl (fun _=>by kernel_rfl) ?_;refine p1 (aG aB) ?_;refine xc (gU _ _) Tryz.func102 (xa rfl) hfr ?_;refine p1 (aG aL) ?_;refine xd rfl (sQ _ _ _ _ (by omega) (by omega)) Tryz.func108 (xb rfl rfl) hfr ?_;refine p1 (aG aB) ?_;refine xc (gU _ _) Tryz.func102 (xa rfl) hfr ?_;refine p1 (aG aL) ?_;refine xd rfl (sQ _ _ _ _ (by omega) (by omega)) Tryz.func108 (xb rfl rfl) hfr ?_;refine p2 (aV (i:=4) cZ) ?_;refine p2 (aV (i:=5) cZ) ?_;refine p1 (aP (aL).2) ?_;refine p1 (aP (aL).2) ?_;refine bP (by kernel_rfl) ?_;refine CV.seq ?_;refine CV.region rfl (fun _=>by kernel_rfl) ?_;refine p1 (bJ dK) ?_;refine p1 (bN 0 dJ aL) ?_;refine p1 (aG aL) ?_;refine xd rfl (iI _ _ (by omega) (by omega)) Tryz.func105 (xb rfl rfl) hfr ?_;refine p1 (bJ dK) ?_;refine p1 (bN 0 dJ aL) ?_;refine p1 (aG aL) ?_;refine xd rfl (iI _ _ (by omega) (by omega)) Tryz.func105 (xb rfl rfl) hfr ?_;refine xd rfl (aEw _ _ (by omega) (by omega)) Tryz.func106 (xb rfl rfl) hfr ?_;refine p2 (aV (i:=6) cZ) ?_;refine p1 (aP (aL).2) ?_;refine bP (by kernel_rfl) ?_;refine sr rfl ?_;refine p1 (aG aL) ?_;refine p1 (aG aL) ?_;refine xd rfl (qZ _ _ _ _ (by omega) (by omega)) Tryz.func109 (xb rfl rfl) hfr ?_;refine xm ?_;refine p1 (dE) ?_;refine p1 (dE) ?_;refine p2 (aV (i:=7) cZ) ?_;refine p2 (aV (i:=8) cZ) ?_;refine p1 (aP (aL).2) ?_;refine p1 (aP (aL).2) ?_;refine RV.done ?_;refine CV.seq ?_;refine CV.region rfl (fun _=>by kernel_rfl) ?_;refine p1 (aG aL) ?_;refine p1 (aG aL) ?_;refine p1 (aG aL) ?_;refine xd rfl (iI _ _ (by omega) (by omega)) Tryz.func105 (xb rfl rfl) hfr ?_;refine p1 (aG aL) ?_;refine xd rfl (iI _ _ (by omega) (by omega)) Tryz.func105 (xb rfl rfl) hfr ?_;refine xc (sW _ _ _ _ (fun _=>(tW a b _ _ _ _ _ _ _ rfl rfl rfl rfl rfl rfl rfl).1)) Tryz.func101 (xb rfl rfl) hfr ?_;refine p1 (aP (aB).2) ?_;refine bP (by kernel_rfl) ?_;refine CV.ret ?_;exact aW rfl (.inr rfl) ⟨_,_,_,_,_,rfl,rfl,rfl,aB⟩ (dZ (by rw[(tW a b _ _ _ _ _ _ _ rfl rfl rfl rfl rfl rfl rfl).2]) (by rw[(tW a b _ _ _ _ _ _ _ rfl rfl rfl rfl rfl rfl rfl).2]) (by omega))
end Vc
end Go.Proofs.YtjmbkipbmbnhjaaGreat

namespace Go.Proofs.YtjmbkipbmbnhjaaGreat
open Go.RowKit
open Dg Zn
namespace Vc
theorem aQa (w:World):gH (fun _=>False) w:=fun _ h=>h.elim
theorem aVz {w:World} {v:Value} {l:List Int} (h:aBf w v l):(SA.d (Dm.ints l)).is (fun _=>False) (fun _=>(0,0)) w v:=by
 intro w' hag;obtain⟨h0,ao,cap,h1,h2,h3,h4⟩:=h;refine⟨h0,ao,cap,h1,h2,h3,fun hl=>?_⟩;obtain⟨b,off,h5,h6⟩:=h4 hl;exact⟨b,off,h5,fun i hi=>aHh (L:=fun _=>False) (fun q=>q) hag (h6 i hi)⟩
theorem aC.walk {P:Program} {f:FuncId} {args:List (SA Dm)} {b:Bool} (hcon:aC P f args (.one (.v (.bool b)))) {w:World} {vs:List Value} (h:dN (fun _=>False) (fun _=>(0,0)) w args vs):Calls P f vs.toArray w (aBo w b):=by
 refine(hcon (fun _=>False) (fun _=>(0,0)) w vs (fun _ h=>h.elim) (aQa w) trivial h).mono ?_;rintro e w' ⟨v,rfl,h1,h2⟩;exact⟨congrArg Ending.returned h2,h1⟩
end Vc
end Go.Proofs.YtjmbkipbmbnhjaaGreat
