/-
  
-/
import Derived.Test.YtjmbkipbmbnhjaaGreatSQ9
import Derived.Test.YtjmbkipbmbnhjaaGreatSQ33
import Derived.IntWalk
import Derived.Test.YtjmbkipbmbnhjaaGreatSQ32
import Derived.Test.YtjmbkipbmbnhjaaGreatSQ21
import Derived.Test.YtjmbkipbmbnhjaaGreatSQ22
set_option linter.unusedVariables false
set_option linter.unusedSimpArgs false
set_option linter.unusedSectionVars false
namespace Go.Proofs.YtjmbkipbmbnhjaaGreat
open Go.RowKit
open Go.Lib (hid)
open Dg Zn
namespace Vc
set_option maxRecDepth 100000
theorem cF {z:Int} (h1 : -9223372036854775808<=z) (h2:z<=9223372036854775807):IntKind.i64.wrap z=z:=IntWalk.i64_in _ (by omega)
theorem aRk (x:Int) (j k:Nat):aC Tryz.prog 120 [.d (Dm.int x j),.d (Dm.int 0 k)] (.tup [.d (Dm.int 0 j),.d (Dm.int 0 k)]):=by
 refine aC.of (n:=58) Tryz.func120 rfl rfl rfl rfl rfl fun cx hfr=>?_;refine sr rfl ?_;refine p2 (cG (i:=0)) ?_;refine p2 (cG (i:=1)) ?_;refine p2 (aV (i:=2) cZ) ?_;refine p2 (aV (i:=3) cZ) ?_;refine RV.done ?_;refine CV.seq ?_;refine sr rfl ?_;refine p1 (bJ pJ) ?_;refine p1 (bN 1 sD pC) ?_;refine p1 (sH) ?_;refine p1 (dF) ?_;refine RV.done ?_;refine CV.cond rfl (fun hc=>?_) (fun hc=>False.elim (by rw[nP] at hc; simp at hc));refine sr rfl ?_;refine p1 (aCy rfl rfl bd) ?_;refine p1 (aCy rfl rfl bd) ?_;refine p1 (aP (aL).2) ?_;refine p1 (aP (aL).2) ?_;refine RV.done ?_;refine CV.ret ?_;exact sM rfl (.inr rfl) ⟨_,_,_,_,_,rfl,rfl,rfl,aL⟩ ⟨_,_,_,_,_,rfl,rfl,rfl,aL⟩ (aLm rfl (Nat.zero_le _) rfl (Nat.zero_le _))
theorem aJk (x y:Int) {j k:Nat} (hj:j<=1000000000) (hk:k<=1000000000):aC Tryz.prog 120 [.d (Dm.int x j),.d (Dm.int y k)] (.tup [.d (Dm.int (x/y) j),.d (Dm.int (if y=0 then 0 else x%y) k)]):=by
 by_cases hy:y=0
 ·subst hy;rw[if_pos rfl,Int.ediv_zero];exact aRk x j k
 ·refine aKc (fun vx vy w h1 h2 l1 l2=>?_) fun l1 l2=>⟨Nat.le_trans (nY (aGc x y)) l1,?_⟩
  ·rw[if_neg hy];exact aGx vx vy x y w h1 h2 hy (by omega) (by omega)
  ·rw[if_neg hy];refine Nat.le_trans (nY ?_) l2;have h1:=Int.emod_nonneg x hy;have h2:=Int.emod_lt x hy;omega
theorem aTw (p q:Int):Rat.divInt (p/(Int.gcd p q:Nat)) (q/(Int.gcd p q:Nat))=Rat.divInt p q:=by
 by_cases h:q=0
 ·rw[h,Int.zero_ediv,Rat.divInt_zero,Rat.divInt_zero]
 ·exact(aCi p q h).2
theorem aNi (a:Rat):0<=qd a/\qd a≠1:=by
 unfold qd;split
 ·exact⟨Int.le_refl _,by decide⟩
 ·exact⟨by omega,by omega⟩
theorem oA (a b:Rat) (j k:Nat) (hj:j<=10000000) (hk:k<=10000000):aC Tryz.prog 87 [RT a j,RT b k] (.one (RT (a*b) (3*(j+k)+20))):=by
 refine aC.of (n:=44) Tryz.func87 rfl rfl rfl rfl rfl fun cx hfr=>?_;refine sr rfl ?_;refine p2 (cG (i:=0)) ?_;refine p2 (cG (i:=1)) ?_;refine p2 (aV (i:=2) bS) ?_;refine RV.done ?_;refine CV.seq ?_;refine sr rfl ?_;refine p1 (aG aB) ?_;refine xc (pW _ _ _) Tryz.func103 (xa rfl) hfr ?_;refine xm ?_;refine RV.bool (fun h1=>?_) (fun h1=>?_)
 ·refine y1 (aG aB) ?_;refine y1 (aU (pW _ _ _) rfl rfl bd Tryz.func103 rfl rfl (xa rfl) rfl hfr rfl) ?_;refine p1 (cI) ?_;refine RV.done ?_;refine CV.cond rfl (fun h2=>?_) (fun h2=>?_)
  ·refine sr rfl ?_;refine p1 (bJ dK) ?_;refine p1 (bN 0 dJ aL) ?_;refine p1 (bJ dK) ?_;refine p1 (bN 0 dJ aL) ?_;refine xd rfl (iI _ _ (by omega) (by omega)) Tryz.func105 (xb rfl rfl) hfr ?_;refine p1 (rI) ?_;refine p1 (aP (aB).2) ?_;refine RV.done ?_;refine CV.ret ?_;have ha:=qD.1 (by simpa using h1);have hb:=qD.1 (by simpa using h2);obtain⟨-,-,e1,e2⟩:=aGo ha hb;exact aW rfl (.inr rfl) ⟨_,_,_,_,_,rfl,rfl,rfl,aB⟩ (dZ e1.symm (qD.2 e2).symm (by omega))
  ·refine CV.skip ?_;refine CV.seq ?_;refine CV.region rfl (fun _=>by kernel_rfl) ?_;refine p1 (bJ dK) ?_;refine p1 (bN 0 dJ aL) ?_;refine p1 (aG aB) ?_;refine xc (gU _ _) Tryz.func102 (xa rfl) hfr ?_;refine xd rfl (qZ _ _ _ _ (by omega) (by omega)) Tryz.func109 (xb rfl rfl) hfr ?_;refine xm ?_;refine p1 (dE) ?_;refine p1 (dE) ?_;refine p2 (aV (i:=3) cZ) ?_;refine p2 (aV (i:=4) cZ) ?_;refine p1 (aP (aL).2) ?_;refine p1 (aP (aL).2) ?_;refine bP (by kernel_rfl) ?_;refine CV.seq ?_;refine CV.region rfl (fun _=>by kernel_rfl) ?_;refine p1 (bJ dK) ?_;refine p1 (bN 0 dJ aL) ?_;refine p1 (aG aB) ?_;refine xc (gU _ _) Tryz.func102 (xa rfl) hfr ?_;refine xd rfl (qZ _ _ _ _ (by omega) (by omega)) Tryz.func109 (xb rfl rfl) hfr ?_;refine xm ?_;refine p1 (dE) ?_;refine p1 (dE) ?_;refine p2 (aV (i:=5) cZ) ?_;refine p2 (aV (i:=6) cZ) ?_;refine p1 (aP (aL).2) ?_;refine p1 (aP (aL).2) ?_;refine bP (by kernel_rfl) ?_;refine CV.seq ?_;refine CV.region rfl (fun _=>by kernel_rfl) ?_;refine p1 (aG aL) ?_;refine p1 (aG aL) ?_;refine xd rfl (iI _ _ (by omega) (by omega)) Tryz.func105 (xb rfl rfl) hfr ?_;refine p1 (aG aL) ?_;refine p1 (aG aL) ?_;refine xd rfl (iI _ _ (by omega) (by omega)) Tryz.func105 (xb rfl rfl) hfr ?_;refine xc (sW _ _ _ _ (fun _=>(tM a b _ _ _ _ _ _ rfl rfl rfl rfl rfl rfl).1)) Tryz.func101 (xb rfl rfl) hfr ?_;refine p1 (aP (aB).2) ?_;refine bP (by kernel_rfl) ?_;refine CV.ret ?_;exact aW rfl (.inr rfl) ⟨_,_,_,_,_,rfl,rfl,rfl,aB⟩ (dZ (by rw[(tM a b _ _ _ _ _ _ rfl rfl rfl rfl rfl rfl).2]) (by rw[(tM a b _ _ _ _ _ _ rfl rfl rfl rfl rfl rfl).2]) (by omega))
 ·refine xk ?_;refine xk ?_;refine p1 (cN) ?_;refine RV.done ?_;refine CV.no rfl ?_;refine CV.skip ?_;refine CV.seq ?_;refine CV.region rfl (fun _=>by kernel_rfl) ?_;refine p1 (bJ dK) ?_;refine p1 (bN 0 dJ aL) ?_;refine p1 (aG aB) ?_;refine xc (gU _ _) Tryz.func102 (xa rfl) hfr ?_;refine xd rfl (qZ _ _ _ _ (by omega) (by omega)) Tryz.func109 (xb rfl rfl) hfr ?_;refine xm ?_;refine p1 (dE) ?_;refine p1 (dE) ?_;refine p2 (aV (i:=3) cZ) ?_;refine p2 (aV (i:=4) cZ) ?_;refine p1 (aP (aL).2) ?_;refine p1 (aP (aL).2) ?_;refine bP (by kernel_rfl) ?_;refine CV.seq ?_;refine CV.region rfl (fun _=>by kernel_rfl) ?_;refine p1 (bJ dK) ?_;refine p1 (bN 0 dJ aL) ?_;refine p1 (aG aB) ?_;refine xc (gU _ _) Tryz.func102 (xa rfl) hfr ?_;refine xd rfl (qZ _ _ _ _ (by omega) (by omega)) Tryz.func109 (xb rfl rfl) hfr ?_;refine xm ?_;refine p1 (dE) ?_;refine p1 (dE) ?_;refine p2 (aV (i:=5) cZ) ?_;refine p2 (aV (i:=6) cZ) ?_;refine p1 (aP (aL).2) ?_;refine p1 (aP (aL).2) ?_;refine bP (by kernel_rfl) ?_;refine CV.seq ?_;refine CV.region rfl (fun _=>by kernel_rfl) ?_;refine p1 (aG aL) ?_;refine p1 (aG aL) ?_;refine xd rfl (iI _ _ (by omega) (by omega)) Tryz.func105 (xb rfl rfl) hfr ?_;refine p1 (aG aL) ?_;refine p1 (aG aL) ?_;refine xd rfl (iI _ _ (by omega) (by omega)) Tryz.func105 (xb rfl rfl) hfr ?_;refine xc (sW _ _ _ _ (fun _=>(tM a b _ _ _ _ _ _ rfl rfl rfl rfl rfl rfl).1)) Tryz.func101 (xb rfl rfl) hfr ?_;refine p1 (aP (aB).2) ?_;refine bP (by kernel_rfl) ?_;refine CV.ret ?_;exact aW rfl (.inr rfl) ⟨_,_,_,_,_,rfl,rfl,rfl,aB⟩ (dZ (by rw[(tM a b _ _ _ _ _ _ rfl rfl rfl rfl rfl rfl).2]) (by rw[(tM a b _ _ _ _ _ _ rfl rfl rfl rfl rfl rfl).2]) (by omega))
theorem wQ (a:Rat) (k:Nat):aC Tryz.prog 100 [RT a k] (.one (RT (-a) k)):=by
 refine aC.of (n:=9) Tryz.func100 rfl rfl rfl rfl rfl fun cx hfr=>?_;refine sr rfl ?_;refine p2 (cG (i:=0)) ?_;refine p2 (aV (i:=1) bS) ?_;refine RV.done ?_;refine CV.seq ?_;refine CV.region rfl (fun _=>by kernel_rfl) ?_;refine p1 (bJ dK) ?_;refine p1 (bN 0 dJ aL) ?_;refine xc (aEv _) Tryz.func138 (xa rfl) hfr ?_;refine p1 (bJ mI) ?_;refine p1 (bN 2 pF aL) ?_;refine p1 (tJ) ?_;refine p1 (aP (aB).2) ?_;refine bP (by kernel_rfl) ?_;refine CV.ret ?_;exact aW rfl (.inr rfl) ⟨_,_,_,_,_,rfl,rfl,rfl,aB⟩ (dZ (by rw[Rat.neg_num]) (by unfold qd; rw[Rat.neg_den]) (by omega))
theorem aUs (a b:Rat) (j k:Nat) (hj:j<=10000000) (hk:k<=10000000):aC Tryz.prog 152 [RT a j,RT b k] (.one (RT (a-b) (3*(j+k)+20))):=by
 refine aC.of (n:=9) Tryz.func152 rfl rfl rfl rfl rfl fun cx hfr=>?_;refine sr rfl ?_;refine p2 (cG (i:=0)) ?_;refine p2 (cG (i:=1)) ?_;refine p2 (aV (i:=2) bS) ?_;refine RV.done ?_;refine CV.seq ?_;refine CV.region rfl (fun _=>by kernel_rfl) ?_;refine p1 (aG aB) ?_;refine p1 (aG aB) ?_;refine xc (wQ _ _) Tryz.func100 (xa rfl) hfr ?_;refine xc (wS _ _ _ _ hj hk) Tryz.func56 (xb rfl rfl) hfr ?_;refine p1 (aP (aB).2) ?_;refine bP (by kernel_rfl) ?_;refine CV.ret ?_;exact aW rfl (.inr rfl) ⟨_,_,_,_,_,rfl,rfl,rfl,aB⟩ (dZ (by rw[Rat.sub_eq_add_neg]) (by rw[Rat.sub_eq_add_neg]) (Nat.le_refl _))
theorem aMv (b:Rat):Rat.divInt b.den b.num=b⁻¹:=by rw[<- Rat.inv_divInt,Rat.num_divInt_den]
theorem pB (a b:Rat) (j k:Nat) (hj:j<=1000000) (hk:k<=1000000):aC Tryz.prog 53 [RT a j,RT b k] (.one (RT (a/b) (3*(j+k)+40))):=by
 refine aC.of (n:=12) Tryz.func53 rfl rfl rfl rfl rfl fun cx hfr=>?_;refine sr rfl ?_;refine p2 (cG (i:=0)) ?_;refine p2 (cG (i:=1)) ?_;refine p2 (aV (i:=2) bS) ?_;refine RV.done ?_;refine CV.seq ?_;refine CV.region rfl (fun _=>by kernel_rfl) ?_;refine p1 (aG aB) ?_;refine p1 (aG aB) ?_;refine xc (gU _ _) Tryz.func102 (xa rfl) hfr ?_;refine p1 (bJ dK) ?_;refine p1 (bN 0 dJ aL) ?_;refine xc (sW _ _ _ _ (fun _=>aYa b)) Tryz.func101 (xb rfl rfl) hfr ?_;refine xd rfl (oA _ _ _ _ (by omega) (by omega)) Tryz.func87 (xb rfl rfl) hfr ?_;refine p1 (aP (aB).2) ?_;refine bP (by kernel_rfl) ?_;refine CV.ret ?_;exact aW rfl (.inr rfl) ⟨_,_,_,_,_,rfl,rfl,rfl,aB⟩ (dZ (by rw[aMv,Rat.div_def]) (by rw[aMv,Rat.div_def]) (by omega))
theorem zH (a:Rat) (k:Nat):aC Tryz.prog 98 [RT a k] (.one (.v (.int .i64 (bB a.num 0)))):=by
 refine aC.of (n:=6) Tryz.func98 rfl rfl rfl rfl rfl fun cx hfr=>?_;refine sr rfl ?_;refine p2 (cG (i:=0)) ?_;refine xn ?_;refine RV.done (sr rfl ?_);refine p1 (bJ dK) ?_;refine p1 (bN 0 dJ aL) ?_;refine xc (aKr _) Tryz.func137 (xa rfl) hfr ?_;refine xn ?_;refine RV.done ?_;refine CV.ret ?_;exact aW rfl (.inr rfl) rfl cH
def cX (a b:Rat):Int:=bB (a.num*b.den) (b.num*a.den)
theorem yR (a b:Rat) (j k:Nat) (hj:j<=10000000) (hk:k<=10000000):aC Tryz.prog 55 [RT a j,RT b k] (.one (.v (.int .i64 (cX a b)))):=by
 refine aC.of (n:=27) Tryz.func55 rfl rfl rfl rfl rfl fun cx hfr=>?_;refine sr rfl ?_;refine p2 (cG (i:=0)) ?_;refine p2 (cG (i:=1)) ?_;refine xn ?_;refine RV.done ?_;refine CV.seq ?_;refine sr rfl ?_;refine p1 (aG aB) ?_;refine xc (pW _ _ _) Tryz.func103 (xa rfl) hfr ?_;refine xm ?_;refine RV.bool (fun h1=>?_) (fun h1=>?_)
 ·refine y1 (aG aB) ?_;refine y1 (aU (pW _ _ _) rfl rfl bd Tryz.func103 rfl rfl (xa rfl) rfl hfr rfl) ?_;refine p1 (cI) ?_;refine RV.done ?_;refine CV.cond rfl (fun h2=>?_) (fun h2=>?_)
  ·refine sr rfl ?_;refine p1 (bJ dK) ?_;refine p1 (bN 0 dJ aL) ?_;refine p1 (bJ dK) ?_;refine p1 (bN 0 dJ aL) ?_;refine xc (aB9 _ _) Tryz.func104 (xb rfl rfl) hfr ?_;refine xn ?_;refine RV.done ?_;refine CV.ret ?_;have ha:=qD.1 (by simpa using h1);have hb:=qD.1 (by simpa using h2);exact aW rfl (.inr rfl) rfl (uR (by unfold cX; rw[ha,hb]; simp))
  ·refine CV.skip ?_;refine CV.seq ?_;refine CV.region rfl (fun _=>by kernel_rfl) ?_;refine p1 (bJ dK) ?_;refine p1 (bN 0 dJ aL) ?_;refine p1 (aG aB) ?_;refine xc (gU _ _) Tryz.func102 (xa rfl) hfr ?_;refine xd rfl (iI _ _ (by omega) (by omega)) Tryz.func105 (xb rfl rfl) hfr ?_;refine p1 (bJ dK) ?_;refine p1 (bN 0 dJ aL) ?_;refine p1 (aG aB) ?_;refine xc (gU _ _) Tryz.func102 (xa rfl) hfr ?_;refine xd rfl (iI _ _ (by omega) (by omega)) Tryz.func105 (xb rfl rfl) hfr ?_;refine xc (aB9 _ _) Tryz.func104 (xb rfl rfl) hfr ?_;refine xn ?_;refine bP (by kernel_rfl) ?_;refine CV.ret ?_;exact aW rfl (.inr rfl) rfl (uR rfl)
 ·refine xk ?_;refine xk ?_;refine p1 (cN) ?_;refine RV.done ?_;refine CV.no rfl ?_;refine CV.skip ?_;refine CV.seq ?_;refine CV.region rfl (fun _=>by kernel_rfl) ?_;refine p1 (bJ dK) ?_;refine p1 (bN 0 dJ aL) ?_;refine p1 (aG aB) ?_;refine xc (gU _ _) Tryz.func102 (xa rfl) hfr ?_;refine xd rfl (iI _ _ (by omega) (by omega)) Tryz.func105 (xb rfl rfl) hfr ?_;refine p1 (bJ dK) ?_;refine p1 (bN 0 dJ aL) ?_;refine p1 (aG aB) ?_;refine xc (gU _ _) Tryz.func102 (xa rfl) hfr ?_;refine xd rfl (iI _ _ (by omega) (by omega)) Tryz.func105 (xb rfl rfl) hfr ?_;refine xc (aB9 _ _) Tryz.func104 (xb rfl rfl) hfr ?_;refine xn ?_;refine bP (by kernel_rfl) ?_;refine CV.ret ?_;exact aW rfl (.inr rfl) rfl (uR rfl)
theorem aXs {a b:Rat} (h:qd a=qd b):a.den=b.den:=by
 have h1:=xS a;have h2:=xS b;rw[h] at h1;have:=h1.symm.trans h2;omega
theorem aSo (p q:Int) (j k:Nat) (hj:j<=10000000) (hk:k<=10000000):aC Tryz.prog 110 [.d (Dm.int p j),.d (Dm.int q k)] (.one (RT (Rat.divInt p q) (j+k))):=by
 refine aC.of (n:=11) Tryz.func110 rfl rfl rfl rfl rfl fun cx hfr=>?_;refine sr rfl ?_;refine p2 (cG (i:=0)) ?_;refine p2 (cG (i:=1)) ?_;refine p2 (aV (i:=2) bS) ?_;refine RV.done (sr rfl ?_);refine p1 (aG aL) ?_;refine p1 (aG aL) ?_;refine xd rfl (qZ _ _ _ _ (by omega) (by omega)) Tryz.func109 (xb rfl rfl) hfr ?_;refine p1 (dE) ?_;refine p1 (dE) ?_;refine xd rfl (sW _ _ _ _ (fun h=>(aCi p q (fun e=>h (by rw[e,Int.zero_ediv]))).1)) Tryz.func101 (xb rfl rfl) hfr ?_;refine p1 (aP (aB).2) ?_;refine RV.done ?_;refine CV.ret ?_;have e:Rat.divInt (p/(Int.gcd p q:Nat)) (q/(Int.gcd p q:Nat))=Rat.divInt p q:=aTw p q;exact aW rfl (.inr rfl) ⟨_,_,_,_,_,rfl,rfl,rfl,aB⟩ (dZ (by rw[e]) (by rw[e]) (by omega))
theorem pM (p q:Int) (h1 : -9223372036854775808<=p) (h2:p<=9223372036854775807) (h3 : -9223372036854775808<=q) (h4:q<=9223372036854775807):aC Tryz.prog 57 [.v (.int .i64 p),.v (.int .i64 q)] (.one (RT (Rat.divInt p q) 6)):=by
 refine aC.of (n:=10) Tryz.func57 rfl rfl rfl rfl rfl fun cx hfr=>?_;refine sr rfl ?_;refine p2 (aV (i:=0) bS) ?_;refine RV.done (sr rfl ?_);refine xm ?_;refine xc (aFj p h1 h2) Tryz.func111 (xa rfl) hfr ?_;refine xm ?_;refine xc (aFj q h3 h4) Tryz.func111 (xa rfl) hfr ?_;refine xd rfl (aSo _ _ _ _ (by omega) (by omega)) Tryz.func110 (xb rfl rfl) hfr ?_;refine p1 (aP (aB).2) ?_;refine RV.done ?_;refine CV.ret ?_;exact aW rfl (.inr rfl) ⟨_,_,_,_,_,rfl,rfl,rfl,aB⟩ cH
theorem aHj (z:Int) {k:Nat}:aC Tryz.prog 144 [.d (Dm.int z k)] (.one (.v (.bool true))) :=
 aKb fun vx w h=>wF vx z w h
theorem aQt (a:Rat) (k:Nat) (hk:k<=10000000):aC Tryz.prog 114 [RT a k] (.one (.v (.bool true))):=by
 refine aC.of (n:=35) Tryz.func114 rfl rfl rfl rfl rfl fun cx hfr=>?_;refine sr rfl ?_;refine p2 (cG (i:=0)) ?_;refine xn ?_;refine RV.done ?_;refine CV.seq ?_;refine sr rfl ?_;refine p1 (bJ dK) ?_;refine p1 (bN 0 dJ aL) ?_;refine xc (aHj _) Tryz.func144 (xa rfl) hfr ?_;refine p1 (fL) ?_;refine xm ?_;refine y1 (bJ mI) ?_;refine y1 (bN 2 pF aL) ?_;refine y1 (aU (aHj _) rfl rfl bd Tryz.func144 rfl rfl (xa rfl) rfl hfr rfl) ?_;refine y1 (fL) ?_;refine p1 (cN) ?_;refine RV.done ?_;refine CV.no rfl ?_;refine CV.skip ?_;refine sr rfl ?_;refine p1 (aG aB) ?_;refine xc (pW _ _ _) Tryz.func103 (xa rfl) hfr ?_;refine xm ?_;refine RV.bool (fun h1=>?_) (fun h1=>?_)
 ·refine xk ?_;refine xk ?_;refine xk ?_;refine xk ?_;refine xk ?_;refine gB (nU rfl rfl rfl rfl bd) ?_;refine gB (nU rfl rfl rfl rfl bd) ?_;refine gB (nU rfl rfl rfl rfl bd) ?_;refine gB (nU rfl rfl rfl rfl bd) ?_;refine xk ?_;refine xk ?_;refine gB (nU rfl rfl rfl rfl bd) ?_;refine gB (nU rfl rfl rfl rfl bd) ?_;refine gB (nU rfl rfl rfl rfl bd) ?_;refine gB (nU rfl rfl rfl rfl bd) ?_;refine gB (nU rfl rfl rfl rfl bd) ?_;refine gB (nU rfl rfl rfl rfl bd) ?_;refine xk ?_;refine p1 (cI) ?_;refine xn ?_;refine RV.done ?_;refine CV.ret ?_;exact aW rfl (.inr rfl) rfl cH
 ·refine y1 (bJ mI) ?_;refine y1 (bJ aAl) ?_;refine y1 (bN 2 aT2 zY) ?_;refine y1 (fL) ?_;refine y1 (bU (.inl rfl)) ?_;refine RV.bool (fun hb=>?_) (fun hb=>False.elim (by have:=(aNi a).1; simp at hb; omega));refine y1 (bJ mI) ?_;refine y1 (bN 2 pF aL) ?_;refine y1 (aU (tQ _ _) rfl rfl bd Tryz.func139 rfl rfl (xa rfl) rfl hfr rfl) ?_;refine y1 (fL) ?_;refine y1 (cI) ?_;refine y1 (bU (.inl rfl)) ?_;refine RV.bool (fun hb=>?_) (fun hb=>False.elim (by have:=(aNi a).2; simp at hb; omega));refine y1 (bJ dK) ?_;refine y1 (bN 0 dJ aL) ?_;refine y1 (bJ mI) ?_;refine y1 (bN 2 pF aL) ?_;refine y1 (aU (aAp _ _ (by omega) (by omega)) rfl rfl bd Tryz.func107 rfl rfl (xb rfl rfl) rfl hfr rfl) ?_;refine y1 (aU (tQ _ _) rfl rfl bd Tryz.func139 rfl rfl (xa rfl) rfl hfr rfl) ?_;refine y1 (cI) ?_;refine p1 (cN) ?_;refine xn ?_;refine RV.done ?_;refine CV.ret ?_;have h5:¬ qd a=0:=by simpa using h1
  refine aW rfl (.inr rfl) rfl (fV ?_);rw[decide_eq_true_eq,show qd a=(a.den:Int) from by rw[<- xS a,if_neg h5],red a];rfl
theorem aJi (z:Int) (k:Nat):aC Tryz.prog 121 [.d (Dm.int z k)] (.one (.v (.bool (decide (z=1))))):=by
 refine aC.of (n:=16) Tryz.func121 rfl rfl rfl rfl rfl fun cx hfr=>?_;refine sr rfl ?_;refine p2 (cG (i:=0)) ?_;refine xn ?_;refine RV.done ?_;refine CV.seq ?_;refine sr rfl ?_;refine p1 (bJ aAl) ?_;refine p1 (bN 0 aEj zY) ?_;refine xm ?_;refine RV.bool (fun h1=>?_) (fun h1=>?_)
 ·refine xk ?_;refine xk ?_;refine xk ?_;refine xk ?_;refine p1 (cI) ?_;refine RV.done ?_;refine CV.yes rfl ?_;refine sr rfl ?_;refine xn ?_;refine RV.done ?_;refine CV.ret ?_;refine aW rfl (.inr rfl) rfl (fV ?_);rw[eq_comm,decide_eq_false_iff_not];simp at h1;omega
 ·refine y1 (bJ pJ) ?_;refine y1 (bN 1 sD pC) ?_;refine y1 (sH) ?_;refine y1 (uQ) ?_;refine p1 (cN) ?_;refine RV.done ?_;refine CV.cond rfl (fun h2=>?_) (fun h2=>?_)
  ·refine sr rfl ?_;refine xn ?_;refine RV.done ?_;refine CV.ret ?_;refine aW rfl (.inr rfl) rfl (fV ?_);rw[eq_comm,decide_eq_false_iff_not];rintro rfl;cases h2
  ·refine CV.skip ?_;refine sr rfl ?_;refine p1 (bJ pJ) ?_;refine p1 (bN 1 sD pC) ?_;refine p1 (aMj (i:=0) (by simp at h2; omega) rfl rfl bd rfl rfl) ?_;refine p1 (aJr rfl rfl bd rfl) ?_;refine p1 (dF) ?_;refine xn ?_;refine RV.done ?_;refine CV.ret ?_;refine aW rfl (.inr rfl) rfl (fV ?_);rw[aLc (by simp at h2; omega),Bool.eq_iff_iff];simp at h1 |-;omega
theorem aTe (p q:Int) (k:Nat):aC Tryz.prog 62 [.d (Dm.rt p q k)] (.one (.d (Dm.int (if q=0 then 1 else q) (k+3)))):=by
 refine aC.of (n:=11) Tryz.func62 rfl rfl rfl rfl rfl fun cx hfr=>?_;refine sr rfl ?_;refine p2 (cG (i:=0)) ?_;refine p2 (aV (i:=1) cZ) ?_;refine RV.done ?_;refine CV.seq ?_;refine sr rfl ?_;refine p1 (bJ mI) ?_;refine p1 (bJ pJ) ?_;refine p1 (bN 3 aJ5 pC) ?_;refine p1 (sH) ?_;refine p1 (dF) ?_;refine RV.done ?_;refine CV.cond rfl (fun hc=>?_) (fun hc=>?_)
 ·refine sr rfl ?_;refine xd rfl (aEd _ (by decide) (by decide)) Tryz.func74 (xa rfl) hfr ?_;refine p1 (aP (aL).2) ?_;refine RV.done ?_;refine CV.ret ?_;rw[nP] at hc;exact aW rfl (.inr rfl) ⟨_,_,_,_,_,rfl,rfl,rfl,aL⟩ (sC (by rw[if_pos (by simpa using hc)]) (by omega))
 ·refine CV.skip ?_;refine sr rfl ?_;refine p1 (bJ mI) ?_;refine p1 (bN 2 pF aL) ?_;refine p1 (aP (aL).2) ?_;refine RV.done ?_;refine CV.ret ?_;rw[nP] at hc;exact aW rfl (.inr rfl) ⟨_,_,_,_,_,rfl,rfl,rfl,aL⟩ (sC (by rw[if_neg (by simpa using hc)]) (by omega))
theorem pY (a:Rat) (k:Nat):aC Tryz.prog 62 [RT a k] (.one (.d (Dm.int a.den (k+3)))):=by
 have h:=aTe a.num (qd a) k;rwa[xS] at h
theorem aGd (q:Int):(Rat.divInt 0 q).num=0/\qd (Rat.divInt 0 q)=0:=by
 rw[Rat.zero_divInt];exact⟨rfl,rfl⟩
theorem wL (p q:Int) (hq:q≠0):(Rat.divInt p q).num=(q/(Int.gcd p q:Nat)).sign*(p/(Int.gcd p q:Nat))/\qd (Rat.divInt p q)=(if (q/(Int.gcd p q:Nat)).natAbs=1 then 0 else ((q/(Int.gcd p q:Nat)).natAbs:Int)):=by
 obtain⟨h1,h2⟩:=aCi p q hq;have h3:q/(Int.gcd p q:Nat)≠0:=by
  intro e;have d2:((Int.gcd p q:Nat):Int) ∣ q:=Int.gcd_dvd_right ..;have:=Int.ediv_mul_cancel d2;rw[e,Int.zero_mul] at this;exact hq this.symm
 rw[<- h2];exact⟨qG h1,xF h1 h3⟩
theorem aCv (p q:Int) (j k:Nat) (hj:j<=10000000) (hk:k<=10000000):aC Tryz.prog 72 [.d (Dm.int p j),.d (Dm.int q k)] (.one (RT (Rat.divInt p q) (j+k))):=by
 refine aC.of (n:=49) Tryz.func72 rfl rfl rfl rfl rfl fun cx hfr=>?_;refine sr rfl ?_;refine p2 (cG (i:=0)) ?_;refine p2 (cG (i:=1)) ?_;refine p2 (aV (i:=2) bS) ?_;refine RV.done ?_;refine CV.seq ?_;refine sr rfl ?_;refine p1 (bJ pJ) ?_;refine p1 (bN 1 sD pC) ?_;refine p1 (sH) ?_;refine p1 (dF) ?_;refine xm ?_;refine RV.bool (fun h1=>?_) (fun h1=>?_)
 ·refine xk ?_;refine xk ?_;refine xk ?_;refine xk ?_;refine p1 (cI) ?_;refine RV.done ?_;refine CV.yes rfl ?_;refine sr rfl ?_;refine p1 (tL) ?_;refine p1 (aP (aB).2) ?_;refine RV.done ?_;refine CV.ret ?_;rw[nP] at h1;obtain rfl:q=0:=by simpa using h1
  exact aW rfl (.inr rfl) ⟨_,_,_,_,_,rfl,rfl,rfl,aB⟩ (dZ (vV p).1.symm (vV p).2.symm (by omega))
 ·refine y1 (bJ pJ) ?_;refine y1 (bN 1 sD pC) ?_;refine y1 (sH) ?_;refine y1 (dF) ?_;refine p1 (cN) ?_;refine RV.done ?_;refine CV.cond rfl (fun h2=>?_) (fun h2=>?_)
  ·refine sr rfl ?_;refine p1 (tL) ?_;refine p1 (aP (aB).2) ?_;refine RV.done ?_;refine CV.ret ?_;rw[nP] at h2;obtain rfl:p=0:=by simpa using h2
   exact aW rfl (.inr rfl) ⟨_,_,_,_,_,rfl,rfl,rfl,aB⟩ (dZ (aGd q).1.symm (aGd q).2.symm (by omega))
  ·refine CV.skip ?_;refine sr rfl ?_;refine p1 (aG aL) ?_;refine p1 (aG aL) ?_;refine xd rfl (aTd _ _ (by omega) (by omega)) Tryz.func119 (xb rfl rfl) hfr ?_;refine p2 (aV (i:=3) cZ) ?_;refine p1 (aP (aL).2) ?_;refine RV.done (sr rfl ?_);refine p1 (aG aL) ?_;refine p1 (aG aL) ?_;refine xd rfl (aJk _ _ (by omega) (by omega)) Tryz.func120 (xb rfl rfl) hfr ?_;refine xm ?_;refine p1 (dE) ?_;refine p1 (dE) ?_;refine p2 (aV (i:=4) cZ) ?_;refine p2 (aV (i:=5) cZ) ?_;refine p1 (aP (aL).2) ?_;refine p1 (aP (aL).2) ?_;refine RV.done (sr rfl ?_);refine p1 (aG aL) ?_;refine p1 (aG aL) ?_;refine xd rfl (aJk _ _ (by omega) (by omega)) Tryz.func120 (xb rfl rfl) hfr ?_;refine xm ?_;refine p1 (dE) ?_;refine p1 (dE) ?_;refine p2 (aV (i:=6) cZ) ?_;refine p2 (aV (i:=7) cZ) ?_;refine p1 (aP (aL).2) ?_;refine p1 (aP (aL).2) ?_;refine RV.done ?_;refine CV.seq ?_;refine sr rfl ?_;refine p1 (bJ aAl) ?_;refine p1 (bN 0 aEj zY) ?_;refine RV.done ?_;refine CV.cond rfl (fun h3=>?_) (fun h3=>?_)
   ·refine sr rfl ?_;refine p1 (aG aL) ?_;refine xc (aDb _) Tryz.func63 (xa rfl) hfr ?_;refine p1 (aP (aL).2) ?_;refine RV.done ?_;refine CV.region rfl (fun h=>nomatch h) ?_;refine p1 (aG aL) ?_;refine xc (aDb _) Tryz.func63 (xa rfl) hfr ?_;refine p1 (aP (aL).2) ?_;refine RV.done ?_;refine CV.seq ?_;refine sr rfl ?_;refine p1 (aG aL) ?_;refine xc (aJi _ _) Tryz.func121 (xa rfl) hfr ?_;refine RV.done ?_;refine CV.cond rfl (fun h4=>?_) (fun h4=>?_)
    ·refine sr rfl ?_;refine p1 (aG aL) ?_;refine p1 (rI) ?_;refine p1 (aP (aB).2) ?_;refine RV.done ?_;refine CV.ret ?_;rw[nP] at h1;have hq:q≠0:=by simpa using h1
     obtain⟨e1,e2⟩:=wL p q hq;have h3:q/(Int.gcd p q:Nat)<0:=by simpa using h3
     have h4 : -(q/(Int.gcd p q:Nat))=1:=by simpa using h4
     exact aW rfl (.inr rfl) ⟨_,_,_,_,_,rfl,rfl,rfl,aB⟩ (dZ (by rw[e1,Int.sign_eq_neg_one_of_neg h3]; omega) (by rw[e2,if_pos (by omega)]) (by omega))
    ·refine CV.skip ?_;refine sr rfl ?_;refine p1 (aG aL) ?_;refine p1 (aG aL) ?_;refine p1 (tJ) ?_;refine p1 (aP (aB).2) ?_;refine RV.done ?_;refine CV.ret ?_;rw[nP] at h1;have hq:q≠0:=by simpa using h1
     obtain⟨e1,e2⟩:=wL p q hq;have h3:q/(Int.gcd p q:Nat)<0:=by simpa using h3
     have h4:¬ -(q/(Int.gcd p q:Nat))=1:=by simpa using h4
     exact aW rfl (.inr rfl) ⟨_,_,_,_,_,rfl,rfl,rfl,aB⟩ (dZ (by rw[e1,Int.sign_eq_neg_one_of_neg h3]; omega) (by rw[e2,if_neg (by omega)]; omega) (by omega))
   ·refine CV.skip ?_;refine CV.seq ?_;refine sr rfl ?_;refine p1 (aG aL) ?_;refine xc (aJi _ _) Tryz.func121 (xa rfl) hfr ?_;refine RV.done ?_;refine CV.cond rfl (fun h4=>?_) (fun h4=>?_)
    ·refine sr rfl ?_;refine p1 (aG aL) ?_;refine p1 (rI) ?_;refine p1 (aP (aB).2) ?_;refine RV.done ?_;refine CV.ret ?_;rw[nP] at h1;have hq:q≠0:=by simpa using h1
     obtain⟨e1,e2⟩:=wL p q hq;have h3:¬ q/(Int.gcd p q:Nat)<0:=by simpa using h3
     have h4:q/(Int.gcd p q:Nat)=1:=by simpa using h4
     exact aW rfl (.inr rfl) ⟨_,_,_,_,_,rfl,rfl,rfl,aB⟩ (dZ (by rw[e1,h4]; simp) (by rw[e2,h4]; rfl) (by omega))
    ·refine CV.skip ?_;refine sr rfl ?_;refine p1 (aG aL) ?_;refine p1 (aG aL) ?_;refine p1 (tJ) ?_;refine p1 (aP (aB).2) ?_;refine RV.done ?_;refine CV.ret ?_;rw[nP] at h1;have hq:q≠0:=by simpa using h1
     obtain⟨e1,e2⟩:=wL p q hq;have h3:¬ q/(Int.gcd p q:Nat)<0:=by simpa using h3
     have h4:¬ q/(Int.gcd p q:Nat)=1:=by simpa using h4
     have h5:q/(Int.gcd p q:Nat)≠0:=fun e=>hq (by have d2:((Int.gcd p q:Nat):Int) ∣ q:=Int.gcd_dvd_right .. ; have:=Int.ediv_mul_cancel d2; rw[e,Int.zero_mul] at this; exact this.symm);exact aW rfl (.inr rfl) ⟨_,_,_,_,_,rfl,rfl,rfl,aB⟩ (dZ (by rw[e1,Int.sign_eq_one_of_pos (by omega)]; omega) (by rw[e2,if_neg (by omega)]; omega) (by omega))
theorem rO (p q:Int) (h1 : -9223372036854775808<=p) (h2:p<=9223372036854775807) (h3 : -9223372036854775808<=q) (h4:q<=9223372036854775807):aC Tryz.prog 32 [.v (.int .i64 p),.v (.int .i64 q)] (.one (RT (Rat.divInt p q) 6)):=by
 refine aC.of (n:=10) Tryz.func32 rfl rfl rfl rfl rfl fun cx hfr=>?_;refine sr rfl ?_;refine p2 (aV (i:=0) bS) ?_;refine RV.done (sr rfl ?_);refine xm ?_;refine xc (aEd p h1 h2) Tryz.func74 (xa rfl) hfr ?_;refine xm ?_;refine xc (aEd q h3 h4) Tryz.func74 (xa rfl) hfr ?_;refine xd rfl (aCv _ _ _ _ (by omega) (by omega)) Tryz.func72 (xb rfl rfl) hfr ?_;refine p1 (aP (aB).2) ?_;refine RV.done ?_;refine CV.ret ?_;exact aW rfl (.inr rfl) ⟨_,_,_,_,_,rfl,rfl,rfl,aB⟩ cH
theorem aGv (a b:Rat) (j k:Nat):aC Tryz.prog 18 [RT a j,RT b k] (.one (.v (.bool (decide (a=b))))):=by
 refine aC.of (n:=17) Tryz.func18 rfl rfl rfl rfl rfl fun cx hfr=>?_;refine sr rfl ?_;refine p2 (cG (i:=0)) ?_;refine p2 (cG (i:=1)) ?_;refine xn ?_;refine RV.done (sr rfl ?_);refine p1 (bJ dK) ?_;refine p1 (bN 0 dJ aL) ?_;refine p1 (bJ dK) ?_;refine p1 (bN 0 dJ aL) ?_;refine xc (aHx _ _) Tryz.func50 (xb rfl rfl) hfr ?_;refine xm ?_;refine RV.bool (fun h1=>?_) (fun h1=>?_)
 ·refine y1 (bJ mI) ?_;refine y1 (bN 2 pF aL) ?_;refine y1 (bJ mI) ?_;refine y1 (bN 2 pF aL) ?_;refine y1 (aU (aHx _ _) rfl rfl bd Tryz.func50 rfl rfl (xb rfl rfl) rfl hfr rfl) ?_;refine p1 (cI) ?_;refine xn ?_;refine RV.done ?_;refine CV.ret ?_;have e1:a.num=b.num:=by simpa using h1
  refine aW rfl (.inr rfl) rfl (fV ?_);rw[Bool.eq_iff_iff,decide_eq_true_eq,decide_eq_true_eq];exact⟨fun e2=>Rat.ext e1 (aXs e2),fun e=>by rw[e]⟩
 ·refine xk ?_;refine xk ?_;refine xk ?_;refine xk ?_;refine xk ?_;refine p1 (cN) ?_;refine xn ?_;refine RV.done ?_;refine CV.ret ?_;have e2:¬ a.num=b.num:=by simpa using h1
  exact aW rfl (.inr rfl) rfl (fV (by rw[eq_comm,decide_eq_false_iff_not]; rintro rfl; exact e2 rfl))
theorem aN2 (zs:List Int) (i:Nat) (m:Int) (hm:1<=m) (hm2:m<=9223372036854775807):aC Tryz.prog 41 [.d (Dm.ints zs),.v (.int .i64 (i:Int)),.v (.int .i64 m)] (.one (.v (.int .i64 (iF zs i m)))):=by
 have h:=aXp zs (i:Int) m (by omega) hm hm2;rwa[Int.toNat_natCast] at h
end Vc
end Go.Proofs.YtjmbkipbmbnhjaaGreat

namespace Go.Proofs.YtjmbkipbmbnhjaaGreat
open Dg Zn
namespace Vc
theorem aB3 (z:Int):(Rat.divInt z 1).num=z/\((Rat.divInt z 1).den:Int)=1:=by
 have hg:Int.gcd z 1=1:=Int.gcd_one_right z;refine⟨by rw[qG hg]; simp,?_⟩;rw[aAg hg (by decide)];rfl
end Vc
end Go.Proofs.YtjmbkipbmbnhjaaGreat

namespace Go.Proofs.YtjmbkipbmbnhjaaGreat
open Go.RowKit
open Go.Lib (hid)
open Dg Zn
namespace Vc
set_option maxRecDepth 100000
section
variable {P:Program} {cx:Cx Dm} {n:Nat} {σ:St Dm} {o:Oper} {d:Nat} {x y:Operand} {T T':TypeId} {k:IntKind} {a b:Int}
theorem jN (h:a=b) (ho:o.op=.binOp .eql T x y T') (hd:o.dst=some d) (hn:d<n) (hx:opd σ x=.av (.one (.v (.int k a)))) (hy:opd σ y=.av (.one (.v (.int k b)))):aS P cx n σ o (bF x++bF y) [(.s d,.av (.one (.v (.bool true))))]:=by
 have:=dF (P:=P) (cx:=cx) ho hd hn hx hy;rwa[h,beq_self_eq_true] at this
theorem oD {p q:Bool} (h:p=q:=by exact rfl) (ho:o.op=.binOp .eql 4 x y T':=by exact rfl) (hd:o.dst=some d:=by exact rfl) (hn:d<n:=by exact bd) (hx:opd σ x=.av (.one (.v (.bool p))):=by exact rfl) (hy:opd σ y=.av (.one (.v (.bool q))):=by exact rfl):aS Tryz.prog cx n σ o (bF x++bF y) [(.s d,.av (.one (.v (.bool true))))]:=by
 subst h;exact lL ho hd hn hx hy (by cases p<;>exact fun w=>by kernel_rfl)
end
theorem aHe (a b:Rat):Rat.divInt (a.num*b.den+b.num*a.den) (a.den*b.den)=a+b:=by
 rw[<- Rat.divInt_add_divInt a.num b.num (qQ a) (qQ b),Rat.num_divInt_den,Rat.num_divInt_den]
theorem aHd (a b:Rat):Rat.divInt (a.num*b.num) (a.den*b.den)=a*b:=by
 rw[<- Rat.divInt_mul_divInt,Rat.num_divInt_den,Rat.num_divInt_den]
theorem aHt (a b:Rat) (j k:Nat) (hj:j<=1000000) (hk:k<=1000000):aC Tryz.prog 31 [RT a j,RT b k] (.one (RT (a+b) (3*(j+k)+20))):=by
 refine aC.of (n:=26) Tryz.func31 rfl rfl rfl rfl rfl fun cx hfr=>?_;refine sr rfl ?_;refine p2 (cG (i:=0)) ?_;refine p2 (cG (i:=1)) ?_;refine p2 (aV (i:=2) bS) ?_;refine RV.done ?_;refine CV.seq ?_;refine CV.region rfl (fun _=>by kernel_rfl) ?_;refine p1 (bJ dK) ?_;refine p1 (bN 0 dJ aL) ?_;refine p1 (aG aB) ?_;refine xc (pY _ _) Tryz.func62 (xa rfl) hfr ?_;refine xd rfl (rP _ _ (by omega) (by omega)) Tryz.func61 (xb rfl rfl) hfr ?_;refine p2 (aV (i:=3) cZ) ?_;refine p1 (aP (aL).2) ?_;refine bP (by kernel_rfl) ?_;refine CV.seq ?_;refine CV.region rfl (fun _=>by kernel_rfl) ?_;refine p1 (bJ dK) ?_;refine p1 (bN 0 dJ aL) ?_;refine p1 (aG aB) ?_;refine xc (pY _ _) Tryz.func62 (xa rfl) hfr ?_;refine xd rfl (rP _ _ (by omega) (by omega)) Tryz.func61 (xb rfl rfl) hfr ?_;refine p2 (aV (i:=4) cZ) ?_;refine p1 (aP (aL).2) ?_;refine bP (by kernel_rfl) ?_;refine CV.seq ?_;refine CV.region rfl (fun _=>by kernel_rfl) ?_;refine p1 (aG aL) ?_;refine p1 (aG aL) ?_;refine xd rfl (aTf _ _ (by omega) (by omega)) Tryz.func73 (xb rfl rfl) hfr ?_;refine p1 (aG aB) ?_;refine xc (pY _ _) Tryz.func62 (xa rfl) hfr ?_;refine p1 (aG aB) ?_;refine xc (pY _ _) Tryz.func62 (xa rfl) hfr ?_;refine xd rfl (rP _ _ (by omega) (by omega)) Tryz.func61 (xb rfl rfl) hfr ?_;refine xd rfl (aCv _ _ _ _ (by omega) (by omega)) Tryz.func72 (xb rfl rfl) hfr ?_;refine p1 (aP (aB).2) ?_;refine bP (by kernel_rfl) ?_;refine CV.ret ?_;exact aW rfl (.inr rfl) ⟨_,_,_,_,_,rfl,rfl,rfl,aB⟩ (dZ (by rw[aHe]) (by rw[aHe]) (by omega))
theorem aRc (a:Rat) (k:Nat):aC Tryz.prog 24 [RT a k] (.one (RT (-a) k)):=by
 refine aC.of (n:=9) Tryz.func24 rfl rfl rfl rfl rfl fun cx hfr=>?_;refine sr rfl ?_;refine p2 (cG (i:=0)) ?_;refine p2 (aV (i:=1) bS) ?_;refine RV.done ?_;refine CV.seq ?_;refine CV.region rfl (fun _=>by kernel_rfl) ?_;refine p1 (bJ dK) ?_;refine p1 (bN 0 dJ aL) ?_;refine xc (aDb _) Tryz.func63 (xa rfl) hfr ?_;refine p1 (bJ mI) ?_;refine p1 (bN 2 pF aL) ?_;refine p1 (tJ) ?_;refine p1 (aP (aB).2) ?_;refine bP (by kernel_rfl) ?_;refine CV.ret ?_;exact aW rfl (.inr rfl) ⟨_,_,_,_,_,rfl,rfl,rfl,aB⟩ (dZ (by rw[Rat.neg_num]) (by unfold qd; rw[Rat.neg_den]) (by omega))
theorem aCu (a b:Rat) (j k:Nat) (hj:j<=1000000) (hk:k<=1000000):aC Tryz.prog 89 [RT a j,RT b k] (.one (RT (a*b) (3*(j+k)+20))):=by
 refine aC.of (n:=16) Tryz.func89 rfl rfl rfl rfl rfl fun cx hfr=>?_;refine sr rfl ?_;refine p2 (cG (i:=0)) ?_;refine p2 (cG (i:=1)) ?_;refine p2 (aV (i:=2) bS) ?_;refine RV.done ?_;refine CV.seq ?_;refine CV.region rfl (fun _=>by kernel_rfl) ?_;refine p1 (bJ dK) ?_;refine p1 (bN 0 dJ aL) ?_;refine p1 (bJ dK) ?_;refine p1 (bN 0 dJ aL) ?_;refine xd rfl (rP _ _ (by omega) (by omega)) Tryz.func61 (xb rfl rfl) hfr ?_;refine p1 (aG aB) ?_;refine xc (pY _ _) Tryz.func62 (xa rfl) hfr ?_;refine p1 (aG aB) ?_;refine xc (pY _ _) Tryz.func62 (xa rfl) hfr ?_;refine xd rfl (rP _ _ (by omega) (by omega)) Tryz.func61 (xb rfl rfl) hfr ?_;refine xd rfl (aCv _ _ _ _ (by omega) (by omega)) Tryz.func72 (xb rfl rfl) hfr ?_;refine p1 (aP (aB).2) ?_;refine bP (by kernel_rfl) ?_;refine CV.ret ?_;exact aW rfl (.inr rfl) ⟨_,_,_,_,_,rfl,rfl,rfl,aB⟩ (dZ (by rw[aHd]) (by rw[aHd]) (by omega))
theorem nN (a b:Rat) (j k:Nat) (hj:j<=10000000) (hk:k<=10000000):aC Tryz.prog 23 [RT a j,RT b k] (.one (.v (.int .i64 (cX a b)))):=by
 refine aC.of (n:=16) Tryz.func23 rfl rfl rfl rfl rfl fun cx hfr=>?_;refine sr rfl ?_;refine p2 (cG (i:=0)) ?_;refine p2 (cG (i:=1)) ?_;refine xn ?_;refine RV.done ?_;refine CV.seq ?_;refine CV.region rfl (fun _=>by kernel_rfl) ?_;refine p1 (bJ dK) ?_;refine p1 (bN 0 dJ aL) ?_;refine p1 (aG aB) ?_;refine xc (pY _ _) Tryz.func62 (xa rfl) hfr ?_;refine xd rfl (rP _ _ (by omega) (by omega)) Tryz.func61 (xb rfl rfl) hfr ?_;refine p1 (bJ dK) ?_;refine p1 (bN 0 dJ aL) ?_;refine p1 (aG aB) ?_;refine xc (pY _ _) Tryz.func62 (xa rfl) hfr ?_;refine xd rfl (rP _ _ (by omega) (by omega)) Tryz.func61 (xb rfl rfl) hfr ?_;refine xc (aGf _ _) Tryz.func60 (xb rfl rfl) hfr ?_;refine xn ?_;refine bP (by kernel_rfl) ?_;refine CV.ret ?_;exact aW rfl (.inr rfl) rfl (uR rfl)
theorem aRf (x:Int) (k:Nat):aC Tryz.prog 85 [.d (Dm.int x k)] (.one (.v (.int .i64 (bB x 0)))):=by
 refine aC.of (n:=6) Tryz.func85 rfl rfl rfl rfl rfl fun cx hfr=>?_;refine sr rfl ?_;refine p2 (cG (i:=0)) ?_;refine xn ?_;refine RV.done (sr rfl ?_);refine p1 (aG aL) ?_;refine p1 (aCy rfl rfl bd) ?_;refine xc (aGf _ _) Tryz.func60 (xb rfl rfl) hfr ?_;refine xn ?_;refine RV.done ?_;refine CV.ret ?_;exact aW rfl (.inr rfl) rfl (uR rfl)
theorem sV (a:Rat) (k:Nat):aC Tryz.prog 37 [RT a k] (.one (.v (.int .i64 (bB a.num 0)))):=by
 refine aC.of (n:=6) Tryz.func37 rfl rfl rfl rfl rfl fun cx hfr=>?_;refine sr rfl ?_;refine p2 (cG (i:=0)) ?_;refine xn ?_;refine RV.done (sr rfl ?_);refine p1 (bJ dK) ?_;refine p1 (bN 0 dJ aL) ?_;refine xc (aRf _ _) Tryz.func85 (xa rfl) hfr ?_;refine xn ?_;refine RV.done ?_;refine CV.ret ?_;exact aW rfl (.inr rfl) rfl (uR rfl)
section
variable {cx:Cx Dm} {n:Nat} {σ:St Dm} {o:Oper} {d t:Nat} {x y:Operand} {T T':TypeId}
end
set_option linter.unusedSectionVars false
inductive aA6 (B:Nat):Int->Int->Int->Int->Int->Int->Prop where
 | whole {a b c d:Int}:a%b=0->b≠0->len (a/b)<=B->aA6 B a b c d (a/b) 1
 | next {a b c d:Int}:a%b≠0->b≠0->d≠0->a/b<c/d->len (a/b+1)<=B->aA6 B a b c d (a/b+1) 1
 | step {a b c d q p:Int}:a%b≠0->b≠0->d≠0->¬ a/b<c/d->aA6 B d (c%d) b (a%b) q p->len (a/b*q+p)<=B->len q<=B->aA6 B a b c d (a/b*q+p) q
section
variable (a b c d:Int) (j1 j2 j3 j4 B:Nat) (hj1:j1<=1000000) (hj2:j2<=1000000) (hj3:j3<=1000000) (hj4:j4<=1000000) (hB1:1<=B) (hB:B<=1000000)
include hj1 hj2 hj3 hj4 hB1 hB
end
end Vc
end Go.Proofs.YtjmbkipbmbnhjaaGreat

namespace Go.Proofs.YtjmbkipbmbnhjaaGreat
open Go.RowKit
open Go.Lib (hid)
open Dg Zn
namespace Vc
end Vc
end Go.Proofs.YtjmbkipbmbnhjaaGreat
