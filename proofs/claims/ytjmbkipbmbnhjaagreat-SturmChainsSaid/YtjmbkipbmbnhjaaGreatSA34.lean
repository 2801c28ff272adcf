/-
  
-/
import Derived.Test.YtjmbkipbmbnhjaaGreatSA9
import Derived.Test.YtjmbkipbmbnhjaaGreatSA33
import Derived.IntWalk
import Derived.Test.YtjmbkipbmbnhjaaGreatSA32
import Derived.Test.YtjmbkipbmbnhjaaGreatSA21
import Derived.Test.YtjmbkipbmbnhjaaGreatSA22
set_option linter.unusedVariables false
set_option linter.unusedSimpArgs false
set_option linter.unusedSectionVars false
namespace Go.Proofs.YtjmbkipbmbnhjaaGreat
open Go.RowKit
open Go.Lib (hid)
open Dg Zn
namespace Vc
set_option maxRecDepth 100000
theorem bF {z:Int} (h1 : -9223372036854775808<=z) (h2:z<=9223372036854775807):IntKind.i64.wrap z=z:=IntWalk.i64_in _ (by omega)
theorem aQ8 (x:Int) (j k:Nat):aD Tryz.prog 120 [.d (Dm.int x j),.d (Dm.int 0 k)] (.tup [.d (Dm.int 0 j),.d (Dm.int 0 k)]):=by
 refine aD.of (n:=58) Tryz.func120 rfl rfl rfl rfl rfl fun cx hfr=>?_;refine sr rfl ?_;refine p2 (bZ (i:=0)) ?_;refine p2 (bZ (i:=1)) ?_;refine p2 (aU (i:=2) cZ) ?_;refine p2 (aU (i:=3) cZ) ?_;refine RV.done ?_;refine CV.seq ?_;refine sr rfl ?_;refine p1 (bI oX) ?_;refine p1 (bJ 1 rQ oR) ?_;refine p1 (rS) ?_;refine p1 (cQ) ?_;refine RV.done ?_;refine CV.cond rfl (fun hc=>?_) (fun hc=>False.elim (by rw[nJ] at hc; simp at hc));refine sr rfl ?_;refine p1 (aCl rfl rfl bd) ?_;refine p1 (aCl rfl rfl bd) ?_;refine p1 (aP (aK).2) ?_;refine p1 (aP (aK).2) ?_;refine RV.done ?_;refine CV.ret ?_;exact lK rfl (.inr rfl) ⟨_,_,_,_,_,rfl,rfl,rfl,aK⟩ ⟨_,_,_,_,_,rfl,rfl,rfl,aK⟩ (aLc rfl (Nat.zero_le _) rfl (Nat.zero_le _))
theorem aI6 (x y:Int) {j k:Nat} (hj:j<=1000000000) (hk:k<=1000000000):aD Tryz.prog 120 [.d (Dm.int x j),.d (Dm.int y k)] (.tup [.d (Dm.int (x/y) j),.d (Dm.int (if y=0 then 0 else x%y) k)]):=by
 by_cases hy:y=0
 ·subst hy;rw[if_pos rfl,Int.ediv_zero];exact aQ8 x j k
 ·refine aJ3 (fun vx vy w h1 h2 l1 l2=>?_) fun l1 l2=>⟨Nat.le_trans (nR (aF0 x y)) l1,?_⟩
  ·rw[if_neg hy];exact aGp vx vy x y w h1 h2 hy (by omega) (by omega)
  ·rw[if_neg hy];refine Nat.le_trans (nR ?_) l2;have h1:=Int.emod_nonneg x hy;have h2:=Int.emod_lt x hy;omega
theorem aTz (p q:Int):Rat.divInt (p/(Int.gcd p q:Nat)) (q/(Int.gcd p q:Nat))=Rat.divInt p q:=by
 by_cases h:q=0
 ·rw[h,Int.zero_ediv,Rat.divInt_zero,Rat.divInt_zero]
 ·exact(aB4 p q h).2
theorem aM8 (a:Rat):0<=qd a/\qd a≠1:=by
 unfold qd;split
 ·exact⟨Int.le_refl _,by decide⟩
 ·exact⟨by omega,by omega⟩
theorem nS (a b:Rat) (j k:Nat) (hj:j<=10000000) (hk:k<=10000000):aD Tryz.prog 87 [RT a j,RT b k] (.one (RT (a*b) (3*(j+k)+20))):=by
 refine aD.of (n:=44) Tryz.func87 rfl rfl rfl rfl rfl fun cx hfr=>?_;refine sr rfl ?_;refine p2 (bZ (i:=0)) ?_;refine p2 (bZ (i:=1)) ?_;refine p2 (aU (i:=2) bY) ?_;refine RV.done ?_;refine CV.seq ?_;refine sr rfl ?_;refine p1 (aJ aC) ?_;refine xc (pM _ _ _) Tryz.func103 (xa rfl) hfr ?_;refine xm ?_;refine RV.bool (fun h1=>?_) (fun h1=>?_)
 ·refine y1 (aJ aC) ?_;refine y1 (cB (pM _ _ _) rfl rfl bd Tryz.func103 rfl rfl (xa rfl) rfl hfr rfl) ?_;refine p1 (dA) ?_;refine RV.done ?_;refine CV.cond rfl (fun h2=>?_) (fun h2=>?_)
  ·refine sr rfl ?_;refine p1 (bI dF) ?_;refine p1 (bJ 0 dE aK) ?_;refine p1 (bI dF) ?_;refine p1 (bJ 0 dE aK) ?_;refine xd rfl (iR _ _ (by omega) (by omega)) Tryz.func105 (xb rfl rfl) hfr ?_;refine p1 (rA) ?_;refine p1 (aP (aC).2) ?_;refine RV.done ?_;refine CV.ret ?_;have ha:=pU.1 (by simpa using h1);have hb:=pU.1 (by simpa using h2);obtain⟨-,-,e1,e2⟩:=aGe ha hb;exact aQ rfl (.inr rfl) ⟨_,_,_,_,_,rfl,rfl,rfl,aC⟩ (dT e1.symm (pU.2 e2).symm (by omega))
  ·refine CV.skip ?_;refine CV.seq ?_;refine CV.region rfl (fun _=>by kernel_rfl) ?_;refine p1 (bI dF) ?_;refine p1 (bJ 0 dE aK) ?_;refine p1 (aJ aC) ?_;refine xc (iB _ _) Tryz.func102 (xa rfl) hfr ?_;refine xd rfl (qT _ _ _ _ (by omega) (by omega)) Tryz.func109 (xb rfl rfl) hfr ?_;refine xm ?_;refine p1 (cL) ?_;refine p1 (cL) ?_;refine p2 (aU (i:=3) cZ) ?_;refine p2 (aU (i:=4) cZ) ?_;refine p1 (aP (aK).2) ?_;refine p1 (aP (aK).2) ?_;refine bQ (by kernel_rfl) ?_;refine CV.seq ?_;refine CV.region rfl (fun _=>by kernel_rfl) ?_;refine p1 (bI dF) ?_;refine p1 (bJ 0 dE aK) ?_;refine p1 (aJ aC) ?_;refine xc (iB _ _) Tryz.func102 (xa rfl) hfr ?_;refine xd rfl (qT _ _ _ _ (by omega) (by omega)) Tryz.func109 (xb rfl rfl) hfr ?_;refine xm ?_;refine p1 (cL) ?_;refine p1 (cL) ?_;refine p2 (aU (i:=5) cZ) ?_;refine p2 (aU (i:=6) cZ) ?_;refine p1 (aP (aK).2) ?_;refine p1 (aP (aK).2) ?_;refine bQ (by kernel_rfl) ?_;refine CV.seq ?_;refine CV.region rfl (fun _=>by kernel_rfl) ?_;refine p1 (aJ aK) ?_;refine p1 (aJ aK) ?_;refine xd rfl (iR _ _ (by omega) (by omega)) Tryz.func105 (xb rfl rfl) hfr ?_;refine p1 (aJ aK) ?_;refine p1 (aJ aK) ?_;refine xd rfl (iR _ _ (by omega) (by omega)) Tryz.func105 (xb rfl rfl) hfr ?_;refine xc (sL _ _ _ _ (fun _=>(sZ a b _ _ _ _ _ _ rfl rfl rfl rfl rfl rfl).1)) Tryz.func101 (xb rfl rfl) hfr ?_;refine p1 (aP (aC).2) ?_;refine bQ (by kernel_rfl) ?_;refine CV.ret ?_;exact aQ rfl (.inr rfl) ⟨_,_,_,_,_,rfl,rfl,rfl,aC⟩ (dT (by rw[(sZ a b _ _ _ _ _ _ rfl rfl rfl rfl rfl rfl).2]) (by rw[(sZ a b _ _ _ _ _ _ rfl rfl rfl rfl rfl rfl).2]) (by omega))
 ·refine xk ?_;refine xk ?_;refine p1 (dQ) ?_;refine RV.done ?_;refine CV.no rfl ?_;refine CV.skip ?_;refine CV.seq ?_;refine CV.region rfl (fun _=>by kernel_rfl) ?_;refine p1 (bI dF) ?_;refine p1 (bJ 0 dE aK) ?_;refine p1 (aJ aC) ?_;refine xc (iB _ _) Tryz.func102 (xa rfl) hfr ?_;refine xd rfl (qT _ _ _ _ (by omega) (by omega)) Tryz.func109 (xb rfl rfl) hfr ?_;refine xm ?_;refine p1 (cL) ?_;refine p1 (cL) ?_;refine p2 (aU (i:=3) cZ) ?_;refine p2 (aU (i:=4) cZ) ?_;refine p1 (aP (aK).2) ?_;refine p1 (aP (aK).2) ?_;refine bQ (by kernel_rfl) ?_;refine CV.seq ?_;refine CV.region rfl (fun _=>by kernel_rfl) ?_;refine p1 (bI dF) ?_;refine p1 (bJ 0 dE aK) ?_;refine p1 (aJ aC) ?_;refine xc (iB _ _) Tryz.func102 (xa rfl) hfr ?_;refine xd rfl (qT _ _ _ _ (by omega) (by omega)) Tryz.func109 (xb rfl rfl) hfr ?_;refine xm ?_;refine p1 (cL) ?_;refine p1 (cL) ?_;refine p2 (aU (i:=5) cZ) ?_;refine p2 (aU (i:=6) cZ) ?_;refine p1 (aP (aK).2) ?_;refine p1 (aP (aK).2) ?_;refine bQ (by kernel_rfl) ?_;refine CV.seq ?_;refine CV.region rfl (fun _=>by kernel_rfl) ?_;refine p1 (aJ aK) ?_;refine p1 (aJ aK) ?_;refine xd rfl (iR _ _ (by omega) (by omega)) Tryz.func105 (xb rfl rfl) hfr ?_;refine p1 (aJ aK) ?_;refine p1 (aJ aK) ?_;refine xd rfl (iR _ _ (by omega) (by omega)) Tryz.func105 (xb rfl rfl) hfr ?_;refine xc (sL _ _ _ _ (fun _=>(sZ a b _ _ _ _ _ _ rfl rfl rfl rfl rfl rfl).1)) Tryz.func101 (xb rfl rfl) hfr ?_;refine p1 (aP (aC).2) ?_;refine bQ (by kernel_rfl) ?_;refine CV.ret ?_;exact aQ rfl (.inr rfl) ⟨_,_,_,_,_,rfl,rfl,rfl,aC⟩ (dT (by rw[(sZ a b _ _ _ _ _ _ rfl rfl rfl rfl rfl rfl).2]) (by rw[(sZ a b _ _ _ _ _ _ rfl rfl rfl rfl rfl rfl).2]) (by omega))
theorem vX (a:Rat) (k:Nat):aD Tryz.prog 100 [RT a k] (.one (RT (-a) k)):=by
 refine aD.of (n:=9) Tryz.func100 rfl rfl rfl rfl rfl fun cx hfr=>?_;refine sr rfl ?_;refine p2 (bZ (i:=0)) ?_;refine p2 (aU (i:=1) bY) ?_;refine RV.done ?_;refine CV.seq ?_;refine CV.region rfl (fun _=>by kernel_rfl) ?_;refine p1 (bI dF) ?_;refine p1 (bJ 0 dE aK) ?_;refine xc (aEh _) Tryz.func138 (xa rfl) hfr ?_;refine p1 (bI mD) ?_;refine p1 (bJ 2 oV aK) ?_;refine p1 (sY) ?_;refine p1 (aP (aC).2) ?_;refine bQ (by kernel_rfl) ?_;refine CV.ret ?_;exact aQ rfl (.inr rfl) ⟨_,_,_,_,_,rfl,rfl,rfl,aC⟩ (dT (by rw[Rat.neg_num]) (by unfold qd; rw[Rat.neg_den]) (by omega))
theorem aUv (a b:Rat) (j k:Nat) (hj:j<=10000000) (hk:k<=10000000):aD Tryz.prog 152 [RT a j,RT b k] (.one (RT (a-b) (3*(j+k)+20))):=by
 refine aD.of (n:=9) Tryz.func152 rfl rfl rfl rfl rfl fun cx hfr=>?_;refine sr rfl ?_;refine p2 (bZ (i:=0)) ?_;refine p2 (bZ (i:=1)) ?_;refine p2 (aU (i:=2) bY) ?_;refine RV.done ?_;refine CV.seq ?_;refine CV.region rfl (fun _=>by kernel_rfl) ?_;refine p1 (aJ aC) ?_;refine p1 (aJ aC) ?_;refine xc (vX _ _) Tryz.func100 (xa rfl) hfr ?_;refine xc (vY _ _ _ _ hj hk) Tryz.func56 (xb rfl rfl) hfr ?_;refine p1 (aP (aC).2) ?_;refine bQ (by kernel_rfl) ?_;refine CV.ret ?_;exact aQ rfl (.inr rfl) ⟨_,_,_,_,_,rfl,rfl,rfl,aC⟩ (dT (by rw[Rat.sub_eq_add_neg]) (by rw[Rat.sub_eq_add_neg]) (Nat.le_refl _))
theorem aEv (b:Rat):Rat.divInt b.den b.num=b⁻¹:=by rw[<- Rat.inv_divInt,Rat.num_divInt_den]
theorem oQ (a b:Rat) (j k:Nat) (hj:j<=1000000) (hk:k<=1000000):aD Tryz.prog 53 [RT a j,RT b k] (.one (RT (a/b) (3*(j+k)+40))):=by
 refine aD.of (n:=12) Tryz.func53 rfl rfl rfl rfl rfl fun cx hfr=>?_;refine sr rfl ?_;refine p2 (bZ (i:=0)) ?_;refine p2 (bZ (i:=1)) ?_;refine p2 (aU (i:=2) bY) ?_;refine RV.done ?_;refine CV.seq ?_;refine CV.region rfl (fun _=>by kernel_rfl) ?_;refine p1 (aJ aC) ?_;refine p1 (aJ aC) ?_;refine xc (iB _ _) Tryz.func102 (xa rfl) hfr ?_;refine p1 (bI dF) ?_;refine p1 (bJ 0 dE aK) ?_;refine xc (sL _ _ _ _ (fun _=>aYd b)) Tryz.func101 (xb rfl rfl) hfr ?_;refine xd rfl (nS _ _ _ _ (by omega) (by omega)) Tryz.func87 (xb rfl rfl) hfr ?_;refine p1 (aP (aC).2) ?_;refine bQ (by kernel_rfl) ?_;refine CV.ret ?_;exact aQ rfl (.inr rfl) ⟨_,_,_,_,_,rfl,rfl,rfl,aC⟩ (dT (by rw[aEv,Rat.div_def]) (by rw[aEv,Rat.div_def]) (by omega))
theorem yN (a:Rat) (k:Nat):aD Tryz.prog 98 [RT a k] (.one (.v (.int .i64 (bB a.num 0)))):=by
 refine aD.of (n:=6) Tryz.func98 rfl rfl rfl rfl rfl fun cx hfr=>?_;refine sr rfl ?_;refine p2 (bZ (i:=0)) ?_;refine xn ?_;refine RV.done (sr rfl ?_);refine p1 (bI dF) ?_;refine p1 (bJ 0 dE aK) ?_;refine xc (aKg _) Tryz.func137 (xa rfl) hfr ?_;refine xn ?_;refine RV.done ?_;refine CV.ret ?_;exact aQ rfl (.inr rfl) rfl cE
def iW (a b:Rat):Int:=bB (a.num*b.den) (b.num*a.den)
theorem aBm (a b:Rat) (j k:Nat) (hj:j<=10000000) (hk:k<=10000000):aD Tryz.prog 55 [RT a j,RT b k] (.one (.v (.int .i64 (iW a b)))):=by
 refine aD.of (n:=27) Tryz.func55 rfl rfl rfl rfl rfl fun cx hfr=>?_;refine sr rfl ?_;refine p2 (bZ (i:=0)) ?_;refine p2 (bZ (i:=1)) ?_;refine xn ?_;refine RV.done ?_;refine CV.seq ?_;refine sr rfl ?_;refine p1 (aJ aC) ?_;refine xc (pM _ _ _) Tryz.func103 (xa rfl) hfr ?_;refine xm ?_;refine RV.bool (fun h1=>?_) (fun h1=>?_)
 ·refine y1 (aJ aC) ?_;refine y1 (cB (pM _ _ _) rfl rfl bd Tryz.func103 rfl rfl (xa rfl) rfl hfr rfl) ?_;refine p1 (dA) ?_;refine RV.done ?_;refine CV.cond rfl (fun h2=>?_) (fun h2=>?_)
  ·refine sr rfl ?_;refine p1 (bI dF) ?_;refine p1 (bJ 0 dE aK) ?_;refine p1 (bI dF) ?_;refine p1 (bJ 0 dE aK) ?_;refine xc (aBv _ _) Tryz.func104 (xb rfl rfl) hfr ?_;refine xn ?_;refine RV.done ?_;refine CV.ret ?_;have ha:=pU.1 (by simpa using h1);have hb:=pU.1 (by simpa using h2);exact aQ rfl (.inr rfl) rfl (uB (by unfold iW; rw[ha,hb]; simp))
  ·refine CV.skip ?_;refine CV.seq ?_;refine CV.region rfl (fun _=>by kernel_rfl) ?_;refine p1 (bI dF) ?_;refine p1 (bJ 0 dE aK) ?_;refine p1 (aJ aC) ?_;refine xc (iB _ _) Tryz.func102 (xa rfl) hfr ?_;refine xd rfl (iR _ _ (by omega) (by omega)) Tryz.func105 (xb rfl rfl) hfr ?_;refine p1 (bI dF) ?_;refine p1 (bJ 0 dE aK) ?_;refine p1 (aJ aC) ?_;refine xc (iB _ _) Tryz.func102 (xa rfl) hfr ?_;refine xd rfl (iR _ _ (by omega) (by omega)) Tryz.func105 (xb rfl rfl) hfr ?_;refine xc (aBv _ _) Tryz.func104 (xb rfl rfl) hfr ?_;refine xn ?_;refine bQ (by kernel_rfl) ?_;refine CV.ret ?_;exact aQ rfl (.inr rfl) rfl (uB rfl)
 ·refine xk ?_;refine xk ?_;refine p1 (dQ) ?_;refine RV.done ?_;refine CV.no rfl ?_;refine CV.skip ?_;refine CV.seq ?_;refine CV.region rfl (fun _=>by kernel_rfl) ?_;refine p1 (bI dF) ?_;refine p1 (bJ 0 dE aK) ?_;refine p1 (aJ aC) ?_;refine xc (iB _ _) Tryz.func102 (xa rfl) hfr ?_;refine xd rfl (iR _ _ (by omega) (by omega)) Tryz.func105 (xb rfl rfl) hfr ?_;refine p1 (bI dF) ?_;refine p1 (bJ 0 dE aK) ?_;refine p1 (aJ aC) ?_;refine xc (iB _ _) Tryz.func102 (xa rfl) hfr ?_;refine xd rfl (iR _ _ (by omega) (by omega)) Tryz.func105 (xb rfl rfl) hfr ?_;refine xc (aBv _ _) Tryz.func104 (xb rfl rfl) hfr ?_;refine xn ?_;refine bQ (by kernel_rfl) ?_;refine CV.ret ?_;exact aQ rfl (.inr rfl) rfl (uB rfl)
theorem aX0 {a b:Rat} (h:qd a=qd b):a.den=b.den:=by
 have h1:=wZ a;have h2:=wZ b;rw[h] at h1;have:=h1.symm.trans h2;omega
theorem aSg (p q:Int) (j k:Nat) (hj:j<=10000000) (hk:k<=10000000):aD Tryz.prog 110 [.d (Dm.int p j),.d (Dm.int q k)] (.one (RT (Rat.divInt p q) (j+k))):=by
 refine aD.of (n:=11) Tryz.func110 rfl rfl rfl rfl rfl fun cx hfr=>?_;refine sr rfl ?_;refine p2 (bZ (i:=0)) ?_;refine p2 (bZ (i:=1)) ?_;refine p2 (aU (i:=2) bY) ?_;refine RV.done (sr rfl ?_);refine p1 (aJ aK) ?_;refine p1 (aJ aK) ?_;refine xd rfl (qT _ _ _ _ (by omega) (by omega)) Tryz.func109 (xb rfl rfl) hfr ?_;refine p1 (cL) ?_;refine p1 (cL) ?_;refine xd rfl (sL _ _ _ _ (fun h=>(aB4 p q (fun e=>h (by rw[e,Int.zero_ediv]))).1)) Tryz.func101 (xb rfl rfl) hfr ?_;refine p1 (aP (aC).2) ?_;refine RV.done ?_;refine CV.ret ?_;have e:Rat.divInt (p/(Int.gcd p q:Nat)) (q/(Int.gcd p q:Nat))=Rat.divInt p q:=aTz p q;exact aQ rfl (.inr rfl) ⟨_,_,_,_,_,rfl,rfl,rfl,aC⟩ (dT (by rw[e]) (by rw[e]) (by omega))
theorem oZ (p q:Int) (h1 : -9223372036854775808<=p) (h2:p<=9223372036854775807) (h3 : -9223372036854775808<=q) (h4:q<=9223372036854775807):aD Tryz.prog 57 [.v (.int .i64 p),.v (.int .i64 q)] (.one (RT (Rat.divInt p q) 6)):=by
 refine aD.of (n:=10) Tryz.func57 rfl rfl rfl rfl rfl fun cx hfr=>?_;refine sr rfl ?_;refine p2 (aU (i:=0) bY) ?_;refine RV.done (sr rfl ?_);refine xm ?_;refine xc (aE5 p h1 h2) Tryz.func111 (xa rfl) hfr ?_;refine xm ?_;refine xc (aE5 q h3 h4) Tryz.func111 (xa rfl) hfr ?_;refine xd rfl (aSg _ _ _ _ (by omega) (by omega)) Tryz.func110 (xb rfl rfl) hfr ?_;refine p1 (aP (aC).2) ?_;refine RV.done ?_;refine CV.ret ?_;exact aQ rfl (.inr rfl) ⟨_,_,_,_,_,rfl,rfl,rfl,aC⟩ cE
theorem aHg (z:Int) {k:Nat}:aD Tryz.prog 144 [.d (Dm.int z k)] (.one (.v (.bool true))) :=
 aJ2 fun vx w h=>vO vx z w h
theorem aQg (a:Rat) (k:Nat) (hk:k<=10000000):aD Tryz.prog 114 [RT a k] (.one (.v (.bool true))):=by
 refine aD.of (n:=35) Tryz.func114 rfl rfl rfl rfl rfl fun cx hfr=>?_;refine sr rfl ?_;refine p2 (bZ (i:=0)) ?_;refine xn ?_;refine RV.done ?_;refine CV.seq ?_;refine sr rfl ?_;refine p1 (bI dF) ?_;refine p1 (bJ 0 dE aK) ?_;refine xc (aHg _) Tryz.func144 (xa rfl) hfr ?_;refine p1 (jX) ?_;refine xm ?_;refine y1 (bI mD) ?_;refine y1 (bJ 2 oV aK) ?_;refine y1 (cB (aHg _) rfl rfl bd Tryz.func144 rfl rfl (xa rfl) rfl hfr rfl) ?_;refine y1 (jX) ?_;refine p1 (dQ) ?_;refine RV.done ?_;refine CV.no rfl ?_;refine CV.skip ?_;refine sr rfl ?_;refine p1 (aJ aC) ?_;refine xc (pM _ _ _) Tryz.func103 (xa rfl) hfr ?_;refine xm ?_;refine RV.bool (fun h1=>?_) (fun h1=>?_)
 ·refine xk ?_;refine xk ?_;refine xk ?_;refine xk ?_;refine xk ?_;refine gE (nM rfl rfl rfl rfl bd) ?_;refine gE (nM rfl rfl rfl rfl bd) ?_;refine gE (nM rfl rfl rfl rfl bd) ?_;refine gE (nM rfl rfl rfl rfl bd) ?_;refine xk ?_;refine xk ?_;refine gE (nM rfl rfl rfl rfl bd) ?_;refine gE (nM rfl rfl rfl rfl bd) ?_;refine gE (nM rfl rfl rfl rfl bd) ?_;refine gE (nM rfl rfl rfl rfl bd) ?_;refine gE (nM rfl rfl rfl rfl bd) ?_;refine gE (nM rfl rfl rfl rfl bd) ?_;refine xk ?_;refine p1 (dA) ?_;refine xn ?_;refine RV.done ?_;refine CV.ret ?_;exact aQ rfl (.inr rfl) rfl cE
 ·refine y1 (bI mD) ?_;refine y1 (bI zS) ?_;refine y1 (bJ 2 aT8 zF) ?_;refine y1 (jX) ?_;refine y1 (bX (.inl rfl)) ?_;refine RV.bool (fun hb=>?_) (fun hb=>False.elim (by have:=(aM8 a).1; simp at hb; omega));refine y1 (bI mD) ?_;refine y1 (bJ 2 oV aK) ?_;refine y1 (cB (tB _ _) rfl rfl bd Tryz.func139 rfl rfl (xa rfl) rfl hfr rfl) ?_;refine y1 (jX) ?_;refine y1 (dA) ?_;refine y1 (bX (.inl rfl)) ?_;refine RV.bool (fun hb=>?_) (fun hb=>False.elim (by have:=(aM8 a).2; simp at hb; omega));refine y1 (bI dF) ?_;refine y1 (bJ 0 dE aK) ?_;refine y1 (bI mD) ?_;refine y1 (bJ 2 oV aK) ?_;refine y1 (cB (zX _ _ (by omega) (by omega)) rfl rfl bd Tryz.func107 rfl rfl (xb rfl rfl) rfl hfr rfl) ?_;refine y1 (cB (tB _ _) rfl rfl bd Tryz.func139 rfl rfl (xa rfl) rfl hfr rfl) ?_;refine y1 (dA) ?_;refine p1 (dQ) ?_;refine xn ?_;refine RV.done ?_;refine CV.ret ?_;have h5:¬ qd a=0:=by simpa using h1
  refine aQ rfl (.inr rfl) rfl (fY ?_);rw[decide_eq_true_eq,show qd a=(a.den:Int) from by rw[<- wZ a,if_neg h5],red a];rfl
theorem aI5 (z:Int) (k:Nat):aD Tryz.prog 121 [.d (Dm.int z k)] (.one (.v (.bool (decide (z=1))))):=by
 refine aD.of (n:=16) Tryz.func121 rfl rfl rfl rfl rfl fun cx hfr=>?_;refine sr rfl ?_;refine p2 (bZ (i:=0)) ?_;refine xn ?_;refine RV.done ?_;refine CV.seq ?_;refine sr rfl ?_;refine p1 (bI zS) ?_;refine p1 (bJ 0 aD4 zF) ?_;refine xm ?_;refine RV.bool (fun h1=>?_) (fun h1=>?_)
 ·refine xk ?_;refine xk ?_;refine xk ?_;refine xk ?_;refine p1 (dA) ?_;refine RV.done ?_;refine CV.yes rfl ?_;refine sr rfl ?_;refine xn ?_;refine RV.done ?_;refine CV.ret ?_;refine aQ rfl (.inr rfl) rfl (fY ?_);rw[eq_comm,decide_eq_false_iff_not];simp at h1;omega
 ·refine y1 (bI oX) ?_;refine y1 (bJ 1 rQ oR) ?_;refine y1 (rS) ?_;refine y1 (mX) ?_;refine p1 (dQ) ?_;refine RV.done ?_;refine CV.cond rfl (fun h2=>?_) (fun h2=>?_)
  ·refine sr rfl ?_;refine xn ?_;refine RV.done ?_;refine CV.ret ?_;refine aQ rfl (.inr rfl) rfl (fY ?_);rw[eq_comm,decide_eq_false_iff_not];rintro rfl;cases h2
  ·refine CV.skip ?_;refine sr rfl ?_;refine p1 (bI oX) ?_;refine p1 (bJ 1 rQ oR) ?_;refine p1 (aMh (i:=0) (by simp at h2; omega) rfl rfl bd rfl rfl) ?_;refine p1 (aJe rfl rfl bd rfl) ?_;refine p1 (cQ) ?_;refine xn ?_;refine RV.done ?_;refine CV.ret ?_;refine aQ rfl (.inr rfl) rfl (fY ?_);rw[aK4 (by simp at h2; omega),Bool.eq_iff_iff];simp at h1 |-;omega
theorem aTb (p q:Int) (k:Nat):aD Tryz.prog 62 [.d (Dm.rt p q k)] (.one (.d (Dm.int (if q=0 then 1 else q) (k+3)))):=by
 refine aD.of (n:=11) Tryz.func62 rfl rfl rfl rfl rfl fun cx hfr=>?_;refine sr rfl ?_;refine p2 (bZ (i:=0)) ?_;refine p2 (aU (i:=1) cZ) ?_;refine RV.done ?_;refine CV.seq ?_;refine sr rfl ?_;refine p1 (bI mD) ?_;refine p1 (bI oX) ?_;refine p1 (bJ 3 aJt oR) ?_;refine p1 (rS) ?_;refine p1 (cQ) ?_;refine RV.done ?_;refine CV.cond rfl (fun hc=>?_) (fun hc=>?_)
 ·refine sr rfl ?_;refine xd rfl (aD1 _ (by decide) (by decide)) Tryz.func74 (xa rfl) hfr ?_;refine p1 (aP (aK).2) ?_;refine RV.done ?_;refine CV.ret ?_;rw[nJ] at hc;exact aQ rfl (.inr rfl) ⟨_,_,_,_,_,rfl,rfl,rfl,aK⟩ (rP (by rw[if_pos (by simpa using hc)]) (by omega))
 ·refine CV.skip ?_;refine sr rfl ?_;refine p1 (bI mD) ?_;refine p1 (bJ 2 oV aK) ?_;refine p1 (aP (aK).2) ?_;refine RV.done ?_;refine CV.ret ?_;rw[nJ] at hc;exact aQ rfl (.inr rfl) ⟨_,_,_,_,_,rfl,rfl,rfl,aK⟩ (rP (by rw[if_neg (by simpa using hc)]) (by omega))
theorem nO (a:Rat) (k:Nat):aD Tryz.prog 62 [RT a k] (.one (.d (Dm.int a.den (k+3)))):=by
 have h:=aTb a.num (qd a) k;rwa[wZ] at h
theorem aF1 (q:Int):(Rat.divInt 0 q).num=0/\qd (Rat.divInt 0 q)=0:=by
 rw[Rat.zero_divInt];exact⟨rfl,rfl⟩
theorem vU (p q:Int) (hq:q≠0):(Rat.divInt p q).num=(q/(Int.gcd p q:Nat)).sign*(p/(Int.gcd p q:Nat))/\qd (Rat.divInt p q)=(if (q/(Int.gcd p q:Nat)).natAbs=1 then 0 else ((q/(Int.gcd p q:Nat)).natAbs:Int)):=by
 obtain⟨h1,h2⟩:=aB4 p q hq;have h3:q/(Int.gcd p q:Nat)≠0:=by
  intro e;have d2:((Int.gcd p q:Nat):Int) ∣ q:=Int.gcd_dvd_right ..;have:=Int.ediv_mul_cancel d2;rw[e,Int.zero_mul] at this;exact hq this.symm
 rw[<- h2];exact⟨pW h1,wO h1 h3⟩
theorem yJ (p q:Int) (j k:Nat) (hj:j<=10000000) (hk:k<=10000000):aD Tryz.prog 72 [.d (Dm.int p j),.d (Dm.int q k)] (.one (RT (Rat.divInt p q) (j+k))):=by
 refine aD.of (n:=49) Tryz.func72 rfl rfl rfl rfl rfl fun cx hfr=>?_;refine sr rfl ?_;refine p2 (bZ (i:=0)) ?_;refine p2 (bZ (i:=1)) ?_;refine p2 (aU (i:=2) bY) ?_;refine RV.done ?_;refine CV.seq ?_;refine sr rfl ?_;refine p1 (bI oX) ?_;refine p1 (bJ 1 rQ oR) ?_;refine p1 (rS) ?_;refine p1 (cQ) ?_;refine xm ?_;refine RV.bool (fun h1=>?_) (fun h1=>?_)
 ·refine xk ?_;refine xk ?_;refine xk ?_;refine xk ?_;refine p1 (dA) ?_;refine RV.done ?_;refine CV.yes rfl ?_;refine sr rfl ?_;refine p1 (mO) ?_;refine p1 (aP (aC).2) ?_;refine RV.done ?_;refine CV.ret ?_;rw[nJ] at h1;obtain rfl:q=0:=by simpa using h1
  exact aQ rfl (.inr rfl) ⟨_,_,_,_,_,rfl,rfl,rfl,aC⟩ (dT (vC p).1.symm (vC p).2.symm (by omega))
 ·refine y1 (bI oX) ?_;refine y1 (bJ 1 rQ oR) ?_;refine y1 (rS) ?_;refine y1 (cQ) ?_;refine p1 (dQ) ?_;refine RV.done ?_;refine CV.cond rfl (fun h2=>?_) (fun h2=>?_)
  ·refine sr rfl ?_;refine p1 (mO) ?_;refine p1 (aP (aC).2) ?_;refine RV.done ?_;refine CV.ret ?_;rw[nJ] at h2;obtain rfl:p=0:=by simpa using h2
   exact aQ rfl (.inr rfl) ⟨_,_,_,_,_,rfl,rfl,rfl,aC⟩ (dT (aF1 q).1.symm (aF1 q).2.symm (by omega))
  ·refine CV.skip ?_;refine sr rfl ?_;refine p1 (aJ aK) ?_;refine p1 (aJ aK) ?_;refine xd rfl (aTa _ _ (by omega) (by omega)) Tryz.func119 (xb rfl rfl) hfr ?_;refine p2 (aU (i:=3) cZ) ?_;refine p1 (aP (aK).2) ?_;refine RV.done (sr rfl ?_);refine p1 (aJ aK) ?_;refine p1 (aJ aK) ?_;refine xd rfl (aI6 _ _ (by omega) (by omega)) Tryz.func120 (xb rfl rfl) hfr ?_;refine xm ?_;refine p1 (cL) ?_;refine p1 (cL) ?_;refine p2 (aU (i:=4) cZ) ?_;refine p2 (aU (i:=5) cZ) ?_;refine p1 (aP (aK).2) ?_;refine p1 (aP (aK).2) ?_;refine RV.done (sr rfl ?_);refine p1 (aJ aK) ?_;refine p1 (aJ aK) ?_;refine xd rfl (aI6 _ _ (by omega) (by omega)) Tryz.func120 (xb rfl rfl) hfr ?_;refine xm ?_;refine p1 (cL) ?_;refine p1 (cL) ?_;refine p2 (aU (i:=6) cZ) ?_;refine p2 (aU (i:=7) cZ) ?_;refine p1 (aP (aK).2) ?_;refine p1 (aP (aK).2) ?_;refine RV.done ?_;refine CV.seq ?_;refine sr rfl ?_;refine p1 (bI zS) ?_;refine p1 (bJ 0 aD4 zF) ?_;refine RV.done ?_;refine CV.cond rfl (fun h3=>?_) (fun h3=>?_)
   ·refine sr rfl ?_;refine p1 (aJ aK) ?_;refine xc (aC0 _) Tryz.func63 (xa rfl) hfr ?_;refine p1 (aP (aK).2) ?_;refine RV.done ?_;refine CV.region rfl (fun h=>nomatch h) ?_;refine p1 (aJ aK) ?_;refine xc (aC0 _) Tryz.func63 (xa rfl) hfr ?_;refine p1 (aP (aK).2) ?_;refine RV.done ?_;refine CV.seq ?_;refine sr rfl ?_;refine p1 (aJ aK) ?_;refine xc (aI5 _ _) Tryz.func121 (xa rfl) hfr ?_;refine RV.done ?_;refine CV.cond rfl (fun h4=>?_) (fun h4=>?_)
    ·refine sr rfl ?_;refine p1 (aJ aK) ?_;refine p1 (rA) ?_;refine p1 (aP (aC).2) ?_;refine RV.done ?_;refine CV.ret ?_;rw[nJ] at h1;have hq:q≠0:=by simpa using h1
     obtain⟨e1,e2⟩:=vU p q hq;have h3:q/(Int.gcd p q:Nat)<0:=by simpa using h3
     have h4 : -(q/(Int.gcd p q:Nat))=1:=by simpa using h4
     exact aQ rfl (.inr rfl) ⟨_,_,_,_,_,rfl,rfl,rfl,aC⟩ (dT (by rw[e1,Int.sign_eq_neg_one_of_neg h3]; omega) (by rw[e2,if_pos (by omega)]) (by omega))
    ·refine CV.skip ?_;refine sr rfl ?_;refine p1 (aJ aK) ?_;refine p1 (aJ aK) ?_;refine p1 (sY) ?_;refine p1 (aP (aC).2) ?_;refine RV.done ?_;refine CV.ret ?_;rw[nJ] at h1;have hq:q≠0:=by simpa using h1
     obtain⟨e1,e2⟩:=vU p q hq;have h3:q/(Int.gcd p q:Nat)<0:=by simpa using h3
     have h4:¬ -(q/(Int.gcd p q:Nat))=1:=by simpa using h4
     exact aQ rfl (.inr rfl) ⟨_,_,_,_,_,rfl,rfl,rfl,aC⟩ (dT (by rw[e1,Int.sign_eq_neg_one_of_neg h3]; omega) (by rw[e2,if_neg (by omega)]; omega) (by omega))
   ·refine CV.skip ?_;refine CV.seq ?_;refine sr rfl ?_;refine p1 (aJ aK) ?_;refine xc (aI5 _ _) Tryz.func121 (xa rfl) hfr ?_;refine RV.done ?_;refine CV.cond rfl (fun h4=>?_) (fun h4=>?_)
    ·refine sr rfl ?_;refine p1 (aJ aK) ?_;refine p1 (rA) ?_;refine p1 (aP (aC).2) ?_;refine RV.done ?_;refine CV.ret ?_;rw[nJ] at h1;have hq:q≠0:=by simpa using h1
     obtain⟨e1,e2⟩:=vU p q hq;have h3:¬ q/(Int.gcd p q:Nat)<0:=by simpa using h3
     have h4:q/(Int.gcd p q:Nat)=1:=by simpa using h4
     exact aQ rfl (.inr rfl) ⟨_,_,_,_,_,rfl,rfl,rfl,aC⟩ (dT (by rw[e1,h4]; simp) (by rw[e2,h4]; rfl) (by omega))
    ·refine CV.skip ?_;refine sr rfl ?_;refine p1 (aJ aK) ?_;refine p1 (aJ aK) ?_;refine p1 (sY) ?_;refine p1 (aP (aC).2) ?_;refine RV.done ?_;refine CV.ret ?_;rw[nJ] at h1;have hq:q≠0:=by simpa using h1
     obtain⟨e1,e2⟩:=vU p q hq;have h3:¬ q/(Int.gcd p q:Nat)<0:=by simpa using h3
     have h4:¬ q/(Int.gcd p q:Nat)=1:=by simpa using h4
     have h5:q/(Int.gcd p q:Nat)≠0:=fun e=>hq (by have d2:((Int.gcd p q:Nat):Int) ∣ q:=Int.gcd_dvd_right .. ; have:=Int.ediv_mul_cancel d2; rw[e,Int.zero_mul] at this; exact this.symm);exact aQ rfl (.inr rfl) ⟨_,_,_,_,_,rfl,rfl,rfl,aC⟩ (dT (by rw[e1,Int.sign_eq_one_of_pos (by omega)]; omega) (by rw[e2,if_neg (by omega)]; omega) (by omega))
theorem iL (p q:Int) (h1 : -9223372036854775808<=p) (h2:p<=9223372036854775807) (h3 : -9223372036854775808<=q) (h4:q<=9223372036854775807):aD Tryz.prog 32 [.v (.int .i64 p),.v (.int .i64 q)] (.one (RT (Rat.divInt p q) 6)):=by
 refine aD.of (n:=10) Tryz.func32 rfl rfl rfl rfl rfl fun cx hfr=>?_;refine sr rfl ?_;refine p2 (aU (i:=0) bY) ?_;refine RV.done (sr rfl ?_);refine xm ?_;refine xc (aD1 p h1 h2) Tryz.func74 (xa rfl) hfr ?_;refine xm ?_;refine xc (aD1 q h3 h4) Tryz.func74 (xa rfl) hfr ?_;refine xd rfl (yJ _ _ _ _ (by omega) (by omega)) Tryz.func72 (xb rfl rfl) hfr ?_;refine p1 (aP (aC).2) ?_;refine RV.done ?_;refine CV.ret ?_;exact aQ rfl (.inr rfl) ⟨_,_,_,_,_,rfl,rfl,rfl,aC⟩ cE
theorem aGn (a b:Rat) (j k:Nat):aD Tryz.prog 18 [RT a j,RT b k] (.one (.v (.bool (decide (a=b))))):=by
 refine aD.of (n:=17) Tryz.func18 rfl rfl rfl rfl rfl fun cx hfr=>?_;refine sr rfl ?_;refine p2 (bZ (i:=0)) ?_;refine p2 (bZ (i:=1)) ?_;refine xn ?_;refine RV.done (sr rfl ?_);refine p1 (bI dF) ?_;refine p1 (bJ 0 dE aK) ?_;refine p1 (bI dF) ?_;refine p1 (bJ 0 dE aK) ?_;refine xc (aHq _ _) Tryz.func50 (xb rfl rfl) hfr ?_;refine xm ?_;refine RV.bool (fun h1=>?_) (fun h1=>?_)
 ·refine y1 (bI mD) ?_;refine y1 (bJ 2 oV aK) ?_;refine y1 (bI mD) ?_;refine y1 (bJ 2 oV aK) ?_;refine y1 (cB (aHq _ _) rfl rfl bd Tryz.func50 rfl rfl (xb rfl rfl) rfl hfr rfl) ?_;refine p1 (dA) ?_;refine xn ?_;refine RV.done ?_;refine CV.ret ?_;have e1:a.num=b.num:=by simpa using h1
  refine aQ rfl (.inr rfl) rfl (fY ?_);rw[Bool.eq_iff_iff,decide_eq_true_eq,decide_eq_true_eq];exact⟨fun e2=>Rat.ext e1 (aX0 e2),fun e=>by rw[e]⟩
 ·refine xk ?_;refine xk ?_;refine xk ?_;refine xk ?_;refine xk ?_;refine p1 (dQ) ?_;refine xn ?_;refine RV.done ?_;refine CV.ret ?_;have e2:¬ a.num=b.num:=by simpa using h1
  exact aQ rfl (.inr rfl) rfl (fY (by rw[eq_comm,decide_eq_false_iff_not]; rintro rfl; exact e2 rfl))
theorem aNl (zs:List Int) (i:Nat) (m:Int) (hm:1<=m) (hm2:m<=9223372036854775807):aD Tryz.prog 41 [.d (Dm.ints zs),.v (.int .i64 (i:Int)),.v (.int .i64 m)] (.one (.v (.int .i64 (iO zs i m)))):=by
 have h:=aXw zs (i:Int) m (by omega) hm hm2;rwa[Int.toNat_natCast] at h
end Vc
end Go.Proofs.YtjmbkipbmbnhjaaGreat

namespace Go.Proofs.YtjmbkipbmbnhjaaGreat
open Dg Zn
namespace Vc
theorem aBn (z:Int):(Rat.divInt z 1).num=z/\((Rat.divInt z 1).den:Int)=1:=by
 have hg:Int.gcd z 1=1:=Int.gcd_one_right z;refine⟨by rw[pW hg]; simp,?_⟩;rw[zM hg (by decide)];rfl
end Vc
end Go.Proofs.YtjmbkipbmbnhjaaGreat

namespace Go.Proofs.YtjmbkipbmbnhjaaGreat
open Go.RowKit
open Go.Lib (hid)
open Dg Zn
namespace Vc
set_option maxRecDepth 100000
section
variable {P:Program} {cx:Cx Dm} {n:Nat} {σ:St Dm} {o:Oper} {d:Nat} {x y:Operand} {T T':TypeId} {k:IntKind} {a b:Int}
theorem tY (h:a=b) (ho:o.op=.binOp .eql T x y T') (hd:o.dst=some d) (hn:d<n) (hx:opd σ x=.av (.one (.v (.int k a)))) (hy:opd σ y=.av (.one (.v (.int k b)))):aM P cx n σ o (bG x++bG y) [(.s d,.av (.one (.v (.bool true))))]:=by
 have:=cQ (P:=P) (cx:=cx) ho hd hn hx hy;rwa[h,beq_self_eq_true] at this
theorem aVu (h:a=b) (ho:o.op=.binOp .neq T x y T') (hd:o.dst=some d) (hn:d<n) (hx:opd σ x=.av (.one (.v (.int k a)))) (hy:opd σ y=.av (.one (.v (.int k b)))):aM P cx n σ o (bG x++bG y) [(.s d,.av (.one (.v (.bool false))))]:=by
 have:=mX (P:=P) (cx:=cx) ho hd hn hx hy;rwa[h,bne_self_eq_false] at this
end
theorem aHc (a b:Rat):Rat.divInt (a.num*b.den+b.num*a.den) (a.den*b.den)=a+b:=by
 rw[<- Rat.divInt_add_divInt a.num b.num (qJ a) (qJ b),Rat.num_divInt_den,Rat.num_divInt_den]
theorem aHa (a b:Rat):Rat.divInt (a.num*b.num) (a.den*b.den)=a*b:=by
 rw[<- Rat.divInt_mul_divInt,Rat.num_divInt_den,Rat.num_divInt_den]
theorem aHb (a b:Rat):Rat.divInt (a.num*b.den) (a.den*b.num)=a/b:=by
 rw[<- Rat.divInt_mul_divInt,Rat.num_divInt_den,aEv,Rat.div_def]
theorem vJ (a b:Rat) (j k:Nat) (hj:j<=1000000) (hk:k<=1000000):aD Tryz.prog 31 [RT a j,RT b k] (.one (RT (a+b) (3*(j+k)+20))):=by
 refine aD.of (n:=26) Tryz.func31 rfl rfl rfl rfl rfl fun cx hfr=>?_;refine sr rfl ?_;refine p2 (bZ (i:=0)) ?_;refine p2 (bZ (i:=1)) ?_;refine p2 (aU (i:=2) bY) ?_;refine RV.done ?_;refine CV.seq ?_;refine CV.region rfl (fun _=>by kernel_rfl) ?_;refine p1 (bI dF) ?_;refine p1 (bJ 0 dE aK) ?_;refine p1 (aJ aC) ?_;refine xc (nO _ _) Tryz.func62 (xa rfl) hfr ?_;refine xd rfl (oN _ _ (by omega) (by omega)) Tryz.func61 (xb rfl rfl) hfr ?_;refine p2 (aU (i:=3) cZ) ?_;refine p1 (aP (aK).2) ?_;refine bQ (by kernel_rfl) ?_;refine CV.seq ?_;refine CV.region rfl (fun _=>by kernel_rfl) ?_;refine p1 (bI dF) ?_;refine p1 (bJ 0 dE aK) ?_;refine p1 (aJ aC) ?_;refine xc (nO _ _) Tryz.func62 (xa rfl) hfr ?_;refine xd rfl (oN _ _ (by omega) (by omega)) Tryz.func61 (xb rfl rfl) hfr ?_;refine p2 (aU (i:=4) cZ) ?_;refine p1 (aP (aK).2) ?_;refine bQ (by kernel_rfl) ?_;refine CV.seq ?_;refine CV.region rfl (fun _=>by kernel_rfl) ?_;refine p1 (aJ aK) ?_;refine p1 (aJ aK) ?_;refine xd rfl (aTc _ _ (by omega) (by omega)) Tryz.func73 (xb rfl rfl) hfr ?_;refine p1 (aJ aC) ?_;refine xc (nO _ _) Tryz.func62 (xa rfl) hfr ?_;refine p1 (aJ aC) ?_;refine xc (nO _ _) Tryz.func62 (xa rfl) hfr ?_;refine xd rfl (oN _ _ (by omega) (by omega)) Tryz.func61 (xb rfl rfl) hfr ?_;refine xd rfl (yJ _ _ _ _ (by omega) (by omega)) Tryz.func72 (xb rfl rfl) hfr ?_;refine p1 (aP (aC).2) ?_;refine bQ (by kernel_rfl) ?_;refine CV.ret ?_;exact aQ rfl (.inr rfl) ⟨_,_,_,_,_,rfl,rfl,rfl,aC⟩ (dT (by rw[aHc]) (by rw[aHc]) (by omega))
theorem aCg (a:Rat) (k:Nat):aD Tryz.prog 24 [RT a k] (.one (RT (-a) k)):=by
 refine aD.of (n:=9) Tryz.func24 rfl rfl rfl rfl rfl fun cx hfr=>?_;refine sr rfl ?_;refine p2 (bZ (i:=0)) ?_;refine p2 (aU (i:=1) bY) ?_;refine RV.done ?_;refine CV.seq ?_;refine CV.region rfl (fun _=>by kernel_rfl) ?_;refine p1 (bI dF) ?_;refine p1 (bJ 0 dE aK) ?_;refine xc (aC0 _) Tryz.func63 (xa rfl) hfr ?_;refine p1 (bI mD) ?_;refine p1 (bJ 2 oV aK) ?_;refine p1 (sY) ?_;refine p1 (aP (aC).2) ?_;refine bQ (by kernel_rfl) ?_;refine CV.ret ?_;exact aQ rfl (.inr rfl) ⟨_,_,_,_,_,rfl,rfl,rfl,aC⟩ (dT (by rw[Rat.neg_num]) (by unfold qd; rw[Rat.neg_den]) (by omega))
theorem vI (a b:Rat) (j k:Nat) (hj:j<=1000000) (hk:k<=1000000):aD Tryz.prog 89 [RT a j,RT b k] (.one (RT (a*b) (3*(j+k)+20))):=by
 refine aD.of (n:=16) Tryz.func89 rfl rfl rfl rfl rfl fun cx hfr=>?_;refine sr rfl ?_;refine p2 (bZ (i:=0)) ?_;refine p2 (bZ (i:=1)) ?_;refine p2 (aU (i:=2) bY) ?_;refine RV.done ?_;refine CV.seq ?_;refine CV.region rfl (fun _=>by kernel_rfl) ?_;refine p1 (bI dF) ?_;refine p1 (bJ 0 dE aK) ?_;refine p1 (bI dF) ?_;refine p1 (bJ 0 dE aK) ?_;refine xd rfl (oN _ _ (by omega) (by omega)) Tryz.func61 (xb rfl rfl) hfr ?_;refine p1 (aJ aC) ?_;refine xc (nO _ _) Tryz.func62 (xa rfl) hfr ?_;refine p1 (aJ aC) ?_;refine xc (nO _ _) Tryz.func62 (xa rfl) hfr ?_;refine xd rfl (oN _ _ (by omega) (by omega)) Tryz.func61 (xb rfl rfl) hfr ?_;refine xd rfl (yJ _ _ _ _ (by omega) (by omega)) Tryz.func72 (xb rfl rfl) hfr ?_;refine p1 (aP (aC).2) ?_;refine bQ (by kernel_rfl) ?_;refine CV.ret ?_;exact aQ rfl (.inr rfl) ⟨_,_,_,_,_,rfl,rfl,rfl,aC⟩ (dT (by rw[aHa]) (by rw[aHa]) (by omega))
theorem aCh (a b:Rat) (j k:Nat) (hj:j<=1000000) (hk:k<=1000000):aD Tryz.prog 58 [RT a j,RT b k] (.one (RT (a/b) (3*(j+k)+20))):=by
 refine aD.of (n:=16) Tryz.func58 rfl rfl rfl rfl rfl fun cx hfr=>?_;refine sr rfl ?_;refine p2 (bZ (i:=0)) ?_;refine p2 (bZ (i:=1)) ?_;refine p2 (aU (i:=2) bY) ?_;refine RV.done ?_;refine CV.seq ?_;refine CV.region rfl (fun _=>by kernel_rfl) ?_;refine p1 (bI dF) ?_;refine p1 (bJ 0 dE aK) ?_;refine p1 (aJ aC) ?_;refine xc (nO _ _) Tryz.func62 (xa rfl) hfr ?_;refine xd rfl (oN _ _ (by omega) (by omega)) Tryz.func61 (xb rfl rfl) hfr ?_;refine p1 (aJ aC) ?_;refine xc (nO _ _) Tryz.func62 (xa rfl) hfr ?_;refine p1 (bI dF) ?_;refine p1 (bJ 0 dE aK) ?_;refine xd rfl (oN _ _ (by omega) (by omega)) Tryz.func61 (xb rfl rfl) hfr ?_;refine xd rfl (yJ _ _ _ _ (by omega) (by omega)) Tryz.func72 (xb rfl rfl) hfr ?_;refine p1 (aP (aC).2) ?_;refine bQ (by kernel_rfl) ?_;refine CV.ret ?_;exact aQ rfl (.inr rfl) ⟨_,_,_,_,_,rfl,rfl,rfl,aC⟩ (dT (by rw[aHb]) (by rw[aHb]) (by omega))
theorem xV (a b:Rat) (j k:Nat) (hj:j<=10000000) (hk:k<=10000000):aD Tryz.prog 23 [RT a j,RT b k] (.one (.v (.int .i64 (iW a b)))):=by
 refine aD.of (n:=16) Tryz.func23 rfl rfl rfl rfl rfl fun cx hfr=>?_;refine sr rfl ?_;refine p2 (bZ (i:=0)) ?_;refine p2 (bZ (i:=1)) ?_;refine xn ?_;refine RV.done ?_;refine CV.seq ?_;refine CV.region rfl (fun _=>by kernel_rfl) ?_;refine p1 (bI dF) ?_;refine p1 (bJ 0 dE aK) ?_;refine p1 (aJ aC) ?_;refine xc (nO _ _) Tryz.func62 (xa rfl) hfr ?_;refine xd rfl (oN _ _ (by omega) (by omega)) Tryz.func61 (xb rfl rfl) hfr ?_;refine p1 (bI dF) ?_;refine p1 (bJ 0 dE aK) ?_;refine p1 (aJ aC) ?_;refine xc (nO _ _) Tryz.func62 (xa rfl) hfr ?_;refine xd rfl (oN _ _ (by omega) (by omega)) Tryz.func61 (xb rfl rfl) hfr ?_;refine xc (aF4 _ _) Tryz.func60 (xb rfl rfl) hfr ?_;refine xn ?_;refine bQ (by kernel_rfl) ?_;refine CV.ret ?_;exact aQ rfl (.inr rfl) rfl (uB rfl)
theorem aQ2 (x:Int) (k:Nat):aD Tryz.prog 85 [.d (Dm.int x k)] (.one (.v (.int .i64 (bB x 0)))):=by
 refine aD.of (n:=6) Tryz.func85 rfl rfl rfl rfl rfl fun cx hfr=>?_;refine sr rfl ?_;refine p2 (bZ (i:=0)) ?_;refine xn ?_;refine RV.done (sr rfl ?_);refine p1 (aJ aK) ?_;refine p1 (aCl rfl rfl bd) ?_;refine xc (aF4 _ _) Tryz.func60 (xb rfl rfl) hfr ?_;refine xn ?_;refine RV.done ?_;refine CV.ret ?_;exact aQ rfl (.inr rfl) rfl (uB rfl)
theorem aBz (a:Rat) (k:Nat):aD Tryz.prog 37 [RT a k] (.one (.v (.int .i64 (bB a.num 0)))):=by
 refine aD.of (n:=6) Tryz.func37 rfl rfl rfl rfl rfl fun cx hfr=>?_;refine sr rfl ?_;refine p2 (bZ (i:=0)) ?_;refine xn ?_;refine RV.done (sr rfl ?_);refine p1 (bI dF) ?_;refine p1 (bJ 0 dE aK) ?_;refine xc (aQ2 _ _) Tryz.func85 (xa rfl) hfr ?_;refine xn ?_;refine RV.done ?_;refine CV.ret ?_;exact aQ rfl (.inr rfl) rfl (uB rfl)
section
variable {cx:Cx Dm} {n:Nat} {σ:St Dm} {o:Oper} {d t:Nat} {x y:Operand} {T T':TypeId}
end
set_option linter.unusedSectionVars false
inductive aAl (B:Nat):Int->Int->Int->Int->Int->Int->Prop where
 | whole {a b c d:Int}:a%b=0->b≠0->len (a/b)<=B->aAl B a b c d (a/b) 1
 | next {a b c d:Int}:a%b≠0->b≠0->d≠0->a/b<c/d->len (a/b+1)<=B->aAl B a b c d (a/b+1) 1
 | step {a b c d q p:Int}:a%b≠0->b≠0->d≠0->¬ a/b<c/d->aAl B d (c%d) b (a%b) q p->len (a/b*q+p)<=B->len q<=B->aAl B a b c d (a/b*q+p) q
section
variable (a b c d:Int) (j1 j2 j3 j4 B:Nat) (hj1:j1<=1000000) (hj2:j2<=1000000) (hj3:j3<=1000000) (hj4:j4<=1000000) (hB1:1<=B) (hB:B<=1000000)
include hj1 hj2 hj3 hj4 hB1 hB
end
end Vc
end Go.Proofs.YtjmbkipbmbnhjaaGreat

namespace Go.Proofs.YtjmbkipbmbnhjaaGreat
open Go.RowKit
open Go.Lib (hid)
open Dg Zn
namespace Vc
end Vc
end Go.Proofs.YtjmbkipbmbnhjaaGreat
