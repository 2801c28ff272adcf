/-
  
-/
import Derived.Test.YtjmbkipbmbnhjaaGreatSM9
import Derived.Test.YtjmbkipbmbnhjaaGreatSM33
import Derived.IntWalk
import Derived.Test.YtjmbkipbmbnhjaaGreatSM32
import Derived.Test.YtjmbkipbmbnhjaaGreatSM21
import Derived.Test.YtjmbkipbmbnhjaaGreatSM22
set_option linter.unusedVariables false
set_option linter.unusedSimpArgs false
set_option linter.unusedSectionVars false
namespace Go.Proofs.YtjmbkipbmbnhjaaGreat
open Go.RowKit
open Go.Lib (hid)
open Dg Zn
namespace Vc
set_option maxRecDepth 100000
theorem bU {z:Int} (h1 : -9223372036854775808<=z) (h2:z<=9223372036854775807):IntKind.i64.wrap z=z:=IntWalk.i64_in _ (by omega)
theorem aRt (x:Int) (j k:Nat):aD Tryz.prog 120 [.d (Dm.int x j),.d (Dm.int 0 k)] (.tup [.d (Dm.int 0 j),.d (Dm.int 0 k)]):=by
 refine aD.of (n:=58) Tryz.func120 rfl rfl rfl rfl rfl fun cx hfr=>?_;refine sr rfl ?_;refine p2 (cA (i:=0)) ?_;refine p2 (cA (i:=1)) ?_;refine p2 (aU (i:=2) cX) ?_;refine p2 (aU (i:=3) cX) ?_;refine RV.done ?_;refine CV.seq ?_;refine sr rfl ?_;refine p1 (bH oU) ?_;refine p1 (bI 1 rU oP) ?_;refine p1 (rY) ?_;refine p1 (cR) ?_;refine RV.done ?_;refine CV.cond rfl (fun hc=>?_) (fun hc=>False.elim (by rw[nJ] at hc; simp at hc));refine sr rfl ?_;refine p1 (aCz rfl rfl bd) ?_;refine p1 (aCz rfl rfl bd) ?_;refine p1 (aQ (aK).2) ?_;refine p1 (aQ (aK).2) ?_;refine RV.done ?_;refine CV.ret ?_;exact pB rfl (.inr rfl) ⟨_,_,_,_,_,rfl,rfl,rfl,aK⟩ ⟨_,_,_,_,_,rfl,rfl,rfl,aK⟩ (aLt rfl (Nat.zero_le _) rfl (Nat.zero_le _))
theorem aJv (x y:Int) {j k:Nat} (hj:j<=1000000000) (hk:k<=1000000000):aD Tryz.prog 120 [.d (Dm.int x j),.d (Dm.int y k)] (.tup [.d (Dm.int (x/y) j),.d (Dm.int (if y=0 then 0 else x%y) k)]):=by
 by_cases hy:y=0
 ·subst hy;rw[if_pos rfl,Int.ediv_zero];exact aRt x j k
 ·refine aKu (fun vx vy w h1 h2 l1 l2=>?_) fun l1 l2=>⟨Nat.le_trans (nS (aGh x y)) l1,?_⟩
  ·rw[if_neg hy];exact aG9 vx vy x y w h1 h2 hy (by omega) (by omega)
  ·rw[if_neg hy];refine Nat.le_trans (nS ?_) l2;have h1:=Int.emod_nonneg x hy;have h2:=Int.emod_lt x hy;omega
theorem aUe (p q:Int):Rat.divInt (p/(Int.gcd p q:Nat)) (q/(Int.gcd p q:Nat))=Rat.divInt p q:=by
 by_cases h:q=0
 ·rw[h,Int.zero_ediv,Rat.divInt_zero,Rat.divInt_zero]
 ·exact(aCg p q h).2
theorem aNt (a:Rat):0<=qd a/\qd a≠1:=by
 unfold qd;split
 ·exact⟨Int.le_refl _,by decide⟩
 ·exact⟨by omega,by omega⟩
theorem nT (a b:Rat) (j k:Nat) (hj:j<=10000000) (hk:k<=10000000):aD Tryz.prog 87 [RT a j,RT b k] (.one (RT (a*b) (3*(j+k)+20))):=by
 refine aD.of (n:=44) Tryz.func87 rfl rfl rfl rfl rfl fun cx hfr=>?_;refine sr rfl ?_;refine p2 (cA (i:=0)) ?_;refine p2 (cA (i:=1)) ?_;refine p2 (aU (i:=2) bX) ?_;refine RV.done ?_;refine CV.seq ?_;refine sr rfl ?_;refine p1 (aJ aB) ?_;refine xc (pL _ _ _) Tryz.func103 (xa rfl) hfr ?_;refine xm ?_;refine RV.bool (fun h1=>?_) (fun h1=>?_)
 ·refine y1 (aJ aB) ?_;refine y1 (bR (pL _ _ _) rfl rfl bd Tryz.func103 rfl rfl (xa rfl) rfl hfr rfl) ?_;refine p1 (cZ) ?_;refine RV.done ?_;refine CV.cond rfl (fun h2=>?_) (fun h2=>?_)
  ·refine sr rfl ?_;refine p1 (bH dH) ?_;refine p1 (bI 0 dG aK) ?_;refine p1 (bH dH) ?_;refine p1 (bI 0 dG aK) ?_;refine xd rfl (iP _ _ (by omega) (by omega)) Tryz.func105 (xb rfl rfl) hfr ?_;refine p1 (rC) ?_;refine p1 (aQ (aB).2) ?_;refine RV.done ?_;refine CV.ret ?_;have ha:=pX.1 (by simpa using h1);have hb:=pX.1 (by simpa using h2);obtain⟨-,-,e1,e2⟩:=aGy ha hb;exact aR rfl (.inr rfl) ⟨_,_,_,_,_,rfl,rfl,rfl,aB⟩ (eC e1.symm (pX.2 e2).symm (by omega))
  ·refine CV.skip ?_;refine CV.seq ?_;refine CV.region rfl (fun _=>by kernel_rfl) ?_;refine p1 (bH dH) ?_;refine p1 (bI 0 dG aK) ?_;refine p1 (aJ aB) ?_;refine xc (gW _ _) Tryz.func102 (xa rfl) hfr ?_;refine xd rfl (qT _ _ _ _ (by omega) (by omega)) Tryz.func109 (xb rfl rfl) hfr ?_;refine xm ?_;refine p1 (cK) ?_;refine p1 (cK) ?_;refine p2 (aU (i:=3) cX) ?_;refine p2 (aU (i:=4) cX) ?_;refine p1 (aQ (aK).2) ?_;refine p1 (aQ (aK).2) ?_;refine bV (by kernel_rfl) ?_;refine CV.seq ?_;refine CV.region rfl (fun _=>by kernel_rfl) ?_;refine p1 (bH dH) ?_;refine p1 (bI 0 dG aK) ?_;refine p1 (aJ aB) ?_;refine xc (gW _ _) Tryz.func102 (xa rfl) hfr ?_;refine xd rfl (qT _ _ _ _ (by omega) (by omega)) Tryz.func109 (xb rfl rfl) hfr ?_;refine xm ?_;refine p1 (cK) ?_;refine p1 (cK) ?_;refine p2 (aU (i:=5) cX) ?_;refine p2 (aU (i:=6) cX) ?_;refine p1 (aQ (aK).2) ?_;refine p1 (aQ (aK).2) ?_;refine bV (by kernel_rfl) ?_;refine CV.seq ?_;refine CV.region rfl (fun _=>by kernel_rfl) ?_;refine p1 (aJ aK) ?_;refine p1 (aJ aK) ?_;refine xd rfl (iP _ _ (by omega) (by omega)) Tryz.func105 (xb rfl rfl) hfr ?_;refine p1 (aJ aK) ?_;refine p1 (aJ aK) ?_;refine xd rfl (iP _ _ (by omega) (by omega)) Tryz.func105 (xb rfl rfl) hfr ?_;refine xc (sQ _ _ _ _ (fun _=>(tB a b _ _ _ _ _ _ rfl rfl rfl rfl rfl rfl).1)) Tryz.func101 (xb rfl rfl) hfr ?_;refine p1 (aQ (aB).2) ?_;refine bV (by kernel_rfl) ?_;refine CV.ret ?_;exact aR rfl (.inr rfl) ⟨_,_,_,_,_,rfl,rfl,rfl,aB⟩ (eC (by rw[(tB a b _ _ _ _ _ _ rfl rfl rfl rfl rfl rfl).2]) (by rw[(tB a b _ _ _ _ _ _ rfl rfl rfl rfl rfl rfl).2]) (by omega))
 ·refine xk ?_;refine xk ?_;refine p1 (eI) ?_;refine RV.done ?_;refine CV.no rfl ?_;refine CV.skip ?_;refine CV.seq ?_;refine CV.region rfl (fun _=>by kernel_rfl) ?_;refine p1 (bH dH) ?_;refine p1 (bI 0 dG aK) ?_;refine p1 (aJ aB) ?_;refine xc (gW _ _) Tryz.func102 (xa rfl) hfr ?_;refine xd rfl (qT _ _ _ _ (by omega) (by omega)) Tryz.func109 (xb rfl rfl) hfr ?_;refine xm ?_;refine p1 (cK) ?_;refine p1 (cK) ?_;refine p2 (aU (i:=3) cX) ?_;refine p2 (aU (i:=4) cX) ?_;refine p1 (aQ (aK).2) ?_;refine p1 (aQ (aK).2) ?_;refine bV (by kernel_rfl) ?_;refine CV.seq ?_;refine CV.region rfl (fun _=>by kernel_rfl) ?_;refine p1 (bH dH) ?_;refine p1 (bI 0 dG aK) ?_;refine p1 (aJ aB) ?_;refine xc (gW _ _) Tryz.func102 (xa rfl) hfr ?_;refine xd rfl (qT _ _ _ _ (by omega) (by omega)) Tryz.func109 (xb rfl rfl) hfr ?_;refine xm ?_;refine p1 (cK) ?_;refine p1 (cK) ?_;refine p2 (aU (i:=5) cX) ?_;refine p2 (aU (i:=6) cX) ?_;refine p1 (aQ (aK).2) ?_;refine p1 (aQ (aK).2) ?_;refine bV (by kernel_rfl) ?_;refine CV.seq ?_;refine CV.region rfl (fun _=>by kernel_rfl) ?_;refine p1 (aJ aK) ?_;refine p1 (aJ aK) ?_;refine xd rfl (iP _ _ (by omega) (by omega)) Tryz.func105 (xb rfl rfl) hfr ?_;refine p1 (aJ aK) ?_;refine p1 (aJ aK) ?_;refine xd rfl (iP _ _ (by omega) (by omega)) Tryz.func105 (xb rfl rfl) hfr ?_;refine xc (sQ _ _ _ _ (fun _=>(tB a b _ _ _ _ _ _ rfl rfl rfl rfl rfl rfl).1)) Tryz.func101 (xb rfl rfl) hfr ?_;refine p1 (aQ (aB).2) ?_;refine bV (by kernel_rfl) ?_;refine CV.ret ?_;exact aR rfl (.inr rfl) ⟨_,_,_,_,_,rfl,rfl,rfl,aB⟩ (eC (by rw[(tB a b _ _ _ _ _ _ rfl rfl rfl rfl rfl rfl).2]) (by rw[(tB a b _ _ _ _ _ _ rfl rfl rfl rfl rfl rfl).2]) (by omega))
theorem wG (a:Rat) (k:Nat):aD Tryz.prog 100 [RT a k] (.one (RT (-a) k)):=by
 refine aD.of (n:=9) Tryz.func100 rfl rfl rfl rfl rfl fun cx hfr=>?_;refine sr rfl ?_;refine p2 (cA (i:=0)) ?_;refine p2 (aU (i:=1) bX) ?_;refine RV.done ?_;refine CV.seq ?_;refine CV.region rfl (fun _=>by kernel_rfl) ?_;refine p1 (bH dH) ?_;refine p1 (bI 0 dG aK) ?_;refine xc (aE4 _) Tryz.func138 (xa rfl) hfr ?_;refine p1 (bH mE) ?_;refine p1 (bI 2 oS aK) ?_;refine p1 (tA) ?_;refine p1 (aQ (aB).2) ?_;refine bV (by kernel_rfl) ?_;refine CV.ret ?_;exact aR rfl (.inr rfl) ⟨_,_,_,_,_,rfl,rfl,rfl,aB⟩ (eC (by rw[Rat.neg_num]) (by unfold qd; rw[Rat.neg_den]) (by omega))
theorem aVb (a b:Rat) (j k:Nat) (hj:j<=10000000) (hk:k<=10000000):aD Tryz.prog 152 [RT a j,RT b k] (.one (RT (a-b) (3*(j+k)+20))):=by
 refine aD.of (n:=9) Tryz.func152 rfl rfl rfl rfl rfl fun cx hfr=>?_;refine sr rfl ?_;refine p2 (cA (i:=0)) ?_;refine p2 (cA (i:=1)) ?_;refine p2 (aU (i:=2) bX) ?_;refine RV.done ?_;refine CV.seq ?_;refine CV.region rfl (fun _=>by kernel_rfl) ?_;refine p1 (aJ aB) ?_;refine p1 (aJ aB) ?_;refine xc (wG _ _) Tryz.func100 (xa rfl) hfr ?_;refine xc (tV _ _ _ _ hj hk) Tryz.func56 (xb rfl rfl) hfr ?_;refine p1 (aQ (aB).2) ?_;refine bV (by kernel_rfl) ?_;refine CV.ret ?_;exact aR rfl (.inr rfl) ⟨_,_,_,_,_,rfl,rfl,rfl,aB⟩ (eC (by rw[Rat.sub_eq_add_neg]) (by rw[Rat.sub_eq_add_neg]) (Nat.le_refl _))
theorem aFg (b:Rat):Rat.divInt b.den b.num=b⁻¹:=by rw[<- Rat.inv_divInt,Rat.num_divInt_den]
theorem oO (a b:Rat) (j k:Nat) (hj:j<=1000000) (hk:k<=1000000):aD Tryz.prog 53 [RT a j,RT b k] (.one (RT (a/b) (3*(j+k)+40))):=by
 refine aD.of (n:=12) Tryz.func53 rfl rfl rfl rfl rfl fun cx hfr=>?_;refine sr rfl ?_;refine p2 (cA (i:=0)) ?_;refine p2 (cA (i:=1)) ?_;refine p2 (aU (i:=2) bX) ?_;refine RV.done ?_;refine CV.seq ?_;refine CV.region rfl (fun _=>by kernel_rfl) ?_;refine p1 (aJ aB) ?_;refine p1 (aJ aB) ?_;refine xc (gW _ _) Tryz.func102 (xa rfl) hfr ?_;refine p1 (bH dH) ?_;refine p1 (bI 0 dG aK) ?_;refine xc (sQ _ _ _ _ (fun _=>aYt b)) Tryz.func101 (xb rfl rfl) hfr ?_;refine xd rfl (nT _ _ _ _ (by omega) (by omega)) Tryz.func87 (xb rfl rfl) hfr ?_;refine p1 (aQ (aB).2) ?_;refine bV (by kernel_rfl) ?_;refine CV.ret ?_;exact aR rfl (.inr rfl) ⟨_,_,_,_,_,rfl,rfl,rfl,aB⟩ (eC (by rw[aFg,Rat.div_def]) (by rw[aFg,Rat.div_def]) (by omega))
theorem yR (a:Rat) (k:Nat):aD Tryz.prog 98 [RT a k] (.one (.v (.int .i64 (aY a.num 0)))):=by
 refine aD.of (n:=6) Tryz.func98 rfl rfl rfl rfl rfl fun cx hfr=>?_;refine sr rfl ?_;refine p2 (cA (i:=0)) ?_;refine xn ?_;refine RV.done (sr rfl ?_);refine p1 (bH dH) ?_;refine p1 (bI 0 dG aK) ?_;refine xc (aK6 _) Tryz.func137 (xa rfl) hfr ?_;refine xn ?_;refine RV.done ?_;refine CV.ret ?_;exact aR rfl (.inr rfl) rfl cC
def iC (a b:Rat):Int:=aY (a.num*b.den) (b.num*a.den)
theorem aBu (a b:Rat) (j k:Nat) (hj:j<=10000000) (hk:k<=10000000):aD Tryz.prog 55 [RT a j,RT b k] (.one (.v (.int .i64 (iC a b)))):=by
 refine aD.of (n:=27) Tryz.func55 rfl rfl rfl rfl rfl fun cx hfr=>?_;refine sr rfl ?_;refine p2 (cA (i:=0)) ?_;refine p2 (cA (i:=1)) ?_;refine xn ?_;refine RV.done ?_;refine CV.seq ?_;refine sr rfl ?_;refine p1 (aJ aB) ?_;refine xc (pL _ _ _) Tryz.func103 (xa rfl) hfr ?_;refine xm ?_;refine RV.bool (fun h1=>?_) (fun h1=>?_)
 ·refine y1 (aJ aB) ?_;refine y1 (bR (pL _ _ _) rfl rfl bd Tryz.func103 rfl rfl (xa rfl) rfl hfr rfl) ?_;refine p1 (cZ) ?_;refine RV.done ?_;refine CV.cond rfl (fun h2=>?_) (fun h2=>?_)
  ·refine sr rfl ?_;refine p1 (bH dH) ?_;refine p1 (bI 0 dG aK) ?_;refine p1 (bH dH) ?_;refine p1 (bI 0 dG aK) ?_;refine xc (aB3 _ _) Tryz.func104 (xb rfl rfl) hfr ?_;refine xn ?_;refine RV.done ?_;refine CV.ret ?_;have ha:=pX.1 (by simpa using h1);have hb:=pX.1 (by simpa using h2);exact aR rfl (.inr rfl) rfl (wT (by unfold iC; rw[ha,hb]; simp))
  ·refine CV.skip ?_;refine CV.seq ?_;refine CV.region rfl (fun _=>by kernel_rfl) ?_;refine p1 (bH dH) ?_;refine p1 (bI 0 dG aK) ?_;refine p1 (aJ aB) ?_;refine xc (gW _ _) Tryz.func102 (xa rfl) hfr ?_;refine xd rfl (iP _ _ (by omega) (by omega)) Tryz.func105 (xb rfl rfl) hfr ?_;refine p1 (bH dH) ?_;refine p1 (bI 0 dG aK) ?_;refine p1 (aJ aB) ?_;refine xc (gW _ _) Tryz.func102 (xa rfl) hfr ?_;refine xd rfl (iP _ _ (by omega) (by omega)) Tryz.func105 (xb rfl rfl) hfr ?_;refine xc (aB3 _ _) Tryz.func104 (xb rfl rfl) hfr ?_;refine xn ?_;refine bV (by kernel_rfl) ?_;refine CV.ret ?_;exact aR rfl (.inr rfl) rfl (wT rfl)
 ·refine xk ?_;refine xk ?_;refine p1 (eI) ?_;refine RV.done ?_;refine CV.no rfl ?_;refine CV.skip ?_;refine CV.seq ?_;refine CV.region rfl (fun _=>by kernel_rfl) ?_;refine p1 (bH dH) ?_;refine p1 (bI 0 dG aK) ?_;refine p1 (aJ aB) ?_;refine xc (gW _ _) Tryz.func102 (xa rfl) hfr ?_;refine xd rfl (iP _ _ (by omega) (by omega)) Tryz.func105 (xb rfl rfl) hfr ?_;refine p1 (bH dH) ?_;refine p1 (bI 0 dG aK) ?_;refine p1 (aJ aB) ?_;refine xc (gW _ _) Tryz.func102 (xa rfl) hfr ?_;refine xd rfl (iP _ _ (by omega) (by omega)) Tryz.func105 (xb rfl rfl) hfr ?_;refine xc (aB3 _ _) Tryz.func104 (xb rfl rfl) hfr ?_;refine xn ?_;refine bV (by kernel_rfl) ?_;refine CV.ret ?_;exact aR rfl (.inr rfl) rfl (wT rfl)
theorem aYg {a b:Rat} (h:qd a=qd b):a.den=b.den:=by
 have h1:=xB a;have h2:=xB b;rw[h] at h1;have:=h1.symm.trans h2;omega
theorem aS3 (p q:Int) (j k:Nat) (hj:j<=10000000) (hk:k<=10000000):aD Tryz.prog 110 [.d (Dm.int p j),.d (Dm.int q k)] (.one (RT (Rat.divInt p q) (j+k))):=by
 refine aD.of (n:=11) Tryz.func110 rfl rfl rfl rfl rfl fun cx hfr=>?_;refine sr rfl ?_;refine p2 (cA (i:=0)) ?_;refine p2 (cA (i:=1)) ?_;refine p2 (aU (i:=2) bX) ?_;refine RV.done (sr rfl ?_);refine p1 (aJ aK) ?_;refine p1 (aJ aK) ?_;refine xd rfl (qT _ _ _ _ (by omega) (by omega)) Tryz.func109 (xb rfl rfl) hfr ?_;refine p1 (cK) ?_;refine p1 (cK) ?_;refine xd rfl (sQ _ _ _ _ (fun h=>(aCg p q (fun e=>h (by rw[e,Int.zero_ediv]))).1)) Tryz.func101 (xb rfl rfl) hfr ?_;refine p1 (aQ (aB).2) ?_;refine RV.done ?_;refine CV.ret ?_;have e:Rat.divInt (p/(Int.gcd p q:Nat)) (q/(Int.gcd p q:Nat))=Rat.divInt p q:=aUe p q;exact aR rfl (.inr rfl) ⟨_,_,_,_,_,rfl,rfl,rfl,aB⟩ (eC (by rw[e]) (by rw[e]) (by omega))
theorem oV (p q:Int) (h1 : -9223372036854775808<=p) (h2:p<=9223372036854775807) (h3 : -9223372036854775808<=q) (h4:q<=9223372036854775807):aD Tryz.prog 57 [.v (.int .i64 p),.v (.int .i64 q)] (.one (RT (Rat.divInt p q) 6)):=by
 refine aD.of (n:=10) Tryz.func57 rfl rfl rfl rfl rfl fun cx hfr=>?_;refine sr rfl ?_;refine p2 (aU (i:=0) bX) ?_;refine RV.done (sr rfl ?_);refine xm ?_;refine xc (aFr p h1 h2) Tryz.func111 (xa rfl) hfr ?_;refine xm ?_;refine xc (aFr q h3 h4) Tryz.func111 (xa rfl) hfr ?_;refine xd rfl (aS3 _ _ _ _ (by omega) (by omega)) Tryz.func110 (xb rfl rfl) hfr ?_;refine p1 (aQ (aB).2) ?_;refine RV.done ?_;refine CV.ret ?_;exact aR rfl (.inr rfl) ⟨_,_,_,_,_,rfl,rfl,rfl,aB⟩ cC
theorem aHy (z:Int) {k:Nat}:aD Tryz.prog 144 [.d (Dm.int z k)] (.one (.v (.bool true))) :=
 aKt fun vx w h=>vW vx z w h
theorem aQx (a:Rat) (k:Nat) (hk:k<=10000000):aD Tryz.prog 114 [RT a k] (.one (.v (.bool true))):=by
 refine aD.of (n:=35) Tryz.func114 rfl rfl rfl rfl rfl fun cx hfr=>?_;refine sr rfl ?_;refine p2 (cA (i:=0)) ?_;refine xn ?_;refine RV.done ?_;refine CV.seq ?_;refine sr rfl ?_;refine p1 (bH dH) ?_;refine p1 (bI 0 dG aK) ?_;refine xc (aHy _) Tryz.func144 (xa rfl) hfr ?_;refine p1 (lL) ?_;refine xm ?_;refine y1 (bH mE) ?_;refine y1 (bI 2 oS aK) ?_;refine y1 (bR (aHy _) rfl rfl bd Tryz.func144 rfl rfl (xa rfl) rfl hfr rfl) ?_;refine y1 (lL) ?_;refine p1 (eI) ?_;refine RV.done ?_;refine CV.no rfl ?_;refine CV.skip ?_;refine sr rfl ?_;refine p1 (aJ aB) ?_;refine xc (pL _ _ _) Tryz.func103 (xa rfl) hfr ?_;refine xm ?_;refine RV.bool (fun h1=>?_) (fun h1=>?_)
 ·refine xk ?_;refine xk ?_;refine xk ?_;refine xk ?_;refine xk ?_;refine eJ (nM rfl rfl rfl rfl bd) ?_;refine eJ (nM rfl rfl rfl rfl bd) ?_;refine eJ (nM rfl rfl rfl rfl bd) ?_;refine eJ (nM rfl rfl rfl rfl bd) ?_;refine xk ?_;refine xk ?_;refine eJ (nM rfl rfl rfl rfl bd) ?_;refine eJ (nM rfl rfl rfl rfl bd) ?_;refine eJ (nM rfl rfl rfl rfl bd) ?_;refine eJ (nM rfl rfl rfl rfl bd) ?_;refine eJ (nM rfl rfl rfl rfl bd) ?_;refine eJ (nM rfl rfl rfl rfl bd) ?_;refine xk ?_;refine p1 (cZ) ?_;refine xn ?_;refine RV.done ?_;refine CV.ret ?_;exact aR rfl (.inr rfl) rfl cC
 ·refine y1 (bH mE) ?_;refine y1 (bH aAd) ?_;refine y1 (bI 2 aUl zN) ?_;refine y1 (lL) ?_;refine y1 (cE (.inl rfl)) ?_;refine RV.bool (fun hb=>?_) (fun hb=>False.elim (by have:=(aNt a).1; simp at hb; omega));refine y1 (bH mE) ?_;refine y1 (bI 2 oS aK) ?_;refine y1 (bR (tD _ _) rfl rfl bd Tryz.func139 rfl rfl (xa rfl) rfl hfr rfl) ?_;refine y1 (lL) ?_;refine y1 (cZ) ?_;refine y1 (cE (.inl rfl)) ?_;refine RV.bool (fun hb=>?_) (fun hb=>False.elim (by have:=(aNt a).2; simp at hb; omega));refine y1 (bH dH) ?_;refine y1 (bI 0 dG aK) ?_;refine y1 (bH mE) ?_;refine y1 (bI 2 oS aK) ?_;refine y1 (bR (aAh _ _ (by omega) (by omega)) rfl rfl bd Tryz.func107 rfl rfl (xb rfl rfl) rfl hfr rfl) ?_;refine y1 (bR (tD _ _) rfl rfl bd Tryz.func139 rfl rfl (xa rfl) rfl hfr rfl) ?_;refine y1 (cZ) ?_;refine p1 (eI) ?_;refine xn ?_;refine RV.done ?_;refine CV.ret ?_;have h5:¬ qd a=0:=by simpa using h1
  refine aR rfl (.inr rfl) rfl (gA ?_);rw[decide_eq_true_eq,show qd a=(a.den:Int) from by rw[<- xB a,if_neg h5],red a];rfl
theorem aJu (z:Int) (k:Nat):aD Tryz.prog 121 [.d (Dm.int z k)] (.one (.v (.bool (decide (z=1))))):=by
 refine aD.of (n:=16) Tryz.func121 rfl rfl rfl rfl rfl fun cx hfr=>?_;refine sr rfl ?_;refine p2 (cA (i:=0)) ?_;refine xn ?_;refine RV.done ?_;refine CV.seq ?_;refine sr rfl ?_;refine p1 (bH aAd) ?_;refine p1 (bI 0 aEq zN) ?_;refine xm ?_;refine RV.bool (fun h1=>?_) (fun h1=>?_)
 ·refine xk ?_;refine xk ?_;refine xk ?_;refine xk ?_;refine p1 (cZ) ?_;refine RV.done ?_;refine CV.yes rfl ?_;refine sr rfl ?_;refine xn ?_;refine RV.done ?_;refine CV.ret ?_;refine aR rfl (.inr rfl) rfl (gA ?_);rw[eq_comm,decide_eq_false_iff_not];simp at h1;omega
 ·refine y1 (bH oU) ?_;refine y1 (bI 1 rU oP) ?_;refine y1 (rY) ?_;refine y1 (rX) ?_;refine p1 (eI) ?_;refine RV.done ?_;refine CV.cond rfl (fun h2=>?_) (fun h2=>?_)
  ·refine sr rfl ?_;refine xn ?_;refine RV.done ?_;refine CV.ret ?_;refine aR rfl (.inr rfl) rfl (gA ?_);rw[eq_comm,decide_eq_false_iff_not];rintro rfl;cases h2
  ·refine CV.skip ?_;refine sr rfl ?_;refine p1 (bH oU) ?_;refine p1 (bI 1 rU oP) ?_;refine p1 (aM2 (i:=0) (by simp at h2; omega) rfl rfl bd rfl rfl) ?_;refine p1 (aJ4 rfl rfl bd rfl) ?_;refine p1 (cR) ?_;refine xn ?_;refine RV.done ?_;refine CV.ret ?_;refine aR rfl (.inr rfl) rfl (gA ?_);rw[aLl (by simp at h2; omega),Bool.eq_iff_iff];simp at h1 |-;omega
theorem aTu (p q:Int) (k:Nat):aD Tryz.prog 62 [.d (Dm.rt p q k)] (.one (.d (Dm.int (if q=0 then 1 else q) (k+3)))):=by
 refine aD.of (n:=11) Tryz.func62 rfl rfl rfl rfl rfl fun cx hfr=>?_;refine sr rfl ?_;refine p2 (cA (i:=0)) ?_;refine p2 (aU (i:=1) cX) ?_;refine RV.done ?_;refine CV.seq ?_;refine sr rfl ?_;refine p1 (bH mE) ?_;refine p1 (bH oU) ?_;refine p1 (bI 3 aKj oP) ?_;refine p1 (rY) ?_;refine p1 (cR) ?_;refine RV.done ?_;refine CV.cond rfl (fun hc=>?_) (fun hc=>?_)
 ·refine sr rfl ?_;refine xd rfl (aEj _ (by decide) (by decide)) Tryz.func74 (xa rfl) hfr ?_;refine p1 (aQ (aK).2) ?_;refine RV.done ?_;refine CV.ret ?_;rw[nJ] at hc;exact aR rfl (.inr rfl) ⟨_,_,_,_,_,rfl,rfl,rfl,aK⟩ (rT (by rw[if_pos (by simpa using hc)]) (by omega))
 ·refine CV.skip ?_;refine sr rfl ?_;refine p1 (bH mE) ?_;refine p1 (bI 2 oS aK) ?_;refine p1 (aQ (aK).2) ?_;refine RV.done ?_;refine CV.ret ?_;rw[nJ] at hc;exact aR rfl (.inr rfl) ⟨_,_,_,_,_,rfl,rfl,rfl,aK⟩ (rT (by rw[if_neg (by simpa using hc)]) (by omega))
theorem pP (a:Rat) (k:Nat):aD Tryz.prog 62 [RT a k] (.one (.d (Dm.int a.den (k+3)))):=by
 have h:=aTu a.num (qd a) k;rwa[xB] at h
theorem aGi (q:Int):(Rat.divInt 0 q).num=0/\qd (Rat.divInt 0 q)=0:=by
 rw[Rat.zero_divInt];exact⟨rfl,rfl⟩
theorem wC (p q:Int) (hq:q≠0):(Rat.divInt p q).num=(q/(Int.gcd p q:Nat)).sign*(p/(Int.gcd p q:Nat))/\qd (Rat.divInt p q)=(if (q/(Int.gcd p q:Nat)).natAbs=1 then 0 else ((q/(Int.gcd p q:Nat)).natAbs:Int)):=by
 obtain⟨h1,h2⟩:=aCg p q hq;have h3:q/(Int.gcd p q:Nat)≠0:=by
  intro e;have d2:((Int.gcd p q:Nat):Int) ∣ q:=Int.gcd_dvd_right ..;have:=Int.ediv_mul_cancel d2;rw[e,Int.zero_mul] at this;exact hq this.symm
 rw[<- h2];exact⟨pY h1,wQ h1 h3⟩
theorem yK (p q:Int) (j k:Nat) (hj:j<=10000000) (hk:k<=10000000):aD Tryz.prog 72 [.d (Dm.int p j),.d (Dm.int q k)] (.one (RT (Rat.divInt p q) (j+k))):=by
 refine aD.of (n:=49) Tryz.func72 rfl rfl rfl rfl rfl fun cx hfr=>?_;refine sr rfl ?_;refine p2 (cA (i:=0)) ?_;refine p2 (cA (i:=1)) ?_;refine p2 (aU (i:=2) bX) ?_;refine RV.done ?_;refine CV.seq ?_;refine sr rfl ?_;refine p1 (bH oU) ?_;refine p1 (bI 1 rU oP) ?_;refine p1 (rY) ?_;refine p1 (cR) ?_;refine xm ?_;refine RV.bool (fun h1=>?_) (fun h1=>?_)
 ·refine xk ?_;refine xk ?_;refine xk ?_;refine xk ?_;refine p1 (cZ) ?_;refine RV.done ?_;refine CV.yes rfl ?_;refine sr rfl ?_;refine p1 (rD) ?_;refine p1 (aQ (aB).2) ?_;refine RV.done ?_;refine CV.ret ?_;rw[nJ] at h1;obtain rfl:q=0:=by simpa using h1
  exact aR rfl (.inr rfl) ⟨_,_,_,_,_,rfl,rfl,rfl,aB⟩ (eC (vK p).1.symm (vK p).2.symm (by omega))
 ·refine y1 (bH oU) ?_;refine y1 (bI 1 rU oP) ?_;refine y1 (rY) ?_;refine y1 (cR) ?_;refine p1 (eI) ?_;refine RV.done ?_;refine CV.cond rfl (fun h2=>?_) (fun h2=>?_)
  ·refine sr rfl ?_;refine p1 (rD) ?_;refine p1 (aQ (aB).2) ?_;refine RV.done ?_;refine CV.ret ?_;rw[nJ] at h2;obtain rfl:p=0:=by simpa using h2
   exact aR rfl (.inr rfl) ⟨_,_,_,_,_,rfl,rfl,rfl,aB⟩ (eC (aGi q).1.symm (aGi q).2.symm (by omega))
  ·refine CV.skip ?_;refine sr rfl ?_;refine p1 (aJ aK) ?_;refine p1 (aJ aK) ?_;refine xd rfl (aTt _ _ (by omega) (by omega)) Tryz.func119 (xb rfl rfl) hfr ?_;refine p2 (aU (i:=3) cX) ?_;refine p1 (aQ (aK).2) ?_;refine RV.done (sr rfl ?_);refine p1 (aJ aK) ?_;refine p1 (aJ aK) ?_;refine xd rfl (aJv _ _ (by omega) (by omega)) Tryz.func120 (xb rfl rfl) hfr ?_;refine xm ?_;refine p1 (cK) ?_;refine p1 (cK) ?_;refine p2 (aU (i:=4) cX) ?_;refine p2 (aU (i:=5) cX) ?_;refine p1 (aQ (aK).2) ?_;refine p1 (aQ (aK).2) ?_;refine RV.done (sr rfl ?_);refine p1 (aJ aK) ?_;refine p1 (aJ aK) ?_;refine xd rfl (aJv _ _ (by omega) (by omega)) Tryz.func120 (xb rfl rfl) hfr ?_;refine xm ?_;refine p1 (cK) ?_;refine p1 (cK) ?_;refine p2 (aU (i:=6) cX) ?_;refine p2 (aU (i:=7) cX) ?_;refine p1 (aQ (aK).2) ?_;refine p1 (aQ (aK).2) ?_;refine RV.done ?_;refine CV.seq ?_;refine sr rfl ?_;refine p1 (bH aAd) ?_;refine p1 (bI 0 aEq zN) ?_;refine RV.done ?_;refine CV.cond rfl (fun h3=>?_) (fun h3=>?_)
   ·refine sr rfl ?_;refine p1 (aJ aK) ?_;refine xc (aDc _) Tryz.func63 (xa rfl) hfr ?_;refine p1 (aQ (aK).2) ?_;refine RV.done ?_;refine CV.region rfl (fun h=>nomatch h) ?_;refine p1 (aJ aK) ?_;refine xc (aDc _) Tryz.func63 (xa rfl) hfr ?_;refine p1 (aQ (aK).2) ?_;refine RV.done ?_;refine CV.seq ?_;refine sr rfl ?_;refine p1 (aJ aK) ?_;refine xc (aJu _ _) Tryz.func121 (xa rfl) hfr ?_;refine RV.done ?_;refine CV.cond rfl (fun h4=>?_) (fun h4=>?_)
    ·refine sr rfl ?_;refine p1 (aJ aK) ?_;refine p1 (rC) ?_;refine p1 (aQ (aB).2) ?_;refine RV.done ?_;refine CV.ret ?_;rw[nJ] at h1;have hq:q≠0:=by simpa using h1
     obtain⟨e1,e2⟩:=wC p q hq;have h3:q/(Int.gcd p q:Nat)<0:=by simpa using h3
     have h4 : -(q/(Int.gcd p q:Nat))=1:=by simpa using h4
     exact aR rfl (.inr rfl) ⟨_,_,_,_,_,rfl,rfl,rfl,aB⟩ (eC (by rw[e1,Int.sign_eq_neg_one_of_neg h3]; omega) (by rw[e2,if_pos (by omega)]) (by omega))
    ·refine CV.skip ?_;refine sr rfl ?_;refine p1 (aJ aK) ?_;refine p1 (aJ aK) ?_;refine p1 (tA) ?_;refine p1 (aQ (aB).2) ?_;refine RV.done ?_;refine CV.ret ?_;rw[nJ] at h1;have hq:q≠0:=by simpa using h1
     obtain⟨e1,e2⟩:=wC p q hq;have h3:q/(Int.gcd p q:Nat)<0:=by simpa using h3
     have h4:¬ -(q/(Int.gcd p q:Nat))=1:=by simpa using h4
     exact aR rfl (.inr rfl) ⟨_,_,_,_,_,rfl,rfl,rfl,aB⟩ (eC (by rw[e1,Int.sign_eq_neg_one_of_neg h3]; omega) (by rw[e2,if_neg (by omega)]; omega) (by omega))
   ·refine CV.skip ?_;refine CV.seq ?_;refine sr rfl ?_;refine p1 (aJ aK) ?_;refine xc (aJu _ _) Tryz.func121 (xa rfl) hfr ?_;refine RV.done ?_;refine CV.cond rfl (fun h4=>?_) (fun h4=>?_)
    ·refine sr rfl ?_;refine p1 (aJ aK) ?_;refine p1 (rC) ?_;refine p1 (aQ (aB).2) ?_;refine RV.done ?_;refine CV.ret ?_;rw[nJ] at h1;have hq:q≠0:=by simpa using h1
     obtain⟨e1,e2⟩:=wC p q hq;have h3:¬ q/(Int.gcd p q:Nat)<0:=by simpa using h3
     have h4:q/(Int.gcd p q:Nat)=1:=by simpa using h4
     exact aR rfl (.inr rfl) ⟨_,_,_,_,_,rfl,rfl,rfl,aB⟩ (eC (by rw[e1,h4]; simp) (by rw[e2,h4]; rfl) (by omega))
    ·refine CV.skip ?_;refine sr rfl ?_;refine p1 (aJ aK) ?_;refine p1 (aJ aK) ?_;refine p1 (tA) ?_;refine p1 (aQ (aB).2) ?_;refine RV.done ?_;refine CV.ret ?_;rw[nJ] at h1;have hq:q≠0:=by simpa using h1
     obtain⟨e1,e2⟩:=wC p q hq;have h3:¬ q/(Int.gcd p q:Nat)<0:=by simpa using h3
     have h4:¬ q/(Int.gcd p q:Nat)=1:=by simpa using h4
     have h5:q/(Int.gcd p q:Nat)≠0:=fun e=>hq (by have d2:((Int.gcd p q:Nat):Int) ∣ q:=Int.gcd_dvd_right .. ; have:=Int.ediv_mul_cancel d2; rw[e,Int.zero_mul] at this; exact this.symm);exact aR rfl (.inr rfl) ⟨_,_,_,_,_,rfl,rfl,rfl,aB⟩ (eC (by rw[e1,Int.sign_eq_one_of_pos (by omega)]; omega) (by rw[e2,if_neg (by omega)]; omega) (by omega))
theorem nR (p q:Int) (h1 : -9223372036854775808<=p) (h2:p<=9223372036854775807) (h3 : -9223372036854775808<=q) (h4:q<=9223372036854775807):aD Tryz.prog 32 [.v (.int .i64 p),.v (.int .i64 q)] (.one (RT (Rat.divInt p q) 6)):=by
 refine aD.of (n:=10) Tryz.func32 rfl rfl rfl rfl rfl fun cx hfr=>?_;refine sr rfl ?_;refine p2 (aU (i:=0) bX) ?_;refine RV.done (sr rfl ?_);refine xm ?_;refine xc (aEj p h1 h2) Tryz.func74 (xa rfl) hfr ?_;refine xm ?_;refine xc (aEj q h3 h4) Tryz.func74 (xa rfl) hfr ?_;refine xd rfl (yK _ _ _ _ (by omega) (by omega)) Tryz.func72 (xb rfl rfl) hfr ?_;refine p1 (aQ (aB).2) ?_;refine RV.done ?_;refine CV.ret ?_;exact aR rfl (.inr rfl) ⟨_,_,_,_,_,rfl,rfl,rfl,aB⟩ cC
theorem aG7 (a b:Rat) (j k:Nat):aD Tryz.prog 18 [RT a j,RT b k] (.one (.v (.bool (decide (a=b))))):=by
 refine aD.of (n:=17) Tryz.func18 rfl rfl rfl rfl rfl fun cx hfr=>?_;refine sr rfl ?_;refine p2 (cA (i:=0)) ?_;refine p2 (cA (i:=1)) ?_;refine xn ?_;refine RV.done (sr rfl ?_);refine p1 (bH dH) ?_;refine p1 (bI 0 dG aK) ?_;refine p1 (bH dH) ?_;refine p1 (bI 0 dG aK) ?_;refine xc (aIa _ _) Tryz.func50 (xb rfl rfl) hfr ?_;refine xm ?_;refine RV.bool (fun h1=>?_) (fun h1=>?_)
 ·refine y1 (bH mE) ?_;refine y1 (bI 2 oS aK) ?_;refine y1 (bH mE) ?_;refine y1 (bI 2 oS aK) ?_;refine y1 (bR (aIa _ _) rfl rfl bd Tryz.func50 rfl rfl (xb rfl rfl) rfl hfr rfl) ?_;refine p1 (cZ) ?_;refine xn ?_;refine RV.done ?_;refine CV.ret ?_;have e1:a.num=b.num:=by simpa using h1
  refine aR rfl (.inr rfl) rfl (gA ?_);rw[Bool.eq_iff_iff,decide_eq_true_eq,decide_eq_true_eq];exact⟨fun e2=>Rat.ext e1 (aYg e2),fun e=>by rw[e]⟩
 ·refine xk ?_;refine xk ?_;refine xk ?_;refine xk ?_;refine xk ?_;refine p1 (eI) ?_;refine xn ?_;refine RV.done ?_;refine CV.ret ?_;have e2:¬ a.num=b.num:=by simpa using h1
  exact aR rfl (.inr rfl) rfl (gA (by rw[eq_comm,decide_eq_false_iff_not]; rintro rfl; exact e2 rfl))
theorem aN7 (zs:List Int) (i:Nat) (m:Int) (hm:1<=m) (hm2:m<=9223372036854775807):aD Tryz.prog 41 [.d (Dm.ints zs),.v (.int .i64 (i:Int)),.v (.int .i64 m)] (.one (.v (.int .i64 (iJ zs i m)))):=by
 have h:=aYd zs (i:Int) m (by omega) hm hm2;rwa[Int.toNat_natCast] at h
end Vc
end Go.Proofs.YtjmbkipbmbnhjaaGreat

namespace Go.Proofs.YtjmbkipbmbnhjaaGreat
open Dg Zn
namespace Vc
theorem aE1 (a b:Rat):iC a b=if a<b then -1 else if b<a then 1 else 0:=by
 unfold iC aY;simp only[Rat.lt_iff]
theorem aUy (a b c:Rat):iC (a+c) (b+c)=iC a b:=by
 rw[aE1,aE1];grind
theorem aUx (a:Rat):aY a.num 0=iC a 0:=by
 unfold iC;simp
theorem aBv (z:Int):(Rat.divInt z 1).num=z/\((Rat.divInt z 1).den:Int)=1:=by
 have hg:Int.gcd z 1=1:=Int.gcd_one_right z;refine⟨by rw[pY hg]; simp,?_⟩;rw[zX hg (by decide)];rfl
end Vc
end Go.Proofs.YtjmbkipbmbnhjaaGreat

namespace Go.Proofs.YtjmbkipbmbnhjaaGreat
open Go.RowKit
open Go.Lib (hid)
open Dg Zn
namespace Vc
set_option maxRecDepth 100000
section
variable {P:Program} {cx:Cx Dm} {n:Nat} {σ:St Dm} {o:Oper} {d:Nat} {x y:Operand} {T T':TypeId} {k:IntKind} {a b:Int}
theorem rR (h:a=b) (ho:o.op=.binOp .eql T x y T') (hd:o.dst=some d) (hn:d<n) (hx:opd σ x=.av (.one (.v (.int k a)))) (hy:opd σ y=.av (.one (.v (.int k b)))):aM P cx n σ o (bE x++bE y) [(.s d,.av (.one (.v (.bool true))))]:=by
 have:=cR (P:=P) (cx:=cx) ho hd hn hx hy;rwa[h,beq_self_eq_true] at this
theorem aLm (h:a=b) (ho:o.op=.binOp .neq T x y T') (hd:o.dst=some d) (hn:d<n) (hx:opd σ x=.av (.one (.v (.int k a)))) (hy:opd σ y=.av (.one (.v (.int k b)))):aM P cx n σ o (bE x++bE y) [(.s d,.av (.one (.v (.bool false))))]:=by
 have:=rX (P:=P) (cx:=cx) ho hd hn hx hy;rwa[h,bne_self_eq_false] at this
end
theorem aHs (a b:Rat):Rat.divInt (a.num*b.den+b.num*a.den) (a.den*b.den)=a+b:=by
 rw[<- Rat.divInt_add_divInt a.num b.num (qI a) (qI b),Rat.num_divInt_den,Rat.num_divInt_den]
theorem aHq (a b:Rat):Rat.divInt (a.num*b.num) (a.den*b.den)=a*b:=by
 rw[<- Rat.divInt_mul_divInt,Rat.num_divInt_den,Rat.num_divInt_den]
theorem aHr (a b:Rat):Rat.divInt (a.num*b.den) (a.den*b.num)=a/b:=by
 rw[<- Rat.divInt_mul_divInt,Rat.num_divInt_den,aFg,Rat.div_def]
theorem yJ (a b:Rat) (j k:Nat) (hj:j<=1000000) (hk:k<=1000000):aD Tryz.prog 31 [RT a j,RT b k] (.one (RT (a+b) (3*(j+k)+20))):=by
 refine aD.of (n:=26) Tryz.func31 rfl rfl rfl rfl rfl fun cx hfr=>?_;refine sr rfl ?_;refine p2 (cA (i:=0)) ?_;refine p2 (cA (i:=1)) ?_;refine p2 (aU (i:=2) bX) ?_;refine RV.done ?_;refine CV.seq ?_;refine CV.region rfl (fun _=>by kernel_rfl) ?_;refine p1 (bH dH) ?_;refine p1 (bI 0 dG aK) ?_;refine p1 (aJ aB) ?_;refine xc (pP _ _) Tryz.func62 (xa rfl) hfr ?_;refine xd rfl (rH _ _ (by omega) (by omega)) Tryz.func61 (xb rfl rfl) hfr ?_;refine p2 (aU (i:=3) cX) ?_;refine p1 (aQ (aK).2) ?_;refine bV (by kernel_rfl) ?_;refine CV.seq ?_;refine CV.region rfl (fun _=>by kernel_rfl) ?_;refine p1 (bH dH) ?_;refine p1 (bI 0 dG aK) ?_;refine p1 (aJ aB) ?_;refine xc (pP _ _) Tryz.func62 (xa rfl) hfr ?_;refine xd rfl (rH _ _ (by omega) (by omega)) Tryz.func61 (xb rfl rfl) hfr ?_;refine p2 (aU (i:=4) cX) ?_;refine p1 (aQ (aK).2) ?_;refine bV (by kernel_rfl) ?_;refine CV.seq ?_;refine CV.region rfl (fun _=>by kernel_rfl) ?_;refine p1 (aJ aK) ?_;refine p1 (aJ aK) ?_;refine xd rfl (aTv _ _ (by omega) (by omega)) Tryz.func73 (xb rfl rfl) hfr ?_;refine p1 (aJ aB) ?_;refine xc (pP _ _) Tryz.func62 (xa rfl) hfr ?_;refine p1 (aJ aB) ?_;refine xc (pP _ _) Tryz.func62 (xa rfl) hfr ?_;refine xd rfl (rH _ _ (by omega) (by omega)) Tryz.func61 (xb rfl rfl) hfr ?_;refine xd rfl (yK _ _ _ _ (by omega) (by omega)) Tryz.func72 (xb rfl rfl) hfr ?_;refine p1 (aQ (aB).2) ?_;refine bV (by kernel_rfl) ?_;refine CV.ret ?_;exact aR rfl (.inr rfl) ⟨_,_,_,_,_,rfl,rfl,rfl,aB⟩ (eC (by rw[aHs]) (by rw[aHs]) (by omega))
theorem aH7 (a:Rat) (k:Nat):aD Tryz.prog 24 [RT a k] (.one (RT (-a) k)):=by
 refine aD.of (n:=9) Tryz.func24 rfl rfl rfl rfl rfl fun cx hfr=>?_;refine sr rfl ?_;refine p2 (cA (i:=0)) ?_;refine p2 (aU (i:=1) bX) ?_;refine RV.done ?_;refine CV.seq ?_;refine CV.region rfl (fun _=>by kernel_rfl) ?_;refine p1 (bH dH) ?_;refine p1 (bI 0 dG aK) ?_;refine xc (aDc _) Tryz.func63 (xa rfl) hfr ?_;refine p1 (bH mE) ?_;refine p1 (bI 2 oS aK) ?_;refine p1 (tA) ?_;refine p1 (aQ (aB).2) ?_;refine bV (by kernel_rfl) ?_;refine CV.ret ?_;exact aR rfl (.inr rfl) ⟨_,_,_,_,_,rfl,rfl,rfl,aB⟩ (eC (by rw[Rat.neg_num]) (by unfold qd; rw[Rat.neg_den]) (by omega))
theorem yI (a b:Rat) (j k:Nat) (hj:j<=1000000) (hk:k<=1000000):aD Tryz.prog 36 [RT a j,RT b k] (.one (RT (a-b) (3*(j+k)+20))):=by
 refine aD.of (n:=9) Tryz.func36 rfl rfl rfl rfl rfl fun cx hfr=>?_;refine sr rfl ?_;refine p2 (cA (i:=0)) ?_;refine p2 (cA (i:=1)) ?_;refine p2 (aU (i:=2) bX) ?_;refine RV.done ?_;refine CV.seq ?_;refine CV.region rfl (fun _=>by kernel_rfl) ?_;refine p1 (aJ aB) ?_;refine p1 (aJ aB) ?_;refine xc (aH7 _ _) Tryz.func24 (xa rfl) hfr ?_;refine xd rfl (yJ _ _ _ _ (by omega) (by omega)) Tryz.func31 (xb rfl rfl) hfr ?_;refine p1 (aQ (aB).2) ?_;refine bV (by kernel_rfl) ?_;refine CV.ret ?_;exact aR rfl (.inr rfl) ⟨_,_,_,_,_,rfl,rfl,rfl,aB⟩ (eC (by rw[Rat.sub_eq_add_neg]) (by rw[Rat.sub_eq_add_neg]) (by omega))
theorem aCu (a b:Rat) (j k:Nat) (hj:j<=1000000) (hk:k<=1000000):aD Tryz.prog 89 [RT a j,RT b k] (.one (RT (a*b) (3*(j+k)+20))):=by
 refine aD.of (n:=16) Tryz.func89 rfl rfl rfl rfl rfl fun cx hfr=>?_;refine sr rfl ?_;refine p2 (cA (i:=0)) ?_;refine p2 (cA (i:=1)) ?_;refine p2 (aU (i:=2) bX) ?_;refine RV.done ?_;refine CV.seq ?_;refine CV.region rfl (fun _=>by kernel_rfl) ?_;refine p1 (bH dH) ?_;refine p1 (bI 0 dG aK) ?_;refine p1 (bH dH) ?_;refine p1 (bI 0 dG aK) ?_;refine xd rfl (rH _ _ (by omega) (by omega)) Tryz.func61 (xb rfl rfl) hfr ?_;refine p1 (aJ aB) ?_;refine xc (pP _ _) Tryz.func62 (xa rfl) hfr ?_;refine p1 (aJ aB) ?_;refine xc (pP _ _) Tryz.func62 (xa rfl) hfr ?_;refine xd rfl (rH _ _ (by omega) (by omega)) Tryz.func61 (xb rfl rfl) hfr ?_;refine xd rfl (yK _ _ _ _ (by omega) (by omega)) Tryz.func72 (xb rfl rfl) hfr ?_;refine p1 (aQ (aB).2) ?_;refine bV (by kernel_rfl) ?_;refine CV.ret ?_;exact aR rfl (.inr rfl) ⟨_,_,_,_,_,rfl,rfl,rfl,aB⟩ (eC (by rw[aHq]) (by rw[aHq]) (by omega))
theorem aH8 (a b:Rat) (j k:Nat) (hj:j<=1000000) (hk:k<=1000000):aD Tryz.prog 58 [RT a j,RT b k] (.one (RT (a/b) (3*(j+k)+20))):=by
 refine aD.of (n:=16) Tryz.func58 rfl rfl rfl rfl rfl fun cx hfr=>?_;refine sr rfl ?_;refine p2 (cA (i:=0)) ?_;refine p2 (cA (i:=1)) ?_;refine p2 (aU (i:=2) bX) ?_;refine RV.done ?_;refine CV.seq ?_;refine CV.region rfl (fun _=>by kernel_rfl) ?_;refine p1 (bH dH) ?_;refine p1 (bI 0 dG aK) ?_;refine p1 (aJ aB) ?_;refine xc (pP _ _) Tryz.func62 (xa rfl) hfr ?_;refine xd rfl (rH _ _ (by omega) (by omega)) Tryz.func61 (xb rfl rfl) hfr ?_;refine p1 (aJ aB) ?_;refine xc (pP _ _) Tryz.func62 (xa rfl) hfr ?_;refine p1 (bH dH) ?_;refine p1 (bI 0 dG aK) ?_;refine xd rfl (rH _ _ (by omega) (by omega)) Tryz.func61 (xb rfl rfl) hfr ?_;refine xd rfl (yK _ _ _ _ (by omega) (by omega)) Tryz.func72 (xb rfl rfl) hfr ?_;refine p1 (aQ (aB).2) ?_;refine bV (by kernel_rfl) ?_;refine CV.ret ?_;exact aR rfl (.inr rfl) ⟨_,_,_,_,_,rfl,rfl,rfl,aB⟩ (eC (by rw[aHr]) (by rw[aHr]) (by omega))
theorem aRn (x:Int) (k:Nat):aD Tryz.prog 85 [.d (Dm.int x k)] (.one (.v (.int .i64 (aY x 0)))):=by
 refine aD.of (n:=6) Tryz.func85 rfl rfl rfl rfl rfl fun cx hfr=>?_;refine sr rfl ?_;refine p2 (cA (i:=0)) ?_;refine xn ?_;refine RV.done (sr rfl ?_);refine p1 (aJ aK) ?_;refine p1 (aCz rfl rfl bd) ?_;refine xc (aOz _ _) Tryz.func60 (xb rfl rfl) hfr ?_;refine xn ?_;refine RV.done ?_;refine CV.ret ?_;exact aR rfl (.inr rfl) rfl (wT rfl)
theorem aB9 (a:Rat) (k:Nat):aD Tryz.prog 37 [RT a k] (.one (.v (.int .i64 (aY a.num 0)))):=by
 refine aD.of (n:=6) Tryz.func37 rfl rfl rfl rfl rfl fun cx hfr=>?_;refine sr rfl ?_;refine p2 (cA (i:=0)) ?_;refine xn ?_;refine RV.done (sr rfl ?_);refine p1 (bH dH) ?_;refine p1 (bI 0 dG aK) ?_;refine xc (aRn _ _) Tryz.func85 (xa rfl) hfr ?_;refine xn ?_;refine RV.done ?_;refine CV.ret ?_;exact aR rfl (.inr rfl) rfl (wT rfl)
section
variable {cx:Cx Dm} {n:Nat} {σ:St Dm} {o:Oper} {d t:Nat} {x y:Operand} {T T':TypeId}
end
set_option linter.unusedSectionVars false
inductive aAw (B:Nat):Int->Int->Int->Int->Int->Int->Prop where
 | whole {a b c d:Int}:a%b=0->b≠0->len (a/b)<=B->aAw B a b c d (a/b) 1
 | next {a b c d:Int}:a%b≠0->b≠0->d≠0->a/b<c/d->len (a/b+1)<=B->aAw B a b c d (a/b+1) 1
 | step {a b c d q p:Int}:a%b≠0->b≠0->d≠0->¬ a/b<c/d->aAw B d (c%d) b (a%b) q p->len (a/b*q+p)<=B->len q<=B->aAw B a b c d (a/b*q+p) q
section
variable (a b c d:Int) (j1 j2 j3 j4 B:Nat) (hj1:j1<=1000000) (hj2:j2<=1000000) (hj3:j3<=1000000) (hj4:j4<=1000000) (hB1:1<=B) (hB:B<=1000000)
include hj1 hj2 hj3 hj4 hB1 hB
end
end Vc
end Go.Proofs.YtjmbkipbmbnhjaaGreat

namespace Go.Proofs.YtjmbkipbmbnhjaaGreat
open Go.RowKit
open Go.Lib (hid)
open Dg Zn
namespace Vc
end Vc
end Go.Proofs.YtjmbkipbmbnhjaaGreat
