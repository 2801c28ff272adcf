/-
  
-/
import Derived.Test.YtbaihklbefhgdaaGreatSC11
import Derived.Test.YtbaihklbefhgdaaGreatSC33
import Derived.IntWalk
import Derived.Test.YtbaihklbefhgdaaGreatSC32
import Derived.Test.YtbaihklbefhgdaaGreatSC22
import Derived.Test.YtbaihklbefhgdaaGreatSC24
set_option linter.unusedVariables false
set_option linter.unusedSimpArgs false
set_option linter.unusedSectionVars false
namespace Go.Proofs.YtbaihklbefhgdaaGreat
open Go.RowKit
open Go.Lib (hid)
open Dg Zn
namespace Vc
set_option maxRecDepth 100000
theorem bV {z:Int} (h1 : -9223372036854775808<=z) (h2:z<=9223372036854775807):IntKind.i64.wrap z=z:=IntWalk.i64_in _ (by omega)
theorem aS0 (x:Int) (j k:Nat):aD Tryz.prog 168 [.d (Dm.int x j),.d (Dm.int 0 k)] (.tup [.d (Dm.int 0 j),.d (Dm.int 0 k)]):=by
 refine aD.of (n:=58) Tryz.func168 rfl rfl rfl rfl rfl fun cx hfr=>?_;refine sr rfl ?_;refine p2 (cC (i:=0)) ?_;refine p2 (cC (i:=1)) ?_;refine p2 (aU (i:=2) dC) ?_;refine p2 (aU (i:=3) dC) ?_;refine RV.done ?_;refine CV.seq ?_;refine sr rfl ?_;refine p1 (bJ pO) ?_;refine p1 (bM 1 sL pF) ?_;refine p1 (sN) ?_;refine p1 (cW) ?_;refine RV.done ?_;refine CV.cond rfl (fun hc=>?_) (fun hc=>False.elim (by rw[nW] at hc; simp at hc));refine sr rfl ?_;refine p1 (aDi rfl rfl bd) ?_;refine p1 (aDi rfl rfl bd) ?_;refine p1 (aQ (aK).2) ?_;refine p1 (aQ (aK).2) ?_;refine RV.done ?_;refine CV.ret ?_;exact lS rfl (.inr rfl) ⟨_,_,_,_,_,rfl,rfl,rfl,aK⟩ ⟨_,_,_,_,_,rfl,rfl,rfl,aK⟩ (aMo rfl (Nat.zero_le _) rfl (Nat.zero_le _))
theorem aKi (x y:Int) {j k:Nat} (hj:j<=1000000000) (hk:k<=1000000000):aD Tryz.prog 168 [.d (Dm.int x j),.d (Dm.int y k)] (.tup [.d (Dm.int (x/y) j),.d (Dm.int (if y=0 then 0 else x%y) k)]):=by
 by_cases hy:y=0
 ·subst hy;rw[if_pos rfl,Int.ediv_zero];exact aS0 x j k
 ·refine aLj (fun vx vy w h1 h2 l1 l2=>?_) fun l1 l2=>⟨Nat.le_trans (oF (aG5 x y)) l1,?_⟩
  ·rw[if_neg hy];exact aHs vx vy x y w h1 h2 hy (by omega) (by omega)
  ·rw[if_neg hy];refine Nat.le_trans (oF ?_) l2;have h1:=Int.emod_nonneg x hy;have h2:=Int.emod_lt x hy;omega
theorem aVp (p q:Int):Rat.divInt (p/(Int.gcd p q:Nat)) (q/(Int.gcd p q:Nat))=Rat.divInt p q:=by
 by_cases h:q=0
 ·rw[h,Int.zero_ediv,Rat.divInt_zero,Rat.divInt_zero]
 ·exact(aCz p q h).2
theorem aOw (a:Rat):0<=qd a/\qd a≠1:=by
 unfold qd;split
 ·exact⟨Int.le_refl _,by decide⟩
 ·exact⟨by omega,by omega⟩
theorem oG (a b:Rat) (j k:Nat) (hj:j<=10000000) (hk:k<=10000000):aD Tryz.prog 62 [RT a j,RT b k] (.one (RT (a*b) (3*(j+k)+20))):=by
 refine aD.of (n:=44) Tryz.func62 rfl rfl rfl rfl rfl fun cx hfr=>?_;refine sr rfl ?_;refine p2 (cC (i:=0)) ?_;refine p2 (cC (i:=1)) ?_;refine p2 (aU (i:=2) cI) ?_;refine RV.done ?_;refine CV.seq ?_;refine sr rfl ?_;refine p1 (aJ aC) ?_;refine xc (qI _ _ _) Tryz.func135 (xa rfl) hfr ?_;refine xm ?_;refine RV.bool (fun h1=>?_) (fun h1=>?_)
 ·refine y1 (aJ aC) ?_;refine y1 (cG (qI _ _ _) rfl rfl bd Tryz.func135 rfl rfl (xa rfl) rfl hfr rfl) ?_;refine p1 (cX) ?_;refine RV.done ?_;refine CV.cond rfl (fun h2=>?_) (fun h2=>?_)
  ·refine sr rfl ?_;refine p1 (bJ dH) ?_;refine p1 (bM 0 dG aK) ?_;refine p1 (bJ dH) ?_;refine p1 (bM 0 dG aK) ?_;refine xd rfl (iU _ _ (by omega) (by omega)) Tryz.func136 (xb rfl rfl) hfr ?_;refine p1 (rY) ?_;refine p1 (aQ (aC).2) ?_;refine RV.done ?_;refine CV.ret ?_;have ha:=qQ.1 (by simpa using h1);have hb:=qQ.1 (by simpa using h2);obtain⟨-,-,e1,e2⟩:=aHi ha hb;exact aS rfl (.inr rfl) ⟨_,_,_,_,_,rfl,rfl,rfl,aC⟩ (dZ e1.symm (qQ.2 e2).symm (by omega))
  ·refine CV.skip ?_;refine CV.seq ?_;refine CV.region rfl (fun _=>by kernel_rfl) ?_;refine p1 (bJ dH) ?_;refine p1 (bM 0 dG aK) ?_;refine p1 (aJ aC) ?_;refine xc (iJ _ _) Tryz.func138 (xa rfl) hfr ?_;refine xd rfl (rR _ _ _ _ (by omega) (by omega)) Tryz.func137 (xb rfl rfl) hfr ?_;refine xm ?_;refine p1 (cO) ?_;refine p1 (cO) ?_;refine p2 (aU (i:=3) dC) ?_;refine p2 (aU (i:=4) dC) ?_;refine p1 (aQ (aK).2) ?_;refine p1 (aQ (aK).2) ?_;refine bU (by kernel_rfl) ?_;refine CV.seq ?_;refine CV.region rfl (fun _=>by kernel_rfl) ?_;refine p1 (bJ dH) ?_;refine p1 (bM 0 dG aK) ?_;refine p1 (aJ aC) ?_;refine xc (iJ _ _) Tryz.func138 (xa rfl) hfr ?_;refine xd rfl (rR _ _ _ _ (by omega) (by omega)) Tryz.func137 (xb rfl rfl) hfr ?_;refine xm ?_;refine p1 (cO) ?_;refine p1 (cO) ?_;refine p2 (aU (i:=5) dC) ?_;refine p2 (aU (i:=6) dC) ?_;refine p1 (aQ (aK).2) ?_;refine p1 (aQ (aK).2) ?_;refine bU (by kernel_rfl) ?_;refine CV.seq ?_;refine CV.region rfl (fun _=>by kernel_rfl) ?_;refine p1 (aJ aK) ?_;refine p1 (aJ aK) ?_;refine xd rfl (iU _ _ (by omega) (by omega)) Tryz.func136 (xb rfl rfl) hfr ?_;refine p1 (aJ aK) ?_;refine p1 (aJ aK) ?_;refine xd rfl (iU _ _ (by omega) (by omega)) Tryz.func136 (xb rfl rfl) hfr ?_;refine xc (tD _ _ _ _ (fun _=>(tV a b _ _ _ _ _ _ rfl rfl rfl rfl rfl rfl).1)) Tryz.func139 (xb rfl rfl) hfr ?_;refine p1 (aQ (aC).2) ?_;refine bU (by kernel_rfl) ?_;refine CV.ret ?_;exact aS rfl (.inr rfl) ⟨_,_,_,_,_,rfl,rfl,rfl,aC⟩ (dZ (by rw[(tV a b _ _ _ _ _ _ rfl rfl rfl rfl rfl rfl).2]) (by rw[(tV a b _ _ _ _ _ _ rfl rfl rfl rfl rfl rfl).2]) (by omega))
 ·refine xk ?_;refine xk ?_;refine p1 (eI) ?_;refine RV.done ?_;refine CV.no rfl ?_;refine CV.skip ?_;refine CV.seq ?_;refine CV.region rfl (fun _=>by kernel_rfl) ?_;refine p1 (bJ dH) ?_;refine p1 (bM 0 dG aK) ?_;refine p1 (aJ aC) ?_;refine xc (iJ _ _) Tryz.func138 (xa rfl) hfr ?_;refine xd rfl (rR _ _ _ _ (by omega) (by omega)) Tryz.func137 (xb rfl rfl) hfr ?_;refine xm ?_;refine p1 (cO) ?_;refine p1 (cO) ?_;refine p2 (aU (i:=3) dC) ?_;refine p2 (aU (i:=4) dC) ?_;refine p1 (aQ (aK).2) ?_;refine p1 (aQ (aK).2) ?_;refine bU (by kernel_rfl) ?_;refine CV.seq ?_;refine CV.region rfl (fun _=>by kernel_rfl) ?_;refine p1 (bJ dH) ?_;refine p1 (bM 0 dG aK) ?_;refine p1 (aJ aC) ?_;refine xc (iJ _ _) Tryz.func138 (xa rfl) hfr ?_;refine xd rfl (rR _ _ _ _ (by omega) (by omega)) Tryz.func137 (xb rfl rfl) hfr ?_;refine xm ?_;refine p1 (cO) ?_;refine p1 (cO) ?_;refine p2 (aU (i:=5) dC) ?_;refine p2 (aU (i:=6) dC) ?_;refine p1 (aQ (aK).2) ?_;refine p1 (aQ (aK).2) ?_;refine bU (by kernel_rfl) ?_;refine CV.seq ?_;refine CV.region rfl (fun _=>by kernel_rfl) ?_;refine p1 (aJ aK) ?_;refine p1 (aJ aK) ?_;refine xd rfl (iU _ _ (by omega) (by omega)) Tryz.func136 (xb rfl rfl) hfr ?_;refine p1 (aJ aK) ?_;refine p1 (aJ aK) ?_;refine xd rfl (iU _ _ (by omega) (by omega)) Tryz.func136 (xb rfl rfl) hfr ?_;refine xc (tD _ _ _ _ (fun _=>(tV a b _ _ _ _ _ _ rfl rfl rfl rfl rfl rfl).1)) Tryz.func139 (xb rfl rfl) hfr ?_;refine p1 (aQ (aC).2) ?_;refine bU (by kernel_rfl) ?_;refine CV.ret ?_;exact aS rfl (.inr rfl) ⟨_,_,_,_,_,rfl,rfl,rfl,aC⟩ (dZ (by rw[(tV a b _ _ _ _ _ _ rfl rfl rfl rfl rfl rfl).2]) (by rw[(tV a b _ _ _ _ _ _ rfl rfl rfl rfl rfl rfl).2]) (by omega))
theorem xD (a:Rat) (k:Nat):aD Tryz.prog 121 [RT a k] (.one (RT (-a) k)):=by
 refine aD.of (n:=9) Tryz.func121 rfl rfl rfl rfl rfl fun cx hfr=>?_;refine sr rfl ?_;refine p2 (cC (i:=0)) ?_;refine p2 (aU (i:=1) cI) ?_;refine RV.done ?_;refine CV.seq ?_;refine CV.region rfl (fun _=>by kernel_rfl) ?_;refine p1 (bJ dH) ?_;refine p1 (bM 0 dG aK) ?_;refine xc (aFn _) Tryz.func186 (xa rfl) hfr ?_;refine p1 (bJ mN) ?_;refine p1 (bM 2 pM aK) ?_;refine p1 (tT) ?_;refine p1 (aQ (aC).2) ?_;refine bU (by kernel_rfl) ?_;refine CV.ret ?_;exact aS rfl (.inr rfl) ⟨_,_,_,_,_,rfl,rfl,rfl,aC⟩ (dZ (by rw[Rat.neg_num]) (by unfold qd; rw[Rat.neg_den]) (by omega))
theorem aWq (a b:Rat) (j k:Nat) (hj:j<=10000000) (hk:k<=10000000):aD Tryz.prog 63 [RT a j,RT b k] (.one (RT (a-b) (3*(j+k)+20))):=by
 refine aD.of (n:=9) Tryz.func63 rfl rfl rfl rfl rfl fun cx hfr=>?_;refine sr rfl ?_;refine p2 (cC (i:=0)) ?_;refine p2 (cC (i:=1)) ?_;refine p2 (aU (i:=2) cI) ?_;refine RV.done ?_;refine CV.seq ?_;refine CV.region rfl (fun _=>by kernel_rfl) ?_;refine p1 (aJ aC) ?_;refine p1 (aJ aC) ?_;refine xc (xD _ _) Tryz.func121 (xa rfl) hfr ?_;refine xc (xE _ _ _ _ hj hk) Tryz.func73 (xb rfl rfl) hfr ?_;refine p1 (aQ (aC).2) ?_;refine bU (by kernel_rfl) ?_;refine CV.ret ?_;exact aS rfl (.inr rfl) ⟨_,_,_,_,_,rfl,rfl,rfl,aC⟩ (dZ (by rw[Rat.sub_eq_add_neg]) (by rw[Rat.sub_eq_add_neg]) (Nat.le_refl _))
theorem aF2 (b:Rat):Rat.divInt b.den b.num=b⁻¹:=by rw[<- Rat.inv_divInt,Rat.num_divInt_den]
theorem pE (a b:Rat) (j k:Nat) (hj:j<=1000000) (hk:k<=1000000):aD Tryz.prog 70 [RT a j,RT b k] (.one (RT (a/b) (3*(j+k)+40))):=by
 refine aD.of (n:=12) Tryz.func70 rfl rfl rfl rfl rfl fun cx hfr=>?_;refine sr rfl ?_;refine p2 (cC (i:=0)) ?_;refine p2 (cC (i:=1)) ?_;refine p2 (aU (i:=2) cI) ?_;refine RV.done ?_;refine CV.seq ?_;refine CV.region rfl (fun _=>by kernel_rfl) ?_;refine p1 (aJ aC) ?_;refine p1 (aJ aC) ?_;refine xc (iJ _ _) Tryz.func138 (xa rfl) hfr ?_;refine p1 (bJ dH) ?_;refine p1 (bM 0 dG aK) ?_;refine xc (tD _ _ _ _ (fun _=>bAi b)) Tryz.func139 (xb rfl rfl) hfr ?_;refine xd rfl (oG _ _ _ _ (by omega) (by omega)) Tryz.func62 (xb rfl rfl) hfr ?_;refine p1 (aQ (aC).2) ?_;refine bU (by kernel_rfl) ?_;refine CV.ret ?_;exact aS rfl (.inr rfl) ⟨_,_,_,_,_,rfl,rfl,rfl,aC⟩ (dZ (by rw[aF2,Rat.div_def]) (by rw[aF2,Rat.div_def]) (by omega))
theorem zO (a:Rat) (k:Nat):aD Tryz.prog 64 [RT a k] (.one (.v (.int .i64 (bA a.num 0)))):=by
 refine aD.of (n:=6) Tryz.func64 rfl rfl rfl rfl rfl fun cx hfr=>?_;refine sr rfl ?_;refine p2 (cC (i:=0)) ?_;refine xn ?_;refine RV.done (sr rfl ?_);refine p1 (bJ dH) ?_;refine p1 (bM 0 dG aK) ?_;refine xc (aLv _) Tryz.func140 (xa rfl) hfr ?_;refine xn ?_;refine RV.done ?_;refine CV.ret ?_;exact aS rfl (.inr rfl) rfl cL
def eV (a b:Rat):Int:=bA (a.num*b.den) (b.num*a.den)
theorem aCg (a b:Rat) (j k:Nat) (hj:j<=10000000) (hk:k<=10000000):aD Tryz.prog 72 [RT a j,RT b k] (.one (.v (.int .i64 (eV a b)))):=by
 refine aD.of (n:=27) Tryz.func72 rfl rfl rfl rfl rfl fun cx hfr=>?_;refine sr rfl ?_;refine p2 (cC (i:=0)) ?_;refine p2 (cC (i:=1)) ?_;refine xn ?_;refine RV.done ?_;refine CV.seq ?_;refine sr rfl ?_;refine p1 (aJ aC) ?_;refine xc (qI _ _ _) Tryz.func135 (xa rfl) hfr ?_;refine xm ?_;refine RV.bool (fun h1=>?_) (fun h1=>?_)
 ·refine y1 (aJ aC) ?_;refine y1 (cG (qI _ _ _) rfl rfl bd Tryz.func135 rfl rfl (xa rfl) rfl hfr rfl) ?_;refine p1 (cX) ?_;refine RV.done ?_;refine CV.cond rfl (fun h2=>?_) (fun h2=>?_)
  ·refine sr rfl ?_;refine p1 (bJ dH) ?_;refine p1 (bM 0 dG aK) ?_;refine p1 (bJ dH) ?_;refine p1 (bM 0 dG aK) ?_;refine xc (aCq _ _) Tryz.func123 (xb rfl rfl) hfr ?_;refine xn ?_;refine RV.done ?_;refine CV.ret ?_;have ha:=qQ.1 (by simpa using h1);have hb:=qQ.1 (by simpa using h2);exact aS rfl (.inr rfl) rfl (vA (by unfold eV; rw[ha,hb]; simp))
  ·refine CV.skip ?_;refine CV.seq ?_;refine CV.region rfl (fun _=>by kernel_rfl) ?_;refine p1 (bJ dH) ?_;refine p1 (bM 0 dG aK) ?_;refine p1 (aJ aC) ?_;refine xc (iJ _ _) Tryz.func138 (xa rfl) hfr ?_;refine xd rfl (iU _ _ (by omega) (by omega)) Tryz.func136 (xb rfl rfl) hfr ?_;refine p1 (bJ dH) ?_;refine p1 (bM 0 dG aK) ?_;refine p1 (aJ aC) ?_;refine xc (iJ _ _) Tryz.func138 (xa rfl) hfr ?_;refine xd rfl (iU _ _ (by omega) (by omega)) Tryz.func136 (xb rfl rfl) hfr ?_;refine xc (aCq _ _) Tryz.func123 (xb rfl rfl) hfr ?_;refine xn ?_;refine bU (by kernel_rfl) ?_;refine CV.ret ?_;exact aS rfl (.inr rfl) rfl (vA rfl)
 ·refine xk ?_;refine xk ?_;refine p1 (eI) ?_;refine RV.done ?_;refine CV.no rfl ?_;refine CV.skip ?_;refine CV.seq ?_;refine CV.region rfl (fun _=>by kernel_rfl) ?_;refine p1 (bJ dH) ?_;refine p1 (bM 0 dG aK) ?_;refine p1 (aJ aC) ?_;refine xc (iJ _ _) Tryz.func138 (xa rfl) hfr ?_;refine xd rfl (iU _ _ (by omega) (by omega)) Tryz.func136 (xb rfl rfl) hfr ?_;refine p1 (bJ dH) ?_;refine p1 (bM 0 dG aK) ?_;refine p1 (aJ aC) ?_;refine xc (iJ _ _) Tryz.func138 (xa rfl) hfr ?_;refine xd rfl (iU _ _ (by omega) (by omega)) Tryz.func136 (xb rfl rfl) hfr ?_;refine xc (aCq _ _) Tryz.func123 (xb rfl rfl) hfr ?_;refine xn ?_;refine bU (by kernel_rfl) ?_;refine CV.ret ?_;exact aS rfl (.inr rfl) rfl (vA rfl)
theorem aZ3 {a b:Rat} (h:qd a=qd b):a.den=b.den:=by
 have h1:=yB a;have h2:=yB b;rw[h] at h1;have:=h1.symm.trans h2;omega
theorem aT9 (p q:Int) (j k:Nat) (hj:j<=10000000) (hk:k<=10000000):aD Tryz.prog 144 [.d (Dm.int p j),.d (Dm.int q k)] (.one (RT (Rat.divInt p q) (j+k))):=by
 refine aD.of (n:=11) Tryz.func144 rfl rfl rfl rfl rfl fun cx hfr=>?_;refine sr rfl ?_;refine p2 (cC (i:=0)) ?_;refine p2 (cC (i:=1)) ?_;refine p2 (aU (i:=2) cI) ?_;refine RV.done (sr rfl ?_);refine p1 (aJ aK) ?_;refine p1 (aJ aK) ?_;refine xd rfl (rR _ _ _ _ (by omega) (by omega)) Tryz.func137 (xb rfl rfl) hfr ?_;refine p1 (cO) ?_;refine p1 (cO) ?_;refine xd rfl (tD _ _ _ _ (fun h=>(aCz p q (fun e=>h (by rw[e,Int.zero_ediv]))).1)) Tryz.func139 (xb rfl rfl) hfr ?_;refine p1 (aQ (aC).2) ?_;refine RV.done ?_;refine CV.ret ?_;have e:Rat.divInt (p/(Int.gcd p q:Nat)) (q/(Int.gcd p q:Nat))=Rat.divInt p q:=aVp p q;exact aS rfl (.inr rfl) ⟨_,_,_,_,_,rfl,rfl,rfl,aC⟩ (dZ (by rw[e]) (by rw[e]) (by omega))
theorem pQ (p q:Int) (h1 : -9223372036854775808<=p) (h2:p<=9223372036854775807) (h3 : -9223372036854775808<=q) (h4:q<=9223372036854775807):aD Tryz.prog 74 [.v (.int .i64 p),.v (.int .i64 q)] (.one (RT (Rat.divInt p q) 6)):=by
 refine aD.of (n:=10) Tryz.func74 rfl rfl rfl rfl rfl fun cx hfr=>?_;refine sr rfl ?_;refine p2 (aU (i:=0) cI) ?_;refine RV.done (sr rfl ?_);refine xm ?_;refine xc (aGe p h1 h2) Tryz.func145 (xa rfl) hfr ?_;refine xm ?_;refine xc (aGe q h3 h4) Tryz.func145 (xa rfl) hfr ?_;refine xd rfl (aT9 _ _ _ _ (by omega) (by omega)) Tryz.func144 (xb rfl rfl) hfr ?_;refine p1 (aQ (aC).2) ?_;refine RV.done ?_;refine CV.ret ?_;exact aS rfl (.inr rfl) ⟨_,_,_,_,_,rfl,rfl,rfl,aC⟩ cL
theorem aIm (z:Int) {k:Nat}:aD Tryz.prog 199 [.d (Dm.int z k)] (.one (.v (.bool true))) :=
 aLi fun vx w h=>wS vx z w h
theorem aR7 (a:Rat) (k:Nat) (hk:k<=10000000):aD Tryz.prog 156 [RT a k] (.one (.v (.bool true))):=by
 refine aD.of (n:=35) Tryz.func156 rfl rfl rfl rfl rfl fun cx hfr=>?_;refine sr rfl ?_;refine p2 (cC (i:=0)) ?_;refine xn ?_;refine RV.done ?_;refine CV.seq ?_;refine sr rfl ?_;refine p1 (bJ dH) ?_;refine p1 (bM 0 dG aK) ?_;refine xc (aIm _) Tryz.func199 (xa rfl) hfr ?_;refine p1 (lN) ?_;refine xm ?_;refine y1 (bJ mN) ?_;refine y1 (bM 2 pM aK) ?_;refine y1 (cG (aIm _) rfl rfl bd Tryz.func199 rfl rfl (xa rfl) rfl hfr rfl) ?_;refine y1 (lN) ?_;refine p1 (eI) ?_;refine RV.done ?_;refine CV.no rfl ?_;refine CV.skip ?_;refine sr rfl ?_;refine p1 (aJ aC) ?_;refine xc (qI _ _ _) Tryz.func135 (xa rfl) hfr ?_;refine xm ?_;refine RV.bool (fun h1=>?_) (fun h1=>?_)
 ·refine xk ?_;refine xk ?_;refine xk ?_;refine xk ?_;refine xk ?_;refine gJ (nY rfl rfl rfl rfl bd) ?_;refine gJ (nY rfl rfl rfl rfl bd) ?_;refine gJ (nY rfl rfl rfl rfl bd) ?_;refine gJ (nY rfl rfl rfl rfl bd) ?_;refine xk ?_;refine xk ?_;refine gJ (nY rfl rfl rfl rfl bd) ?_;refine gJ (nY rfl rfl rfl rfl bd) ?_;refine gJ (nY rfl rfl rfl rfl bd) ?_;refine gJ (nY rfl rfl rfl rfl bd) ?_;refine gJ (nY rfl rfl rfl rfl bd) ?_;refine gJ (nY rfl rfl rfl rfl bd) ?_;refine xk ?_;refine p1 (cX) ?_;refine xn ?_;refine RV.done ?_;refine CV.ret ?_;exact aS rfl (.inr rfl) rfl cL
 ·refine y1 (bJ mN) ?_;refine y1 (bJ aAw) ?_;refine y1 (bM 2 aV0 aAk) ?_;refine y1 (lN) ?_;refine y1 (cB (.inl rfl)) ?_;refine RV.bool (fun hb=>?_) (fun hb=>False.elim (by have:=(aOw a).1; simp at hb; omega));refine y1 (bJ mN) ?_;refine y1 (bM 2 pM aK) ?_;refine y1 (cG (tX _ _) rfl rfl bd Tryz.func197 rfl rfl (xa rfl) rfl hfr rfl) ?_;refine y1 (lN) ?_;refine y1 (cX) ?_;refine y1 (cB (.inl rfl)) ?_;refine RV.bool (fun hb=>?_) (fun hb=>False.elim (by have:=(aOw a).2; simp at hb; omega));refine y1 (bJ dH) ?_;refine y1 (bM 0 dG aK) ?_;refine y1 (bJ mN) ?_;refine y1 (bM 2 pM aK) ?_;refine y1 (cG (aA2 _ _ (by omega) (by omega)) rfl rfl bd Tryz.func142 rfl rfl (xb rfl rfl) rfl hfr rfl) ?_;refine y1 (cG (tX _ _) rfl rfl bd Tryz.func197 rfl rfl (xa rfl) rfl hfr rfl) ?_;refine y1 (cX) ?_;refine p1 (eI) ?_;refine xn ?_;refine RV.done ?_;refine CV.ret ?_;have h5:¬ qd a=0:=by simpa using h1
  refine aS rfl (.inr rfl) rfl (gB ?_);rw[decide_eq_true_eq,show qd a=(a.den:Int) from by rw[<- yB a,if_neg h5],red a];rfl
theorem aKh (z:Int) (k:Nat):aD Tryz.prog 169 [.d (Dm.int z k)] (.one (.v (.bool (decide (z=1))))):=by
 refine aD.of (n:=16) Tryz.func169 rfl rfl rfl rfl rfl fun cx hfr=>?_;refine sr rfl ?_;refine p2 (cC (i:=0)) ?_;refine xn ?_;refine RV.done ?_;refine CV.seq ?_;refine sr rfl ?_;refine p1 (bJ aAw) ?_;refine p1 (bM 0 aE8 aAk) ?_;refine xm ?_;refine RV.bool (fun h1=>?_) (fun h1=>?_)
 ·refine xk ?_;refine xk ?_;refine xk ?_;refine xk ?_;refine p1 (cX) ?_;refine RV.done ?_;refine CV.yes rfl ?_;refine sr rfl ?_;refine xn ?_;refine RV.done ?_;refine CV.ret ?_;refine aS rfl (.inr rfl) rfl (gB ?_);rw[eq_comm,decide_eq_false_iff_not];simp at h1;omega
 ·refine y1 (bJ pO) ?_;refine y1 (bM 1 sL pF) ?_;refine y1 (sN) ?_;refine y1 (pT) ?_;refine p1 (eI) ?_;refine RV.done ?_;refine CV.cond rfl (fun h2=>?_) (fun h2=>?_)
  ·refine sr rfl ?_;refine xn ?_;refine RV.done ?_;refine CV.ret ?_;refine aS rfl (.inr rfl) rfl (gB ?_);rw[eq_comm,decide_eq_false_iff_not];rintro rfl;cases h2
  ·refine CV.skip ?_;refine sr rfl ?_;refine p1 (bJ pO) ?_;refine p1 (bM 1 sL pF) ?_;refine p1 (aNz (i:=0) (by simp at h2; omega) rfl rfl bd rfl rfl) ?_;refine p1 (aKq rfl rfl bd rfl) ?_;refine p1 (cW) ?_;refine xn ?_;refine RV.done ?_;refine CV.ret ?_;refine aS rfl (.inr rfl) rfl (gB ?_);rw[aMg (by simp at h2; omega),Bool.eq_iff_iff];simp at h1 |-;omega
theorem aU2 (p q:Int) (k:Nat):aD Tryz.prog 77 [.d (Dm.rt p q k)] (.one (.d (Dm.int (if q=0 then 1 else q) (k+3)))):=by
 refine aD.of (n:=11) Tryz.func77 rfl rfl rfl rfl rfl fun cx hfr=>?_;refine sr rfl ?_;refine p2 (cC (i:=0)) ?_;refine p2 (aU (i:=1) dC) ?_;refine RV.done ?_;refine CV.seq ?_;refine sr rfl ?_;refine p1 (bJ mN) ?_;refine p1 (bJ pO) ?_;refine p1 (bM 3 aK9 pF) ?_;refine p1 (sN) ?_;refine p1 (cW) ?_;refine RV.done ?_;refine CV.cond rfl (fun hc=>?_) (fun hc=>?_)
 ·refine sr rfl ?_;refine xd rfl (aE1 _ (by decide) (by decide)) Tryz.func100 (xa rfl) hfr ?_;refine p1 (aQ (aK).2) ?_;refine RV.done ?_;refine CV.ret ?_;rw[nW] at hc;exact aS rfl (.inr rfl) ⟨_,_,_,_,_,rfl,rfl,rfl,aK⟩ (sK (by rw[if_pos (by simpa using hc)]) (by omega))
 ·refine CV.skip ?_;refine sr rfl ?_;refine p1 (bJ mN) ?_;refine p1 (bM 2 pM aK) ?_;refine p1 (aQ (aK).2) ?_;refine RV.done ?_;refine CV.ret ?_;rw[nW] at hc;exact aS rfl (.inr rfl) ⟨_,_,_,_,_,rfl,rfl,rfl,aK⟩ (sK (by rw[if_neg (by simpa using hc)]) (by omega))
theorem oB (a:Rat) (k:Nat):aD Tryz.prog 77 [RT a k] (.one (.d (Dm.int a.den (k+3)))):=by
 have h:=aU2 a.num (qd a) k;rwa[yB] at h
theorem aG6 (q:Int):(Rat.divInt 0 q).num=0/\qd (Rat.divInt 0 q)=0:=by
 rw[Rat.zero_divInt];exact⟨rfl,rfl⟩
theorem wZ (p q:Int) (hq:q≠0):(Rat.divInt p q).num=(q/(Int.gcd p q:Nat)).sign*(p/(Int.gcd p q:Nat))/\qd (Rat.divInt p q)=(if (q/(Int.gcd p q:Nat)).natAbs=1 then 0 else ((q/(Int.gcd p q:Nat)).natAbs:Int)):=by
 obtain⟨h1,h2⟩:=aCz p q hq;have h3:q/(Int.gcd p q:Nat)≠0:=by
  intro e;have d2:((Int.gcd p q:Nat):Int) ∣ q:=Int.gcd_dvd_right ..;have:=Int.ediv_mul_cancel d2;rw[e,Int.zero_mul] at this;exact hq this.symm
 rw[<- h2];exact⟨qS h1,xQ h1 h3⟩
theorem zI (p q:Int) (j k:Nat) (hj:j<=10000000) (hk:k<=10000000):aD Tryz.prog 98 [.d (Dm.int p j),.d (Dm.int q k)] (.one (RT (Rat.divInt p q) (j+k))):=by
 refine aD.of (n:=49) Tryz.func98 rfl rfl rfl rfl rfl fun cx hfr=>?_;refine sr rfl ?_;refine p2 (cC (i:=0)) ?_;refine p2 (cC (i:=1)) ?_;refine p2 (aU (i:=2) cI) ?_;refine RV.done ?_;refine CV.seq ?_;refine sr rfl ?_;refine p1 (bJ pO) ?_;refine p1 (bM 1 sL pF) ?_;refine p1 (sN) ?_;refine p1 (cW) ?_;refine xm ?_;refine RV.bool (fun h1=>?_) (fun h1=>?_)
 ·refine xk ?_;refine xk ?_;refine xk ?_;refine xk ?_;refine p1 (cX) ?_;refine RV.done ?_;refine CV.yes rfl ?_;refine sr rfl ?_;refine p1 (pA) ?_;refine p1 (aQ (aC).2) ?_;refine RV.done ?_;refine CV.ret ?_;rw[nW] at h1;obtain rfl:q=0:=by simpa using h1
  exact aS rfl (.inr rfl) ⟨_,_,_,_,_,rfl,rfl,rfl,aC⟩ (dZ (wF p).1.symm (wF p).2.symm (by omega))
 ·refine y1 (bJ pO) ?_;refine y1 (bM 1 sL pF) ?_;refine y1 (sN) ?_;refine y1 (cW) ?_;refine p1 (eI) ?_;refine RV.done ?_;refine CV.cond rfl (fun h2=>?_) (fun h2=>?_)
  ·refine sr rfl ?_;refine p1 (pA) ?_;refine p1 (aQ (aC).2) ?_;refine RV.done ?_;refine CV.ret ?_;rw[nW] at h2;obtain rfl:p=0:=by simpa using h2
   exact aS rfl (.inr rfl) ⟨_,_,_,_,_,rfl,rfl,rfl,aC⟩ (dZ (aG6 q).1.symm (aG6 q).2.symm (by omega))
  ·refine CV.skip ?_;refine sr rfl ?_;refine p1 (aJ aK) ?_;refine p1 (aJ aK) ?_;refine xd rfl (aU1 _ _ (by omega) (by omega)) Tryz.func167 (xb rfl rfl) hfr ?_;refine p2 (aU (i:=3) dC) ?_;refine p1 (aQ (aK).2) ?_;refine RV.done (sr rfl ?_);refine p1 (aJ aK) ?_;refine p1 (aJ aK) ?_;refine xd rfl (aKi _ _ (by omega) (by omega)) Tryz.func168 (xb rfl rfl) hfr ?_;refine xm ?_;refine p1 (cO) ?_;refine p1 (cO) ?_;refine p2 (aU (i:=4) dC) ?_;refine p2 (aU (i:=5) dC) ?_;refine p1 (aQ (aK).2) ?_;refine p1 (aQ (aK).2) ?_;refine RV.done (sr rfl ?_);refine p1 (aJ aK) ?_;refine p1 (aJ aK) ?_;refine xd rfl (aKi _ _ (by omega) (by omega)) Tryz.func168 (xb rfl rfl) hfr ?_;refine xm ?_;refine p1 (cO) ?_;refine p1 (cO) ?_;refine p2 (aU (i:=6) dC) ?_;refine p2 (aU (i:=7) dC) ?_;refine p1 (aQ (aK).2) ?_;refine p1 (aQ (aK).2) ?_;refine RV.done ?_;refine CV.seq ?_;refine sr rfl ?_;refine p1 (bJ aAw) ?_;refine p1 (bM 0 aE8 aAk) ?_;refine RV.done ?_;refine CV.cond rfl (fun h3=>?_) (fun h3=>?_)
   ·refine sr rfl ?_;refine p1 (aJ aK) ?_;refine xc (aDx _) Tryz.func78 (xa rfl) hfr ?_;refine p1 (aQ (aK).2) ?_;refine RV.done ?_;refine CV.region rfl (fun h=>nomatch h) ?_;refine p1 (aJ aK) ?_;refine xc (aDx _) Tryz.func78 (xa rfl) hfr ?_;refine p1 (aQ (aK).2) ?_;refine RV.done ?_;refine CV.seq ?_;refine sr rfl ?_;refine p1 (aJ aK) ?_;refine xc (aKh _ _) Tryz.func169 (xa rfl) hfr ?_;refine RV.done ?_;refine CV.cond rfl (fun h4=>?_) (fun h4=>?_)
    ·refine sr rfl ?_;refine p1 (aJ aK) ?_;refine p1 (rY) ?_;refine p1 (aQ (aC).2) ?_;refine RV.done ?_;refine CV.ret ?_;rw[nW] at h1;have hq:q≠0:=by simpa using h1
     obtain⟨e1,e2⟩:=wZ p q hq;have h3:q/(Int.gcd p q:Nat)<0:=by simpa using h3
     have h4 : -(q/(Int.gcd p q:Nat))=1:=by simpa using h4
     exact aS rfl (.inr rfl) ⟨_,_,_,_,_,rfl,rfl,rfl,aC⟩ (dZ (by rw[e1,Int.sign_eq_neg_one_of_neg h3]; omega) (by rw[e2,if_pos (by omega)]) (by omega))
    ·refine CV.skip ?_;refine sr rfl ?_;refine p1 (aJ aK) ?_;refine p1 (aJ aK) ?_;refine p1 (tT) ?_;refine p1 (aQ (aC).2) ?_;refine RV.done ?_;refine CV.ret ?_;rw[nW] at h1;have hq:q≠0:=by simpa using h1
     obtain⟨e1,e2⟩:=wZ p q hq;have h3:q/(Int.gcd p q:Nat)<0:=by simpa using h3
     have h4:¬ -(q/(Int.gcd p q:Nat))=1:=by simpa using h4
     exact aS rfl (.inr rfl) ⟨_,_,_,_,_,rfl,rfl,rfl,aC⟩ (dZ (by rw[e1,Int.sign_eq_neg_one_of_neg h3]; omega) (by rw[e2,if_neg (by omega)]; omega) (by omega))
   ·refine CV.skip ?_;refine CV.seq ?_;refine sr rfl ?_;refine p1 (aJ aK) ?_;refine xc (aKh _ _) Tryz.func169 (xa rfl) hfr ?_;refine RV.done ?_;refine CV.cond rfl (fun h4=>?_) (fun h4=>?_)
    ·refine sr rfl ?_;refine p1 (aJ aK) ?_;refine p1 (rY) ?_;refine p1 (aQ (aC).2) ?_;refine RV.done ?_;refine CV.ret ?_;rw[nW] at h1;have hq:q≠0:=by simpa using h1
     obtain⟨e1,e2⟩:=wZ p q hq;have h3:¬ q/(Int.gcd p q:Nat)<0:=by simpa using h3
     have h4:q/(Int.gcd p q:Nat)=1:=by simpa using h4
     exact aS rfl (.inr rfl) ⟨_,_,_,_,_,rfl,rfl,rfl,aC⟩ (dZ (by rw[e1,h4]; simp) (by rw[e2,h4]; rfl) (by omega))
    ·refine CV.skip ?_;refine sr rfl ?_;refine p1 (aJ aK) ?_;refine p1 (aJ aK) ?_;refine p1 (tT) ?_;refine p1 (aQ (aC).2) ?_;refine RV.done ?_;refine CV.ret ?_;rw[nW] at h1;have hq:q≠0:=by simpa using h1
     obtain⟨e1,e2⟩:=wZ p q hq;have h3:¬ q/(Int.gcd p q:Nat)<0:=by simpa using h3
     have h4:¬ q/(Int.gcd p q:Nat)=1:=by simpa using h4
     have h5:q/(Int.gcd p q:Nat)≠0:=fun e=>hq (by have d2:((Int.gcd p q:Nat):Int) ∣ q:=Int.gcd_dvd_right .. ; have:=Int.ediv_mul_cancel d2; rw[e,Int.zero_mul] at this; exact this.symm);exact aS rfl (.inr rfl) ⟨_,_,_,_,_,rfl,rfl,rfl,aC⟩ (dZ (by rw[e1,Int.sign_eq_one_of_pos (by omega)]; omega) (by rw[e2,if_neg (by omega)]; omega) (by omega))
theorem lK (p q:Int) (h1 : -9223372036854775808<=p) (h2:p<=9223372036854775807) (h3 : -9223372036854775808<=q) (h4:q<=9223372036854775807):aD Tryz.prog 32 [.v (.int .i64 p),.v (.int .i64 q)] (.one (RT (Rat.divInt p q) 6)):=by
 refine aD.of (n:=10) Tryz.func32 rfl rfl rfl rfl rfl fun cx hfr=>?_;refine sr rfl ?_;refine p2 (aU (i:=0) cI) ?_;refine RV.done (sr rfl ?_);refine xm ?_;refine xc (aE1 p h1 h2) Tryz.func100 (xa rfl) hfr ?_;refine xm ?_;refine xc (aE1 q h3 h4) Tryz.func100 (xa rfl) hfr ?_;refine xd rfl (zI _ _ _ _ (by omega) (by omega)) Tryz.func98 (xb rfl rfl) hfr ?_;refine p1 (aQ (aC).2) ?_;refine RV.done ?_;refine CV.ret ?_;exact aS rfl (.inr rfl) ⟨_,_,_,_,_,rfl,rfl,rfl,aC⟩ cL
theorem aHq (a b:Rat) (j k:Nat):aD Tryz.prog 29 [RT a j,RT b k] (.one (.v (.bool (decide (a=b))))):=by
 refine aD.of (n:=17) Tryz.func29 rfl rfl rfl rfl rfl fun cx hfr=>?_;refine sr rfl ?_;refine p2 (cC (i:=0)) ?_;refine p2 (cC (i:=1)) ?_;refine xn ?_;refine RV.done (sr rfl ?_);refine p1 (bJ dH) ?_;refine p1 (bM 0 dG aK) ?_;refine p1 (bJ dH) ?_;refine p1 (bM 0 dG aK) ?_;refine xc (aIy _ _) Tryz.func97 (xb rfl rfl) hfr ?_;refine xm ?_;refine RV.bool (fun h1=>?_) (fun h1=>?_)
 ·refine y1 (bJ mN) ?_;refine y1 (bM 2 pM aK) ?_;refine y1 (bJ mN) ?_;refine y1 (bM 2 pM aK) ?_;refine y1 (cG (aIy _ _) rfl rfl bd Tryz.func97 rfl rfl (xb rfl rfl) rfl hfr rfl) ?_;refine p1 (cX) ?_;refine xn ?_;refine RV.done ?_;refine CV.ret ?_;have e1:a.num=b.num:=by simpa using h1
  refine aS rfl (.inr rfl) rfl (gB ?_);rw[Bool.eq_iff_iff,decide_eq_true_eq,decide_eq_true_eq];exact⟨fun e2=>Rat.ext e1 (aZ3 e2),fun e=>by rw[e]⟩
 ·refine xk ?_;refine xk ?_;refine xk ?_;refine xk ?_;refine xk ?_;refine p1 (eI) ?_;refine xn ?_;refine RV.done ?_;refine CV.ret ?_;have e2:¬ a.num=b.num:=by simpa using h1
  exact aS rfl (.inr rfl) rfl (gB (by rw[eq_comm,decide_eq_false_iff_not]; rintro rfl; exact e2 rfl))
end Vc
end Go.Proofs.YtbaihklbefhgdaaGreat

namespace Go.Proofs.YtbaihklbefhgdaaGreat
open Dg Zn
namespace Vc
theorem uU (a b:Rat):eV a b=if a<b then -1 else if b<a then 1 else 0:=by
 unfold eV bA;simp only[Rat.lt_iff]
theorem aCh (z:Int):(Rat.divInt z 1).num=z/\((Rat.divInt z 1).den:Int)=1:=by
 have hg:Int.gcd z 1=1:=Int.gcd_one_right z;refine⟨by rw[qS hg]; simp,?_⟩;rw[aAq hg (by decide)];rfl
end Vc
end Go.Proofs.YtbaihklbefhgdaaGreat

namespace Go.Proofs.YtbaihklbefhgdaaGreat
open Go.RowKit
open Go.Lib (hid)
open Dg Zn
namespace Vc
set_option maxRecDepth 100000
section
variable {P:Program} {cx:Cx Dm} {n:Nat} {σ:St Dm} {o:Oper} {d:Nat} {x y:Operand} {T T':TypeId} {k:IntKind} {a b:Int}
theorem qR (h:a=b) (ho:o.op=.binOp .eql T x y T') (hd:o.dst=some d) (hn:d<n) (hx:opd σ x=.av (.one (.v (.int k a)))) (hy:opd σ y=.av (.one (.v (.int k b)))):aN P cx n σ o (bH x++bH y) [(.s d,.av (.one (.v (.bool true))))]:=by
 have:=cW (P:=P) (cx:=cx) ho hd hn hx hy;rwa[h,beq_self_eq_true] at this
theorem aXr (h:a=b) (ho:o.op=.binOp .neq T x y T') (hd:o.dst=some d) (hn:d<n) (hx:opd σ x=.av (.one (.v (.int k a)))) (hy:opd σ y=.av (.one (.v (.int k b)))):aN P cx n σ o (bH x++bH y) [(.s d,.av (.one (.v (.bool false))))]:=by
 have:=pT (P:=P) (cx:=cx) ho hd hn hx hy;rwa[h,bne_self_eq_false] at this
end
theorem aIg (a b:Rat):Rat.divInt (a.num*b.den+b.num*a.den) (a.den*b.den)=a+b:=by
 rw[<- Rat.divInt_add_divInt a.num b.num (rF a) (rF b),Rat.num_divInt_den,Rat.num_divInt_den]
theorem aIe (a b:Rat):Rat.divInt (a.num*b.num) (a.den*b.den)=a*b:=by
 rw[<- Rat.divInt_mul_divInt,Rat.num_divInt_den,Rat.num_divInt_den]
theorem aIf (a b:Rat):Rat.divInt (a.num*b.den) (a.den*b.num)=a/b:=by
 rw[<- Rat.divInt_mul_divInt,Rat.num_divInt_den,aF2,Rat.div_def]
theorem aDf (a b:Rat) (j k:Nat) (hj:j<=1000000) (hk:k<=1000000):aD Tryz.prog 31 [RT a j,RT b k] (.one (RT (a+b) (3*(j+k)+20))):=by
 refine aD.of (n:=26) Tryz.func31 rfl rfl rfl rfl rfl fun cx hfr=>?_;refine sr rfl ?_;refine p2 (cC (i:=0)) ?_;refine p2 (cC (i:=1)) ?_;refine p2 (aU (i:=2) cI) ?_;refine RV.done ?_;refine CV.seq ?_;refine CV.region rfl (fun _=>by kernel_rfl) ?_;refine p1 (bJ dH) ?_;refine p1 (bM 0 dG aK) ?_;refine p1 (aJ aC) ?_;refine xc (oB _ _) Tryz.func77 (xa rfl) hfr ?_;refine xd rfl (pB _ _ (by omega) (by omega)) Tryz.func76 (xb rfl rfl) hfr ?_;refine p2 (aU (i:=3) dC) ?_;refine p1 (aQ (aK).2) ?_;refine bU (by kernel_rfl) ?_;refine CV.seq ?_;refine CV.region rfl (fun _=>by kernel_rfl) ?_;refine p1 (bJ dH) ?_;refine p1 (bM 0 dG aK) ?_;refine p1 (aJ aC) ?_;refine xc (oB _ _) Tryz.func77 (xa rfl) hfr ?_;refine xd rfl (pB _ _ (by omega) (by omega)) Tryz.func76 (xb rfl rfl) hfr ?_;refine p2 (aU (i:=4) dC) ?_;refine p1 (aQ (aK).2) ?_;refine bU (by kernel_rfl) ?_;refine CV.seq ?_;refine CV.region rfl (fun _=>by kernel_rfl) ?_;refine p1 (aJ aK) ?_;refine p1 (aJ aK) ?_;refine xd rfl (aU3 _ _ (by omega) (by omega)) Tryz.func99 (xb rfl rfl) hfr ?_;refine p1 (aJ aC) ?_;refine xc (oB _ _) Tryz.func77 (xa rfl) hfr ?_;refine p1 (aJ aC) ?_;refine xc (oB _ _) Tryz.func77 (xa rfl) hfr ?_;refine xd rfl (pB _ _ (by omega) (by omega)) Tryz.func76 (xb rfl rfl) hfr ?_;refine xd rfl (zI _ _ _ _ (by omega) (by omega)) Tryz.func98 (xb rfl rfl) hfr ?_;refine p1 (aQ (aC).2) ?_;refine bU (by kernel_rfl) ?_;refine CV.ret ?_;exact aS rfl (.inr rfl) ⟨_,_,_,_,_,rfl,rfl,rfl,aC⟩ (dZ (by rw[aIg]) (by rw[aIg]) (by omega))
theorem aDd (a:Rat) (k:Nat):aD Tryz.prog 18 [RT a k] (.one (RT (-a) k)):=by
 refine aD.of (n:=9) Tryz.func18 rfl rfl rfl rfl rfl fun cx hfr=>?_;refine sr rfl ?_;refine p2 (cC (i:=0)) ?_;refine p2 (aU (i:=1) cI) ?_;refine RV.done ?_;refine CV.seq ?_;refine CV.region rfl (fun _=>by kernel_rfl) ?_;refine p1 (bJ dH) ?_;refine p1 (bM 0 dG aK) ?_;refine xc (aDx _) Tryz.func78 (xa rfl) hfr ?_;refine p1 (bJ mN) ?_;refine p1 (bM 2 pM aK) ?_;refine p1 (tT) ?_;refine p1 (aQ (aC).2) ?_;refine bU (by kernel_rfl) ?_;refine CV.ret ?_;exact aS rfl (.inr rfl) ⟨_,_,_,_,_,rfl,rfl,rfl,aC⟩ (dZ (by rw[Rat.neg_num]) (by unfold qd; rw[Rat.neg_den]) (by omega))
theorem aDe (a b:Rat) (j k:Nat) (hj:j<=1000000) (hk:k<=1000000):aD Tryz.prog 124 [RT a j,RT b k] (.one (RT (a*b) (3*(j+k)+20))):=by
 refine aD.of (n:=16) Tryz.func124 rfl rfl rfl rfl rfl fun cx hfr=>?_;refine sr rfl ?_;refine p2 (cC (i:=0)) ?_;refine p2 (cC (i:=1)) ?_;refine p2 (aU (i:=2) cI) ?_;refine RV.done ?_;refine CV.seq ?_;refine CV.region rfl (fun _=>by kernel_rfl) ?_;refine p1 (bJ dH) ?_;refine p1 (bM 0 dG aK) ?_;refine p1 (bJ dH) ?_;refine p1 (bM 0 dG aK) ?_;refine xd rfl (pB _ _ (by omega) (by omega)) Tryz.func76 (xb rfl rfl) hfr ?_;refine p1 (aJ aC) ?_;refine xc (oB _ _) Tryz.func77 (xa rfl) hfr ?_;refine p1 (aJ aC) ?_;refine xc (oB _ _) Tryz.func77 (xa rfl) hfr ?_;refine xd rfl (pB _ _ (by omega) (by omega)) Tryz.func76 (xb rfl rfl) hfr ?_;refine xd rfl (zI _ _ _ _ (by omega) (by omega)) Tryz.func98 (xb rfl rfl) hfr ?_;refine p1 (aQ (aC).2) ?_;refine bU (by kernel_rfl) ?_;refine CV.ret ?_;exact aS rfl (.inr rfl) ⟨_,_,_,_,_,rfl,rfl,rfl,aC⟩ (dZ (by rw[aIe]) (by rw[aIe]) (by omega))
theorem aIv (a b:Rat) (j k:Nat) (hj:j<=1000000) (hk:k<=1000000):aD Tryz.prog 90 [RT a j,RT b k] (.one (RT (a/b) (3*(j+k)+20))):=by
 refine aD.of (n:=16) Tryz.func90 rfl rfl rfl rfl rfl fun cx hfr=>?_;refine sr rfl ?_;refine p2 (cC (i:=0)) ?_;refine p2 (cC (i:=1)) ?_;refine p2 (aU (i:=2) cI) ?_;refine RV.done ?_;refine CV.seq ?_;refine CV.region rfl (fun _=>by kernel_rfl) ?_;refine p1 (bJ dH) ?_;refine p1 (bM 0 dG aK) ?_;refine p1 (aJ aC) ?_;refine xc (oB _ _) Tryz.func77 (xa rfl) hfr ?_;refine xd rfl (pB _ _ (by omega) (by omega)) Tryz.func76 (xb rfl rfl) hfr ?_;refine p1 (aJ aC) ?_;refine xc (oB _ _) Tryz.func77 (xa rfl) hfr ?_;refine p1 (bJ dH) ?_;refine p1 (bM 0 dG aK) ?_;refine xd rfl (pB _ _ (by omega) (by omega)) Tryz.func76 (xb rfl rfl) hfr ?_;refine xd rfl (zI _ _ _ _ (by omega) (by omega)) Tryz.func98 (xb rfl rfl) hfr ?_;refine p1 (aQ (aC).2) ?_;refine bU (by kernel_rfl) ?_;refine CV.ret ?_;exact aS rfl (.inr rfl) ⟨_,_,_,_,_,rfl,rfl,rfl,aC⟩ (dZ (by rw[aIf]) (by rw[aIf]) (by omega))
theorem rQ (a b:Rat) (j k:Nat) (hj:j<=10000000) (hk:k<=10000000):aD Tryz.prog 17 [RT a j,RT b k] (.one (.v (.int .i64 (eV a b)))):=by
 refine aD.of (n:=16) Tryz.func17 rfl rfl rfl rfl rfl fun cx hfr=>?_;refine sr rfl ?_;refine p2 (cC (i:=0)) ?_;refine p2 (cC (i:=1)) ?_;refine xn ?_;refine RV.done ?_;refine CV.seq ?_;refine CV.region rfl (fun _=>by kernel_rfl) ?_;refine p1 (bJ dH) ?_;refine p1 (bM 0 dG aK) ?_;refine p1 (aJ aC) ?_;refine xc (oB _ _) Tryz.func77 (xa rfl) hfr ?_;refine xd rfl (pB _ _ (by omega) (by omega)) Tryz.func76 (xb rfl rfl) hfr ?_;refine p1 (bJ dH) ?_;refine p1 (bM 0 dG aK) ?_;refine p1 (aJ aC) ?_;refine xc (oB _ _) Tryz.func77 (xa rfl) hfr ?_;refine xd rfl (pB _ _ (by omega) (by omega)) Tryz.func76 (xb rfl rfl) hfr ?_;refine xc (aG9 _ _) Tryz.func75 (xb rfl rfl) hfr ?_;refine xn ?_;refine bU (by kernel_rfl) ?_;refine CV.ret ?_;exact aS rfl (.inr rfl) rfl (vA rfl)
theorem aSu (x:Int) (k:Nat):aD Tryz.prog 160 [.d (Dm.int x k)] (.one (.v (.int .i64 (bA x 0)))):=by
 refine aD.of (n:=6) Tryz.func160 rfl rfl rfl rfl rfl fun cx hfr=>?_;refine sr rfl ?_;refine p2 (cC (i:=0)) ?_;refine xn ?_;refine RV.done (sr rfl ?_);refine p1 (aJ aK) ?_;refine p1 (aDi rfl rfl bd) ?_;refine xc (aG9 _ _) Tryz.func75 (xb rfl rfl) hfr ?_;refine xn ?_;refine RV.done ?_;refine CV.ret ?_;exact aS rfl (.inr rfl) rfl (vA rfl)
theorem aRe (a:Rat) (k:Nat):aD Tryz.prog 91 [RT a k] (.one (.v (.int .i64 (bA a.num 0)))):=by
 refine aD.of (n:=6) Tryz.func91 rfl rfl rfl rfl rfl fun cx hfr=>?_;refine sr rfl ?_;refine p2 (cC (i:=0)) ?_;refine xn ?_;refine RV.done (sr rfl ?_);refine p1 (bJ dH) ?_;refine p1 (bM 0 dG aK) ?_;refine xc (aSu _ _) Tryz.func160 (xa rfl) hfr ?_;refine xn ?_;refine RV.done ?_;refine CV.ret ?_;exact aS rfl (.inr rfl) rfl (vA rfl)
section
variable {cx:Cx Dm} {n:Nat} {σ:St Dm} {o:Oper} {d t:Nat} {x y:Operand} {T T':TypeId}
end
set_option linter.unusedSectionVars false
inductive aBl (B:Nat):Int->Int->Int->Int->Int->Int->Prop where
 | whole {a b c d:Int}:a%b=0->b≠0->len (a/b)<=B->aBl B a b c d (a/b) 1
 | next {a b c d:Int}:a%b≠0->b≠0->d≠0->a/b<c/d->len (a/b+1)<=B->aBl B a b c d (a/b+1) 1
 | step {a b c d q p:Int}:a%b≠0->b≠0->d≠0->¬ a/b<c/d->aBl B d (c%d) b (a%b) q p->len (a/b*q+p)<=B->len q<=B->aBl B a b c d (a/b*q+p) q
section
variable (a b c d:Int) (j1 j2 j3 j4 B:Nat) (hj1:j1<=1000000) (hj2:j2<=1000000) (hj3:j3<=1000000) (hj4:j4<=1000000) (hB1:1<=B) (hB:B<=1000000)
include hj1 hj2 hj3 hj4 hB1 hB
end
end Vc
end Go.Proofs.YtbaihklbefhgdaaGreat

namespace Go.Proofs.YtbaihklbefhgdaaGreat
open Go.RowKit
open Go.Lib (hid)
open Dg Zn
namespace Vc
end Vc
end Go.Proofs.YtbaihklbefhgdaaGreat
