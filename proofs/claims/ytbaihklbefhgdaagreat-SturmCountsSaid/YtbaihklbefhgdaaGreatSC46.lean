/-
  
-/
import Derived.Test.YtbaihklbefhgdaaGreatSC11
import Derived.Test.YtbaihklbefhgdaaGreatSC45
import Derived.Test.YtbaihklbefhgdaaGreatSC42
set_option linter.unusedVariables false
set_option linter.unusedSimpArgs false
set_option linter.unusedSectionVars false
namespace Go.Proofs.YtbaihklbefhgdaaGreat
open Go.RowKit
open Go.Lib (hid)
open Dg Zn
namespace Vc
set_option maxRecDepth 100000
theorem xY:Tryz.prog.underlying 43=some (.slice 47):=by kernel_rfl
theorem aFr:dL Tryz.prog 43 none:=dL.one (by kernel_rfl) (by kernel_rfl)
theorem aNp:(Tryz.prog.info? 43).map (·.size)=some 1:=by kernel_rfl
theorem aUg:(Tryz.prog.info? 43).map (·.zero)=some (some (.slice none 0 0)):=by kernel_rfl
theorem aOs:(Tryz.prog.info? 47).map (fun i=>(i.size,i.zero))=some (8,some (.agg #[.bool false,.slice none 0 0,.bool false,.slice none 0 0,.bool false,.slice none 0 0,.bool false,.slice none 0 0])):=by kernel_rfl
theorem aN8:(Tryz.prog.info? 47).map (fun i=>(i.zero,i.size,i.bytes))=some (some (.agg #[.bool false,.slice none 0 0,.bool false,.slice none 0 0,.bool false,.slice none 0 0,.bool false,.slice none 0 0]),8,128):=by kernel_rfl
theorem aOt:(Tryz.prog.info? 105).map (fun i=>(i.size,i.zero))=some (5,some (.agg #[.bool false,.slice none 0 0,.bool false,.slice none 0 0,.int .i64 0])):=by kernel_rfl
theorem aZk:(Tryz.prog.info? 105).map (fun i=>(i.zero,i.size,i.bytes))=some (some (.agg #[.bool false,.slice none 0 0,.bool false,.slice none 0 0,.int .i64 0]),5,72):=by kernel_rfl
abbrev enP (x:Rat) (K:Nat) (c:Int):SA Dm:=.d (Dm.gen (pG (some 5) (EG x K c)))
abbrev ivF (l:List (List Rat)) (B:Nat) (lo hi:Rat) (K:Nat) (c d:Int):SA Dm:=.d (Dm.gen (rM 159 [enP hi K d,enP lo K c,lB l B]))
theorem aP0 (l:List (List Rat)) (B:Nat) (lo hi:Rat) (K:Nat) (c d:Int):aD Tryz.prog 89 [jV l B,EG lo K c,EG hi K d] (.one (ivF l B lo hi K c d)):=by
 refine aD.of (n:=8) Tryz.func89 rfl rfl rfl rfl rfl fun cx hfr=>?_;refine sr rfl ?_;refine p1 (lL) ?_;refine p1 (lL) ?_;refine p1 (lL) ?_;refine xn ?_;refine RV.done (sr rfl ?_);refine p1 (uR (caps:=[.tmp 5,.tmp 4,.tmp 3]) (ss:=[_,_,_]) rfl rfl bd (.cons rfl cT.any (xb rfl rfl)) rfl) ?_;refine xn ?_;refine RV.done ?_;refine CV.ret ?_;exact aS rfl (.inr rfl) rfl cL
theorem aVy {K:Nat}:aB1 (.one (RT 0 K):AV Dm):=by
 intro L L' ρ w v h w' _;obtain⟨s,t,e,n1,n2,k1,k2⟩:=h w (Agree.refl _ _);obtain⟨a1,c1,e1,h1,h2,_⟩:=n1;obtain⟨a2,c2,e2,h3,h4,_⟩:=n2;have d1:aA (0:Rat).num.natAbs=[]:=by decide +kernel
 have d2:aA (qd (0:Rat)).natAbs=[]:=by decide +kernel
 refine⟨s,t,e,?_,?_,k1,k2⟩
 ·rw[d1] at e1 h1 |-; rw[e1]; exact aL.nil h2
 ·rw[d2] at e2 h3 |-; rw[e2]; exact aL.nil h4
abbrev jA:TypeId:=47
abbrev jT:Sg Dm:=[(.b 500,.blk 43 [(none,.sl 501 0)]),(.b 501,.row jA (some 8) [])]
abbrev is1 (a:SA Dm):Sg Dm:=[(.b 500,.blk 43 [(none,.sl 502 1)]),(.b 502,.row jA (some 8) [a]),(.b 501,.dead)]
abbrev is2 (a b:SA Dm):Sg Dm:=[(.b 500,.blk 43 [(none,.sl 503 2)]),(.b 503,.row jA (some 8) [a,b]),(.b 502,.dead),(.b 501,.dead)]
abbrev isY (lo hi:Rat) (K:Nat) (l0:Nat) (rec:Loop) (ρ:aR) (L:Nat->Prop) (w:World):Prop :=
 YAt Tryz.prog 0 l0 rec [500,501] ρ L w [PR lo 0 K K] jT (is1 (PR lo 0 K K)) [502]/\YAt Tryz.prog 0 l0 rec [500,501] ρ L w [PR 0 hi K K] (is1 (PR lo 0 K K)) (is2 (PR lo 0 K K) (PR 0 hi K K)) [503]
set_option maxHeartbeats 1000000 in
theorem aPw (l:List (List Rat)) (lo hi:Rat) (B K:Nat) (hl:l.length<=1000000) (hK:K<=100000) (h0:aH [(0:Rat)] K=true) (hE:fM l 0 B K) (hmid:nP lo hi=0) (h1:bC lo l-bC hi l=2) (h2:bC lo l-bC 0 l=1) (h3:bC 0 l-bC hi l=1):yK Tryz.prog 159 [enP hi K (bC hi l),enP lo K (bC lo l),lB l B] jT (is2 (PR lo 0 K K) (PR 0 hi K K)) [502,503] (isY lo hi K):=by
 have c1:=lM lo l;have c2:=lM hi l;have c3:=lM 0 l;refine yK.of (n:=61) (by exact List.cons_ne_nil _ _) Tryz.func159 rfl rfl rfl rfl rfl (fun _=>rfl) rfl rfl fun l0 rec cx ρ0 hNI hrec hL0 hY hW hBw=>?_;refine sr rfl ?_;refine p1 (bT dQ) ?_;refine gI (aN.plain (aXs (r:=600) iV aOt rfl rfl rfl (by intro s hs; obtain rfl:=List.mem_singleton.1 hs; rfl) rfl rfl rfl bd (xa rfl) rfl rfl rfl) rfl) ?_;refine xn ?_;refine RV.done (sr rfl ?_);refine p1 (bT dQ) ?_;refine p2 (aU (i:=0) kV) ?_;refine p2 (jG (dQ).2) ?_;refine RV.done ?_;refine CV.block ?_;refine CV.loop (X:={k:Nat // k<=3}) (fun k=>match k.1 with | 0=>[(.s 0,.av (.one (.v (fO l0)))),(.s 3,.av (.one (lB l B))),(.s 6,.av (.one (.ptr 0 0))),(.b 0,.blk 105 [(some 5,EG lo K (bC lo l))]),(.s 5,.av (.one (.sl 600 1))),(.b 600,.row 105 (some 5) [EG hi K (bC hi l)]),(KP,.np [0,600]),(dO,eX (bK jT) ρ0 (List.cons_ne_nil _ _)),(.b 500,.blk 43 [(none,.sl 501 0)]),(.b 501,.row jA (some 8) [])] | 1=>[(.s 0,.av (.one (.v (fO l0)))),(.s 3,.av (.one (lB l B))),(.s 6,.av (.one (.ptr 0 0))),(.b 0,.blk 105 [(some 5,EG lo K (bC lo l))]),(.s 5,.av (.one (.sl 601 2))),(.b 601,.row 105 (some 5) [EG hi K (bC hi l),EG 0 K (bC 0 l)]),(KP,.np [0,601]),(dO,eX (bK jT) ρ0 (List.cons_ne_nil _ _)),(.b 500,.blk 43 [(none,.sl 501 0)]),(.b 501,.row jA (some 8) [])] | 2=>[(.s 0,.av (.one (.v (fO l0)))),(.s 3,.av (.one (lB l B))),(.s 6,.av (.one (.ptr 0 0))),(.b 0,.blk 105 [(some 5,EG 0 K (bC 0 l))]),(.s 5,.av (.one (.sl 601 1))),(.b 601,.row 105 (some 5) [EG hi K (bC hi l)]),(KP,.np [0,601]),(dO,eX (bK jT) ρ0 (List.cons_ne_nil _ _)),(.b 500,.blk 43 [(none,.sl 502 1)]),(.b 502,.row jA (some 8) [PR lo 0 K K]),(.b 501,.dead)] | _=>[(.s 5,.av (.one (.sl 601 0))),(.b 601,.dead),(dO,eX (bK jT) ρ0 (List.cons_ne_nil _ _)),(.b 500,.blk 43 [(none,.sl 503 2)]),(.b 503,.row jA (some 8) [PR lo 0 K K,PR 0 hi K K]),(.b 502,.dead),(.b 501,.dead)]) (fun k=>4-k.1) ⟨0,by decide⟩ ?_ (fun k=>?_)
 ·show aZ _ [(.s 0,.av (.one (.v (fO l0)))),(.s 3,.av (.one (lB l B))),(.s 6,.av (.one (.ptr 0 0))),(.b 0,.blk 105 [(some 5,EG lo K (bC lo l))]),(.s 5,.av (.one (.sl 600 1))),(.b 600,.row 105 (some 5) [EG hi K (bC hi l)]),(KP,.np [0,600]),(dO,eX (bK jT) ρ0 (List.cons_ne_nil _ _)),(.b 500,.blk 43 [(none,.sl 501 0)]),(.b 501,.row jA (some 8) [])];exact aZ.mk ⟨aB _,aB _,aB _,aB _,aB _,aB _,trivial,aB _,aB _,aB _,trivial⟩ rfl rfl 
 rcases k with ⟨_ | _ | _ | _ | k,hk⟩
 rotate_right 1
 ·exact absurd hk (by omega)
 ·show CV _ _ _ _ [(.s 0,.av (.one (.v (fO l0)))),(.s 3,.av (.one (lB l B))),(.s 6,.av (.one (.ptr 0 0))),(.b 0,.blk 105 [(some 5,EG lo K (bC lo l))]),(.s 5,.av (.one (.sl 600 1))),(.b 600,.row 105 (some 5) [EG hi K (bC hi l)]),(KP,.np [0,600]),(dO,eX (bK jT) ρ0 (List.cons_ne_nil _ _)),(.b 500,.blk 43 [(none,.sl 501 0)]),(.b 501,.row jA (some 8) [])] _;refine CV.seq ?_;refine sr rfl ?_;refine xm ?_;refine p1 (mY iV) ?_;refine p1 (gC) ?_;refine RV.done ?_;refine CV.yes rfl ?_;refine CV.skip ?_;refine CV.seq ?_;refine CV.block ?_;refine sr rfl ?_;refine xm ?_;refine xm ?_;refine p1 (mY iV) ?_;refine p1 (dU (c:=((0:Nat):Int)) (by decide) rfl rfl bd rfl rfl) ?_;refine p1 (mZ (i:=0) (m:=1) (by decide) (Nat.le_refl _) iV xZ rfl rfl bd rfl rfl rfl) ?_;refine p1 (uH (i:=0) rfl rfl dQ (by decide) rfl rfl bd rfl rfl) ?_;refine p2 (aU (i:=1) kV) ?_;refine p2 (jG (dQ).2) ?_;refine RV.done (sr rfl ?_);refine p1 (bJ rB) ?_;refine p1 (bM 4 rA kX) ?_;refine p1 (bJ rB) ?_;refine p1 (bM 4 rA kX) ?_;refine p1 (dU (c:=2) (by rw[h1]; rfl) rfl rfl bd rfl rfl) ?_;refine xn ?_;refine RV.done ?_;refine CV.seq ?_;refine sr rfl ?_;refine xm ?_;refine p1 (gC) ?_;refine RV.done ?_;refine CV.yes rfl ?_;refine sr rfl ?_;refine p1 (bJ vC) ?_;refine p1 (bM 0 vB aC) ?_;refine p1 (bJ vC) ?_;refine p1 (bM 0 vB aC) ?_;refine p1 (aD1 (((aCy lo hi K K (by omega) (by omega)).mono (fun _ _ _ _ h=>h) (vI (b:=0) hmid)).mono (fun _ _ _ _ h=>h) (eQ (B:=K) h0)) aVy hW rfl rfl bd Tryz.func94 rfl rfl (xb rfl rfl) rfl) ?_;refine p2 (aU (i:=2) cI) ?_;refine p1 (aQ (aC).2) ?_;refine RV.done ?_;refine CV.seq ?_;refine CV.region rfl (fun _=>by kernel_rfl) ?_;refine xm ?_;refine p1 (aJ aC) ?_;refine p1 (bT aJ7) ?_;refine p1 (aJ aC) ?_;refine p1 (aD1 (tB l 0 B K hl hE) (aOa _) hW rfl rfl bd Tryz.func20 rfl rfl (xb rfl rfl) rfl) ?_;refine p1 (aJa rfl rfl bd rfl rfl) ?_;refine p1 (fH (k:=some 5) (G:=Dm.gen (cA (some 5) [EG 0 K (bC 0 l)])) (cS _ _) iV aOt rfl rfl rfl (by intro s hs; obtain rfl:=List.mem_singleton.1 hs; rfl) rfl rfl rfl bd (xa rfl)) ?_;refine aWp (aN.plain (aRp (r:=600) (r':=601) (k:=some 5) (gU (by decide) rfl) (Nat.le_of_ble_eq_true rfl) (Nat.le_of_ble_eq_true rfl) iV aZk rfl rfl rfl rfl rfl bd rfl rfl rfl rfl rfl rfl rfl) rfl) ?_;refine xn ?_;refine bU (by kernel_rfl) ?_;refine CV.exit ?_;refine sr rfl ?_;refine p1 (aJ dQ) ?_;refine RV.done ?_;refine CV.region rfl (fun h=>nomatch h) ?_;refine p2 (aU (i:=3) kV) ?_;refine p2 (jG (dQ).2) ?_;refine RV.done ?_;refine⟨⟨1,by decide⟩,?_,Nat.le_of_ble_eq_true rfl⟩;show aZ _ [(.s 0,.av (.one (.v (fO l0)))),(.s 3,.av (.one (lB l B))),(.s 6,.av (.one (.ptr 0 0))),(.b 0,.blk 105 [(some 5,EG lo K (bC lo l))]),(.s 5,.av (.one (.sl 601 2))),(.b 601,.row 105 (some 5) [EG hi K (bC hi l),EG 0 K (bC 0 l)]),(KP,.np [0,601]),(dO,eX (bK jT) ρ0 (List.cons_ne_nil _ _)),(.b 500,.blk 43 [(none,.sl 501 0)]),(.b 501,.row jA (some 8) [])];exact kW (fun i=>if i=0 then 3 else i) ⟨fun _ _ _ _ h=>h,fun _ _ _ _ h=>h,fun _ _ _ _ h=>h,⟨rfl,fun _ _ _ _ h=>h⟩,mK rfl rfl,fC rfl,trivial,aDq rfl,⟨rfl,fun _ _ _ _ h=>h⟩,fC rfl,trivial⟩ rfl rfl rfl rfl
 ·show CV _ _ _ _ [(.s 0,.av (.one (.v (fO l0)))),(.s 3,.av (.one (lB l B))),(.s 6,.av (.one (.ptr 0 0))),(.b 0,.blk 105 [(some 5,EG lo K (bC lo l))]),(.s 5,.av (.one (.sl 601 2))),(.b 601,.row 105 (some 5) [EG hi K (bC hi l),EG 0 K (bC 0 l)]),(KP,.np [0,601]),(dO,eX (bK jT) ρ0 (List.cons_ne_nil _ _)),(.b 500,.blk 43 [(none,.sl 501 0)]),(.b 501,.row jA (some 8) [])] _;refine CV.seq ?_;refine sr rfl ?_;refine xm ?_;refine p1 (mY iV) ?_;refine p1 (gC) ?_;refine RV.done ?_;refine CV.yes rfl ?_;refine CV.skip ?_;refine CV.seq ?_;refine CV.block ?_;refine sr rfl ?_;refine xm ?_;refine xm ?_;refine p1 (mY iV) ?_;refine p1 (dU (c:=((1:Nat):Int)) (by decide) rfl rfl bd rfl rfl) ?_;refine p1 (mZ (i:=1) (m:=2) (by decide) (Nat.le_refl _) iV xZ rfl rfl bd rfl rfl rfl) ?_;refine p1 (uH (i:=1) rfl rfl dQ (by decide) rfl rfl bd rfl rfl) ?_;refine p2 (aU (i:=1) kV) ?_;refine p2 (jG (dQ).2) ?_;refine RV.done (sr rfl ?_);refine p1 (bJ rB) ?_;refine p1 (bM 4 rA kX) ?_;refine p1 (bJ rB) ?_;refine p1 (bM 4 rA kX) ?_;refine p1 (dU (c:=1) (by rw[h2]; rfl) rfl rfl bd rfl rfl) ?_;refine xn ?_;refine RV.done ?_;refine CV.seq ?_;refine sr rfl ?_;refine xm ?_;refine p1 (gC) ?_;refine RV.done ?_;refine CV.no rfl ?_;refine CV.skip ?_;refine CV.seq ?_;refine CV.seq ?_;refine aIn 1 ?_;refine cU.step rfl (aN.plain (cB (.inl rfl)) rfl) ?_;refine cU.step rfl (aN.plain (cW) rfl) ?_;refine cU.step rfl (aN.plain (cB (.inl rfl)) rfl) ?_;refine cU.step rfl (aN.yes (cB (.inl rfl)) rfl rfl rfl) ?_;refine cU.step rfl (aN.yes (bJ vC) rfl rfl rfl) ?_;refine cU.step rfl (aN.yes (bM 0 vB aC) rfl rfl rfl) ?_;refine cU.step rfl (aN.yes (bJ vC) rfl rfl rfl) ?_;refine cU.step rfl (aN.yes (bM 0 vB aC) rfl rfl rfl) ?_;refine cU.step rfl (aN.yes (aH0 rfl rfl bd rfl rfl) rfl rfl rfl) ?_;refine aJ0 (aHo (hne:=List.cons_ne_nil _ _) hrec hL0 hY.1 hW rfl rfl rfl rfl rfl rfl (by decide) rfl (xa rfl) ⟨rfl,rfl,trivial⟩ ⟨rfl,trivial⟩ rfl rfl rfl rfl) ?_;refine cU.step rfl (aN.yes (lN) rfl rfl rfl) ?_;refine cU.step rfl (aN.plain (cX) rfl) ?_;refine cU.done ?_;refine CV.no rfl ?_;refine CV.skip ?_;refine CV.region rfl (fun _=>by kernel_rfl) ?_;refine p1 (aJ dQ) ?_;refine xm ?_;refine xm ?_;refine p1 (mY iV) ?_;refine p1 (dU (c:=((1:Nat):Int)) (by decide) rfl rfl bd rfl rfl) ?_;refine p2 (aMj (m':=1) (Nat.le_of_ble_eq_true rfl) iV ⟨_,xZ⟩ rfl rfl bd rfl rfl rfl rfl) ?_;refine p2 (jG (dQ).2) ?_;refine xn ?_;refine bU (by kernel_rfl) ?_;refine sr rfl ?_;refine p1 (aJ dQ) ?_;refine RV.done ?_;refine CV.region rfl (fun h=>nomatch h) ?_;refine p2 (aU (i:=2) kV) ?_;refine p2 (jG (dQ).2) ?_;refine RV.done ?_;refine⟨⟨2,by decide⟩,?_,Nat.le_of_ble_eq_true rfl⟩;show aZ _ [(.s 0,.av (.one (.v (fO l0)))),(.s 3,.av (.one (lB l B))),(.s 6,.av (.one (.ptr 0 0))),(.b 0,.blk 105 [(some 5,EG 0 K (bC 0 l))]),(.s 5,.av (.one (.sl 601 1))),(.b 601,.row 105 (some 5) [EG hi K (bC hi l)]),(KP,.np [0,601]),(dO,eX (bK jT) ρ0 (List.cons_ne_nil _ _)),(.b 500,.blk 43 [(none,.sl 502 1)]),(.b 502,.row jA (some 8) [PR lo 0 K K]),(.b 501,.dead)];exact kW (fun i=>if i=0 then 2 else i) ⟨fun _ _ _ _ h=>h,fun _ _ _ _ h=>h,fun _ _ _ _ h=>h,⟨rfl,fun _ _ _ _ h=>h⟩,mK rfl rfl,fC rfl,trivial,aDq rfl,⟨rfl,fun _ _ _ _ h=>h⟩,fC rfl,trivial,trivial⟩ rfl rfl rfl rfl
 ·show CV _ _ _ _ [(.s 0,.av (.one (.v (fO l0)))),(.s 3,.av (.one (lB l B))),(.s 6,.av (.one (.ptr 0 0))),(.b 0,.blk 105 [(some 5,EG 0 K (bC 0 l))]),(.s 5,.av (.one (.sl 601 1))),(.b 601,.row 105 (some 5) [EG hi K (bC hi l)]),(KP,.np [0,601]),(dO,eX (bK jT) ρ0 (List.cons_ne_nil _ _)),(.b 500,.blk 43 [(none,.sl 502 1)]),(.b 502,.row jA (some 8) [PR lo 0 K K]),(.b 501,.dead)] _;refine CV.seq ?_;refine sr rfl ?_;refine xm ?_;refine p1 (mY iV) ?_;refine p1 (gC) ?_;refine RV.done ?_;refine CV.yes rfl ?_;refine CV.skip ?_;refine CV.seq ?_;refine CV.block ?_;refine sr rfl ?_;refine xm ?_;refine xm ?_;refine p1 (mY iV) ?_;refine p1 (dU (c:=((0:Nat):Int)) (by decide) rfl rfl bd rfl rfl) ?_;refine p1 (mZ (i:=0) (m:=1) (by decide) (Nat.le_refl _) iV xZ rfl rfl bd rfl rfl rfl) ?_;refine p1 (uH (i:=0) rfl rfl dQ (by decide) rfl rfl bd rfl rfl) ?_;refine p2 (aU (i:=1) kV) ?_;refine p2 (jG (dQ).2) ?_;refine RV.done (sr rfl ?_);refine p1 (bJ rB) ?_;refine p1 (bM 4 rA kX) ?_;refine p1 (bJ rB) ?_;refine p1 (bM 4 rA kX) ?_;refine p1 (dU (c:=1) (by rw[h3]; rfl) rfl rfl bd rfl rfl) ?_;refine xn ?_;refine RV.done ?_;refine CV.seq ?_;refine sr rfl ?_;refine xm ?_;refine p1 (gC) ?_;refine RV.done ?_;refine CV.no rfl ?_;refine CV.skip ?_;refine CV.seq ?_;refine CV.seq ?_;refine aIn 1 ?_;refine cU.step rfl (aN.plain (cB (.inl rfl)) rfl) ?_;refine cU.step rfl (aN.plain (cW) rfl) ?_;refine cU.step rfl (aN.plain (cB (.inl rfl)) rfl) ?_;refine cU.step rfl (aN.yes (cB (.inl rfl)) rfl rfl rfl) ?_;refine cU.step rfl (aN.yes (bJ vC) rfl rfl rfl) ?_;refine cU.step rfl (aN.yes (bM 0 vB aC) rfl rfl rfl) ?_;refine cU.step rfl (aN.yes (bJ vC) rfl rfl rfl) ?_;refine cU.step rfl (aN.yes (bM 0 vB aC) rfl rfl rfl) ?_;refine cU.step rfl (aN.yes (aH0 rfl rfl bd rfl rfl) rfl rfl rfl) ?_;refine aJ0 (aHo (hne:=List.cons_ne_nil _ _) hrec hL0 hY.2 hW rfl rfl rfl rfl rfl rfl (by decide) rfl (xa rfl) ⟨rfl,rfl,rfl,trivial⟩ ⟨rfl,trivial⟩ rfl rfl rfl rfl) ?_;refine cU.step rfl (aN.yes (lN) rfl rfl rfl) ?_;refine cU.step rfl (aN.plain (cX) rfl) ?_;refine cU.done ?_;refine CV.no rfl ?_;refine CV.skip ?_;refine CV.region rfl (fun _=>by kernel_rfl) ?_;refine p1 (aJ dQ) ?_;refine xm ?_;refine xm ?_;refine p1 (mY iV) ?_;refine p1 (dU (c:=((0:Nat):Int)) (by decide) rfl rfl bd rfl rfl) ?_;refine p2 (aMj (m':=0) (Nat.le_of_ble_eq_true rfl) iV ⟨_,xZ⟩ rfl rfl bd rfl rfl rfl rfl) ?_;refine p2 (jG (dQ).2) ?_;refine xn ?_;refine bU (by kernel_rfl) ?_;refine sr rfl ?_;refine p1 (aJ dQ) ?_;refine RV.done ?_;refine CV.region rfl (fun h=>nomatch h) ?_;refine p2 (aU (i:=2) kV) ?_;refine p2 (jG (dQ).2) ?_;refine RV.done ?_;refine⟨⟨3,by decide⟩,?_,Nat.le_of_ble_eq_true rfl⟩;show aZ _ [(.s 5,.av (.one (.sl 601 0))),(.b 601,.dead),(dO,eX (bK jT) ρ0 (List.cons_ne_nil _ _)),(.b 500,.blk 43 [(none,.sl 503 2)]),(.b 503,.row jA (some 8) [PR lo 0 K K,PR 0 hi K K]),(.b 502,.dead),(.b 501,.dead)];exact kW (fun i=>i) ⟨mK rfl rfl,trivial,aDq rfl,⟨rfl,fun _ _ _ _ h=>h⟩,fC rfl,trivial,trivial,trivial⟩ rfl rfl rfl rfl
 ·show CV _ _ _ _ [(.s 5,.av (.one (.sl 601 0))),(.b 601,.dead),(dO,eX (bK jT) ρ0 (List.cons_ne_nil _ _)),(.b 500,.blk 43 [(none,.sl 503 2)]),(.b 503,.row jA (some 8) [PR lo 0 K K,PR 0 hi K K]),(.b 502,.dead),(.b 501,.dead)] _;refine CV.seq ?_;refine sr rfl ?_;refine xm ?_;refine p1 (mY iV) ?_;refine p1 (gC) ?_;refine RV.done ?_;refine CV.no rfl ?_;refine CV.exit ?_;exact bAb rfl (.inl rfl) rfl ⟨rfl,rfl,trivial⟩ (fun _=>rfl)
section
variable (p:List Rat) (L:List (List Rat × Rat)) (y:Rat) (B K n:Nat) (hB:B<=300000) (hK6:6<=K) (hK:K<=100000) (hp:p.length<=17) (hp0:p≠[]) (hv:aG p≠0) (hz:∀ k,k<p.length->aH [p.getD k 0/aG p] B=true) (hels:lY B p=some L) (hL:L.length<=1000000) (hbn:aH [iO p] K=true) (hE:∀ x,aH [x] K=true->fM (L.map (·.1)) x B K) (hends:nM (L.map (·.1)) (bC (-(iO p)) (L.map (·.1))-bC (iO p) (L.map (·.1))) K n (Rat.divInt 2 1)=some y)
 (h0:aH [(0:Rat)] K=true) (hmid:nP (-y) y=0) (h1:bC (-y) (L.map (·.1))-bC y (L.map (·.1))=2) (h2:bC (-y) (L.map (·.1))-bC 0 (L.map (·.1))=1) (h3:bC 0 (L.map (·.1))-bC y (L.map (·.1))=1)
include hB hK6 hK hp hp0 hv hz hels hL hbn hE hends h0 hmid h1 h2 h3
set_option maxHeartbeats 2000000 in
set_option maxRecDepth 100000 in
theorem aQ0:aD Tryz.prog 24 [PL p B] (.tup [.d (Dm.gen (aGo 2)),.v (.int .i64 0)]):=by
 have hll:(L.map (·.1)).length<=1000000:=by rw[List.length_map]; exact hL
 have hp1:0<p.length:=List.length_pos_iff.2 hp0;intro L1 ρ w vs hlt hni hWf hall;refine(callsIn_wide (n:=9)).1 ?_;refine callsIn_of_wp_marks Tryz.func24 rfl trivial ?_ rfl;refine wpIn_wide.2 ?_;obtain⟨cx,hcx⟩:∃ cx:jD Dm,cx=⟨w,L1,hlt,false,fun _=>False,fun _ q=>q.elim,fun _ _ q=>q,fun _=>hni,fun _ w' hk=>bO.W_keep _ _ (hk.below fun _ q=>q) hWf⟩:=⟨_,rfl⟩
 have x1:cx.w0=w:=by rw[hcx]
 have x2:cx.L0=L1:=by rw[hcx]
 have hfr:cx.fr=false:=by rw[hcx]
 have hstart:=aD.start (fn:=Tryz.f24) (args:=[PL p B]) rfl (Nat.le_of_ble_eq_true rfl) hall x1 x2;refine(?_:mB Tryz.prog cx 41 _ (iL 0 [PL p B]) _) _ _ hstart;refine mB.seq ?_;refine CV.region rfl (fun h=>nomatch h) ?_;refine p1 (cB (.inr rfl)) ?_;refine p1 (cB (.inr rfl)) ?_;refine RV.done ?_;refine⟨rfl,?_⟩;refine mB.seq ?_;refine CV.block ?_;refine CV.seq ?_;refine CV.region rfl (fun h=>nomatch h) ?_;refine p1 (cB (.inl rfl)) ?_;refine p1 (bL aV bE) ?_;refine p1 (cW) ?_;refine p1 (cB (.inl rfl)) ?_;refine RV.bool (fun hb=>False.elim (by have:=of_decide_eq_true hb; omega)) (fun hb=>?_);refine y1 (cB (.inl rfl)) ?_;refine y1 (cG (aYr p B (by omega) (by omega) (fun q=>hv q.2)) rfl rfl (by decide) Tryz.func87 rfl rfl (.cons rfl cT.any .nil) rfl hfr rfl) ?_;refine y1 (lN) ?_;refine p1 (eI) ?_;refine p1 (cB (.inr rfl)) ?_;refine RV.done ?_;refine CV.no rfl ?_;refine CV.seq ?_;refine CV.region rfl (fun h=>nomatch h) ?_;refine p1 (cB (.inl rfl)) ?_;refine p1 (cG (qK p B (by omega)) rfl rfl (by decide) Tryz.func68 rfl rfl (.cons rfl cT.any .nil) rfl hfr rfl) ?_;refine p1 (gC) ?_;refine p1 (cB (.inr rfl)) ?_;refine RV.done ?_;refine CV.cond rfl (fun hc=>False.elim (by have:=of_decide_eq_true hc; omega)) (fun hc=>?_);refine CV.skip ?_;refine⟨rfl,?_⟩;refine mB.seq ?_;refine CV.region rfl (fun h=>nomatch h) ?_;refine p1 (cB (.inl rfl)) ?_;refine p1 (cG (aIs p L B hB (by omega) hels hL) rfl rfl (by decide) Tryz.func82 rfl rfl (.cons rfl cT.any .nil) rfl hfr rfl) ?_;refine p1 (cB (.inr rfl)) ?_;refine RV.done ?_;refine⟨rfl,?_⟩;refine mB.seq ?_;refine CV.region rfl (fun h=>nomatch h) ?_;refine p1 (cB (.inl rfl)) ?_;refine p1 (cB (.inl rfl)) ?_;refine p1 (cG ((aDs p B hB (by omega) hz).mono (fun _ _ _ _ h=>h) (eQ (B:=K) hbn)) rfl rfl (by decide) Tryz.func16 rfl rfl (.cons rfl cT.any .nil) rfl hfr rfl) ?_;refine p1 (cG (aV3 (L.map (·.1)) (iO p) y B K n hll hK6 hK hbn hE hends) rfl rfl (by decide) Tryz.func88 rfl rfl (.cons rfl cT.any (.cons rfl cT.any .nil)) rfl hfr rfl) ?_;refine p1 (cB (.inl rfl)) ?_;refine p1 (cO) ?_;refine p1 (cO) ?_;refine p2 (aU (i:=0) kV) ?_;refine p2 (aU (i:=1) kV) ?_;refine p2 (jG (dQ).2) ?_;refine p2 (jG (dQ).2) ?_;refine RV.done ?_;refine⟨rfl,?_⟩;refine mB.seq ?_;refine aIo (r:=0) (t:=5) (fun _ _ _ _=>cx.bw hfr _) rfl rfl rfl rfl ?_;refine aIo (r:=1) (t:=6) (fun _ _ _ _=>cx.bw hfr _) rfl rfl rfl rfl ?_;refine CV.kp [] rfl rfl ?_;refine CV.region rfl (fun h=>nomatch h) ?_;refine p2 (aU (i:=500) aUg) ?_;refine RV.done ?_;refine⟨rfl,?_⟩;refine aWz ?_;refine aUe 500 501 43 jA (some 8) rfl rfl rfl rfl rfl ?_;refine CV.region rfl (fun h=>nomatch h) ?_;refine p1 (cB (.inl rfl)) ?_;refine p1 (bT dQ) ?_;refine p1 (bT dQ) ?_;refine p1 (cG (aP0 (L.map (·.1)) B (-y) y K (bC (-y) (L.map (·.1))) (bC y (L.map (·.1)))) rfl rfl (by decide) Tryz.func89 rfl rfl (.cons rfl cT.any (.cons rfl cT.any (.cons rfl cT.any .nil))) rfl hfr rfl) ?_;refine RV.done ?_;refine⟨rfl,?_⟩;intro a1 w1 ⟨ρ1,hC1⟩;have hs7:=hC1.slt 7 (.one (.ptr 500 0)) rfl;have hsz1:a1.tmps.size=41:=hC1.size;refine wp_block ((wpIn_wide (n:=9)).1 ?_);refine aU0 (m:=9) hC1 hfr rfl (p0:=35) (bl:=jT) (bl':=is2 (PR (-y) 0 K K) (PR 0 y K K)) (nw:=[502,503]) (by decide) rfl Tryz.func159 rfl rfl (aPw (L.map (·.1)) (-y) y B K hll hK h0 (hE 0 h0) hmid h1 h2 h3) ?hYs ⟨rfl,rfl,trivial⟩ ⟨rfl,rfl,trivial⟩ rfl rfl rfl rfl ?hK
 case hYs =>
  intro fn l0 L2 w2 hG hl0;have hsl:∀ k x,(k,x)∈([(.s 7,.av (.one (.ptr 500 0)))]:Sg Dm)->∃ t av,k=.s t/\t≠35/\x=.av av/\(∀ b∈av.ptrs,b=500)/\av.is L2 ρ1 w2 (a1.tmps.getD t undef):=by
   intro k x hm;have hm:=List.mem_singleton.1 hm;injection hm with e1 e2;subst e1; subst e2;exact⟨7,_,rfl,by decide,rfl,(fun b hb=>by simpa[AV.ptrs,SA.ptrs] using hb),hs7.go hG fun _ _=>rfl⟩
  refine⟨?_,?_⟩
  ·refine aHd (n:=41) (bl:=jT) (SL:=[(.s 7,.av (.one (.ptr 500 0)))]) (List.cons_ne_nil _ _) hsz1 (by decide) rfl (fun k x hm=>?_) rfl rfl rfl rfl rfl rfl ?_
   ·obtain⟨t,av,q1,q2,q3,q4,q5⟩:=hsl k x hm;exact⟨t,av,q1,q2,q3,fun b hb=>by rw[q4 b hb]; exact⟨by decide,by decide⟩,q5⟩
   ·intro cx ρ;refine mC.region rfl (fun h=>nomatch h) rfl ?_;refine p2 (aU (i:=0) aL0) ?_;refine p1 (aQ (aBm).2) ?_;refine RV.done ⟨rfl,fun cx2=>?_⟩;refine mC.block ?_;refine mC.region rfl (fun h=>nomatch h) rfl ?_;refine p1 (aJ aFr) ?_;refine p1 (aJ aBm) ?_;refine p1 (fH (k:=some 8) (G:=Dm.gen (cA (some 8) [PR (-y) 0 K K])) (cS _ _) xY aOs rfl rfl rfl (by intro s hs; obtain rfl:=List.mem_singleton.1 hs; rfl) rfl rfl rfl (by decide) (.cons rfl cT.any .nil)) ?_;refine gI (aN.plain (iR (r:=501) (r':=502) (k:=some 8) (gU (by decide) rfl) (Nat.le_of_ble_eq_true rfl) (Nat.le_of_ble_eq_true rfl) xY aN8 rfl rfl rfl (by intro s hs; obtain rfl:=List.mem_singleton.1 hs; rfl) rfl rfl rfl (by decide) rfl rfl rfl rfl rfl rfl rfl rfl) rfl) ?_;refine p1 (aI7 rfl rfl rfl rfl rfl rfl aNp rfl rfl) ?_;exact RV.done ⟨rfl,rfl,⟨rfl,rfl,trivial⟩,rfl⟩
  ·refine aHd (n:=41) (bl:=is1 (PR (-y) 0 K K)) (SL:=[(.s 7,.av (.one (.ptr 500 0)))]) (List.cons_ne_nil _ _) hsz1 (by decide) rfl (fun k x hm=>?_) rfl rfl rfl rfl rfl rfl ?_
   ·obtain⟨t,av,q1,q2,q3,q4,q5⟩:=hsl k x hm;exact⟨t,av,q1,q2,q3,fun b hb=>by rw[q4 b hb]; exact⟨by show 500∈[500,502,501]; decide,by decide⟩,q5⟩
   ·intro cx ρ;refine mC.region rfl (fun h=>nomatch h) rfl ?_;refine p2 (aU (i:=0) aL0) ?_;refine p1 (aQ (aBm).2) ?_;refine RV.done ⟨rfl,fun cx2=>?_⟩;refine mC.block ?_;refine mC.region rfl (fun h=>nomatch h) rfl ?_;refine p1 (aJ aFr) ?_;refine p1 (aJ aBm) ?_;refine p1 (fH (k:=some 8) (G:=Dm.gen (cA (some 8) [PR 0 y K K])) (cS _ _) xY aOs rfl rfl rfl (by intro s hs; obtain rfl:=List.mem_singleton.1 hs; rfl) rfl rfl rfl (by decide) (.cons rfl cT.any .nil)) ?_;refine gI (aN.plain (iR (r:=502) (r':=503) (k:=some 8) (gU (by decide) rfl) (Nat.le_of_ble_eq_true rfl) (Nat.le_of_ble_eq_true rfl) xY aN8 rfl rfl rfl (by intro s hs; obtain rfl:=List.mem_singleton.1 hs; rfl) rfl rfl rfl (by decide) rfl rfl rfl rfl rfl rfl rfl rfl) rfl) ?_;refine p1 (aI7 rfl rfl rfl rfl rfl rfl aNp rfl rfl) ?_;exact RV.done ⟨rfl,rfl,⟨rfl,rfl,trivial⟩,rfl⟩
 case hK =>
  intro W hCC hD;show Code.wp _ (Code.seq _ _) _ _ _;refine wp_seq ?_;rw[fZ] at hCC;obtain⟨ρ3,hC3⟩:=hCC;have e7:a1.tmps.getD 7 undef=.pointer (some ⟨(ρ3 500).1,0,none⟩):=hC3.slt 7 (.one (.ptr 500 0)) rfl;obtain⟨cs,f1,pp,rr,y7,f2,f3,f4,f5⟩:=hC3.blk 500 43 [(none,.sl 503 2)] rfl;have hrow:=(hC3.row 503 jA (some 8) [PR (-y) 0 K K,PR 0 y K K] rfl).1;obtain⟨aa,f6,_⟩:=f4;have f7:cs=[y7]:=by rw[f2,f3.1,show rr=[] from f5]; rfl
  rw[f7] at f1;have hWw:Below w.heap.size w W:=by
   have:=hC3.kept.below (fun b=>cx.bw hfr b);rw[x1] at this;exact this
  have hw1:w.heap.size<=w1.heap.size:=by
   have:=hC1.kept.size;rw[x1] at this;exact this
  have hT:Conc (oU W (fun _=>False) (fun _ q=>q.elim) (fun _ q=>q.elim)) 41 ρ3 (aF .no [(.s 7,.av (.one (.d (Dm.gen (pG none (.v y7))))))]) a1 W:=by
   refine aIh (cx:=oU W (fun _=>False) (fun _ q=>q.elim) (fun _ q=>q.elim)) hC3.size hC3.defers (fun i=>rfl) fun t=>?_;by_cases e:t=7
   ·subst e;refine .inr ⟨_,rfl,rfl,?_⟩;rw[e7];exact aFu (ρ:=ρ3) (cs:=[y7]) f1 (fun q=>q) ⟨rfl,f3.2⟩ fun _ _=>rfl
   ·refine .inl ?_;show (bif Nat.beq 7 t then _ else _)=_;rw[show Nat.beq 7 t=false from by cases h:Nat.beq 7 t with | false=>rfl | true=>exact absurd (Nat.eq_of_beq_eq_true h).symm e];rfl
  refine wp_region_list (RV.later (ds:=[{ target:=.collected w1.heap.size,args:=#[] }]) (C:=CC (oU W (fun _=>False) (fun _ q=>q.elim) (fun _ q=>q.elim)) 41) (K:=fun l=>aF .no l (.s 2)=.av (.one (.v y7))/\aF .no l (.s 3)=.av (.one (.v (.int .i64 0)))) ?_ _ [] [(.s 7,.av (.one (.d (Dm.gen (pG none (.v y7))))))] a1 _ W ?_ ⟨ρ3,hT⟩ ⟨rfl,by show _::a1.defers=a1.defers++_; rw[hC3.defers]; rfl⟩)
  ·rintro l a2 a' w2 ⟨k1,k2⟩ ⟨ρ4,hC4⟩ hl2;refine wp_ret ?_;have hd':a'.defers=[{ target:=.collected w1.heap.size,args:=#[] }]:=by rw[hl2.2,hC4.defers]; rfl
   have hB4:Below W.heap.size W w2:=wX hC4;have hDl:w1.heap.size<W.heap.size:=(Array.getElem?_eq_some_iff.1 hD).1;have hD4:w2.heap[w1.heap.size]?=some (.deferred (some [])):=(hB4.block _ hDl).trans hD;have t2:a'.tmps.getD 2 undef=y7:=by rw[hl2.1]; exact hC4.slt 2 _ k1
   have t3:a'.tmps.getD 3 undef=.int .i64 0:=by rw[hl2.1]; exact hC4.slt 3 _ k2
   show LeavesInM Fence.wide 9 _ _ a'.tmps _ a'.defers .returning w2;rw[hd'];refine⟨by simp,.inl ⟨_,_,rfl,run_takeDeferred hD4,?_⟩⟩;refine⟨.tuple #[y7,.int .i64 0],?_,_,rfl,?_,?_⟩
   ·have hres:∀ tm:Array Value,tm.getD 2 undef=y7->tm.getD 3 undef=.int .i64 0->∀ W',(results Tryz.f24 tm).run Tryz.prog W'=.ok (.tuple #[y7,.int .i64 0]) W':=by
     intro tm g1 g2 W';have e:(results Tryz.f24 tm).run Tryz.prog W'=((jM tm (.tmp 2)).run Tryz.prog W').andThen fun v w=>((jM tm (.tmp 3)).run Tryz.prog w).andThen fun v' w=>.ok (.tuple #[v,v']) w:=by
      simp[results,show Tryz.f24.results=#[.tmp 2,.tmp 3] from rfl,jM,andThen_assoc]
     rw[e];simp only[jM,g1,g2];rfl
    exact hres _ t2 t3 _
   ·refine⟨hB4.os.trans hWw.os,hB4.tape.trans hWw.tape,hB4.output.trans hWw.output,?_,fun j hj=>?_⟩
    ·rw[World.putObj_size]; exact Nat.le_trans hWw.size hB4.size
    ·have:=hWw.size;rw[World.putObj_heap_other (by omega),hB4.block j (by omega)];exact hWw.block j hj
   ·exact⟨[y7,.int .i64 0],rfl,fun w' _=>⟨aa,_,f6,hrow.1,hrow.2.1⟩,rfl,trivial⟩
  ·refine p1 (bT aFr) ?_;refine p1 (cB (.inr rfl)) ?_;refine p1 (cB (.inr rfl)) ?_;exact RV.done ⟨rfl,rfl⟩
end
theorem aBu (d:Int) (zs:List Int) (r:List Rat) (h1 : -9223372036854775808<=d) (h2:d<=9223372036854775807) (h:aO9 d zs=r) (hr:aH r 100000=true) (hz:∀ i,-9223372036854775808<=zs.getD i 0/\zs.getD i 0<=9223372036854775807) (hl:zs.length<=1000000):aD Tryz.prog 83 [.v (.int .i64 d),ZI .i64 zs] (.one (PL r 100000)):=by
 subst h;exact(aXu d zs h1 h2 hz hl).mono (fun _ _ _ _ h=>h) (eR hr)
theorem aX6:lY 100000 [2,1]=some [([2,1],1),([1],1)]:=by decide +kernel
theorem aFc {p:List Rat} {x:Rat} (hp:(decide (p.length<=1000000)&&(aH p 100000&&decide (iD 100000 6 p.length<=1000000)))=true) (hx:aH [x] 6=true):fM [p] x 100000 6:=by
 refine⟨by decide,by decide,by decide,by decide,hx,fun q hq=>?_⟩;obtain rfl:=List.mem_singleton.1 hq;rw[Bool.and_eq_true,Bool.and_eq_true,decide_eq_true_eq,decide_eq_true_eq] at hp;exact⟨hp.1,hp.2.1,hp.2.2⟩
theorem aMy {x:Rat} (hx:aH [x] 6=true):fM (([([2,1],1),([1],1)]:List (List Rat × Rat)).map (·.1)) x 100000 6:=by
 refine⟨by decide,by decide,by decide,by decide,hx,fun p hp=>?_⟩;have h:∀ p∈(([([2,1],1),([1],1)]:List (List Rat × Rat)).map (·.1)),(decide (p.length<=1000000)&&(aH p 100000&&decide (iD 100000 6 p.length<=1000000)))=true:=by decide +kernel
 have:=h p hp;rw[Bool.and_eq_true,Bool.and_eq_true,decide_eq_true_eq,decide_eq_true_eq] at this;exact⟨this.1,this.2.1,this.2.2⟩
theorem aLc (a b:Int) (r:Bool) (ha:aH [Rat.divInt a 1] 6=true) (hb:aH [Rat.divInt b 1] 6=true) (hm:aH [nP (Rat.divInt a 1) (Rat.divInt b 1)] 6=true) (hr:pS gS [2,1] (([([2,1],1),([1],1)]:List (List Rat × Rat)).map (·.1)) (Rat.divInt a 1) (Rat.divInt b 1)=r):aD Tryz.prog 85 [PL gS 100000,RT (Rat.divInt a 1) 6,RT (Rat.divInt b 1) 6] (.one (.v (.bool r))):=by
 rw[<- hr];exact aT6 gS [2,1] [([2,1],1),([1],1)] (Rat.divInt a 1) (Rat.divInt b 1) 100000 6 (by decide) (by decide) (by decide) (aXv gS [2,1] 100000 6 (by decide) (by decide) (by decide) aZo) aX6 (by decide) hm (aFc (by decide +kernel) ha) (aFc (by decide +kernel) hb) (aFc (by decide +kernel) hm) (aMy ha) (aMy hb)
theorem aTo:aD Tryz.prog 85 [PL gS 100000,RT (Rat.divInt (-2) 1) 6,RT (Rat.divInt 9 1) 6] (.one (.v (.bool true))):=aLc (-2) 9 true (by decide +kernel) (by decide +kernel) (by decide +kernel) (by decide +kernel)
theorem aTn:aD Tryz.prog 85 [PL gS 100000,RT (Rat.divInt (-3) 1) 6,RT (Rat.divInt 0 1) 6] (.one (.v (.bool false))):=aLc (-3) 0 false (by decide +kernel) (by decide +kernel) (by decide +kernel) (by decide +kernel)
theorem aZp:aD Tryz.prog 24 [PL gS 100000] (.tup [.d (Dm.gen (aGo 2)),.v (.int .i64 0)]) :=
 aQ0 gS lX 4 100000 6 5 (by decide) (by decide) (by decide) (by decide) (by decide) (by decide +kernel) (by decide +kernel) aF5 (by decide) (by decide +kernel) (fun x hx=>aF4 hx) (by rw[aV2]; exact aX5) (by decide +kernel) (by decide +kernel) (by decide +kernel) (by decide +kernel) (by decide +kernel)
set_option maxHeartbeats 2000000 in
theorem aRu:aD (D:=Dm) Tryz.prog 22 [] (.one (.v (.bool true))):=by
 refine aD.of (n:=74) Tryz.func22 rfl rfl rfl rfl rfl fun cx hfr=>?_;refine sr rfl ?_;refine xn ?_;refine RV.done (sr rfl ?_);refine p1 (fH (G:=Dm.gen (cA none (kQ .i64 [2,-3,0,1]))) (ss:=kQ .i64 [2,-3,0,1]) (cS none _) qW aA4 rfl rfl rfl zH rfl rfl rfl bd (.cons rfl cT.any (.cons rfl cT.any (xb rfl rfl)))) ?_;refine xd rfl (aBu 1 [2,-3,0,1] gS (by decide) (by decide) (by decide +kernel) (by decide +kernel) (by intro i; exact zU _ (by decide) i) (by decide)) Tryz.func83 (xb rfl rfl) hfr ?_;refine xn ?_;refine RV.done (sr rfl ?_);refine p1 (fH (G:=Dm.gen (cA none (kQ .i64 [-2,1,1]))) (ss:=kQ .i64 [-2,1,1]) (cS none _) qW aA4 rfl rfl rfl zH rfl rfl rfl bd (.cons rfl cT.any (xb rfl rfl))) ?_;refine xd rfl (aBu 1 [-2,1,1] [-2,1,1] (by decide) (by decide) (by decide +kernel) (by decide +kernel) (by intro i; exact zU _ (by decide) i) (by decide)) Tryz.func83 (xb rfl rfl) hfr ?_;refine p1 (fH (G:=Dm.gen (cA none (kQ .i64 [1,2]))) (ss:=kQ .i64 [1,2]) (cS none _) qW aA4 rfl rfl rfl zH rfl rfl rfl bd (xb rfl rfl)) ?_;refine xd rfl (aBu 1 [1,2] [1,2] (by decide) (by decide) (by decide +kernel) (by decide +kernel) (by intro i; exact zU _ (by decide) i) (by decide)) Tryz.func83 (xb rfl rfl) hfr ?_;refine p1 (fH (G:=Dm.gen (cA none (kQ .i64 [9]))) (ss:=kQ .i64 [9]) (cS none _) qW aA4 rfl rfl rfl zH rfl rfl rfl bd (xa rfl)) ?_;refine xd rfl (aBu 4 [9] [9/4] (by decide) (by decide) (by decide +kernel) (by decide +kernel) (by intro i; exact zU _ (by decide) i) (by decide)) Tryz.func83 (xb rfl rfl) hfr ?_;refine p1 (fH (k:=none) (xs:=[.tmp 9,.tmp 11,.tmp 13]) (ss:=eC [[-2,1,1],[1,2],[9/4]] 100000) (G:=Dm.gen (cA none (eC [[-2,1,1],[1,2],[9/4]] 100000))) (cS _ _) kA xF rfl rfl rfl wN qL rfl rfl bd (.cons rfl cT.any (xb rfl rfl))) ?_;refine xn ?_;refine RV.done (sr rfl ?_);refine xm ?_;refine xd rfl (nA (-3) (by decide) (by decide)) Tryz.func30 (xa rfl) hfr ?_;refine xd rfl (nA (3) (by decide) (by decide)) Tryz.func30 (xa rfl) hfr ?_;refine p1 (cG aTr rfl rfl bd Tryz.func21 rfl rfl (.cons rfl cT.any (xb rfl rfl)) rfl hfr rfl) ?_;refine p1 (qR rfl rfl rfl bd rfl rfl) ?_;refine xm ?_;refine y1 (cB (.inl rfl)) ?_;refine y1 (cG (nA (-2) (by decide) (by decide)) rfl rfl bd Tryz.func30 rfl rfl (xa rfl) rfl hfr rfl) ?_;refine y1 (cG (nA (1) (by decide) (by decide)) rfl rfl bd Tryz.func30 rfl rfl (xa rfl) rfl hfr rfl) ?_;refine y1 (cG aTq rfl rfl bd Tryz.func21 rfl rfl (.cons rfl cT.any (xb rfl rfl)) rfl hfr rfl) ?_;refine y1 (qR rfl rfl rfl bd rfl rfl) ?_;refine p1 (cX) ?_;refine xm ?_;refine y1 (cB (.inl rfl)) ?_;refine y1 (cG (nA (1) (by decide) (by decide)) rfl rfl bd Tryz.func30 rfl rfl (xa rfl) rfl hfr rfl) ?_;refine y1 (cG (nA (5) (by decide) (by decide)) rfl rfl bd Tryz.func30 rfl rfl (xa rfl) rfl hfr rfl) ?_;refine y1 (cG aTp rfl rfl bd Tryz.func21 rfl rfl (.cons rfl cT.any (xb rfl rfl)) rfl hfr rfl) ?_;refine y1 (qR rfl rfl rfl bd rfl rfl) ?_;refine p1 (cX) ?_;refine xn ?_;refine RV.done (sr rfl ?_);refine xm ?_;refine p1 (cG aZp rfl rfl bd Tryz.func24 rfl rfl (xa rfl) rfl hfr rfl) ?_;refine xm ?_;refine p1 (cO) ?_;refine p1 (cO) ?_;refine xn ?_;refine xn ?_;refine RV.done (sr rfl ?_);refine xm ?_;refine p1 (cG aV1 rfl rfl bd Tryz.func19 rfl rfl (xa rfl) rfl hfr rfl) ?_;refine xm ?_;refine xd rfl (aRj [[-2,1,1],[1,2],[9/4]] 100000 100000 (by decide) (by decide)) Tryz.func84 (xb rfl rfl) hfr ?_;refine xm ?_;refine y1 (cB (.inl rfl)) ?_;refine p1 (cX) ?_;refine xm ?_;refine y1 (cB (.inl rfl)) ?_;refine y1 (cG (aDs gS 100000 (by decide) (by decide) (by decide +kernel)) rfl rfl bd Tryz.func16 rfl rfl (xa rfl) rfl hfr rfl) ?_;refine y1 (cG (nA (4) (by decide) (by decide)) rfl rfl bd Tryz.func30 rfl rfl (xa rfl) rfl hfr rfl) ?_;refine y1 (cG (aXe (a:=iO gS) (b:=Rat.divInt 4 1) (by decide +kernel)) rfl rfl bd Tryz.func29 rfl rfl (xb rfl rfl) rfl hfr rfl) ?_;refine p1 (cX) ?_;refine xm ?_;refine y1 (cB (.inl rfl)) ?_;refine y1 (cG (nA (-2) (by decide) (by decide)) rfl rfl bd Tryz.func30 rfl rfl (xa rfl) rfl hfr rfl) ?_;refine y1 (cG (nA (9) (by decide) (by decide)) rfl rfl bd Tryz.func30 rfl rfl (xa rfl) rfl hfr rfl) ?_;refine y1 (cG aTo rfl rfl bd Tryz.func85 rfl rfl (.cons rfl cT.any (xb rfl rfl)) rfl hfr rfl) ?_;refine p1 (cX) ?_;refine xm ?_;refine y1 (cB (.inl rfl)) ?_;refine y1 (cG (nA (-3) (by decide) (by decide)) rfl rfl bd Tryz.func30 rfl rfl (xa rfl) rfl hfr rfl) ?_;refine y1 (cG (nA (0) (by decide) (by decide)) rfl rfl bd Tryz.func30 rfl rfl (xa rfl) rfl hfr rfl) ?_;refine y1 (cG aTn rfl rfl bd Tryz.func85 rfl rfl (.cons rfl cT.any (xb rfl rfl)) rfl hfr rfl) ?_;refine y1 (lN) ?_;refine p1 (cX) ?_;refine xm ?_;refine y1 (cB (.inl rfl)) ?_;refine y1 (qR rfl rfl rfl bd rfl rfl) ?_;refine p1 (cX) ?_;refine xm ?_;refine y1 (cB (.inl rfl)) ?_;refine y1 (aXt xY rfl rfl bd rfl) ?_;refine y1 (qR rfl rfl rfl bd rfl rfl) ?_;refine p1 (cX) ?_;refine xn ?_;refine RV.done ?_;refine CV.ret ?_;exact aS rfl (.inr rfl) rfl cL
theorem bAd {q:List Rat} {e B:Nat} (h:Cm 1 q e) (hB:1<=B) (he:e<=29*B):aH q B=true:=Cb.sz ⟨1,by decide,Nat.one_le_two_pow,h⟩ hB he
section
variable (zs:List Int) (hz:∀ z∈zs,-9223372036854775808<=z/\z<=9223372036854775807) (a k x y:Int) (ha : -9223372036854775808<=a/\a<=9223372036854775807) (hk : -9223372036854775808<=k/\k<=9223372036854775807) (hx : -9223372036854775808<=x/\x<=9223372036854775807) (hy : -9223372036854775808<=y/\y<=9223372036854775807)
include hz ha hk hx hy
end
theorem aEx {a:Rat}:bP a=0 ↔ a=0:=by
 rw[oJ];constructor
 ·intro h;split at h
  ·cases h
  ·split at h
   ·assumption
   ·cases h
 ·rintro rfl;rw[if_neg (by decide),if_pos rfl]
theorem aJp {R:Rat} (hR:0<=R):∀ p:List Rat,∃ C,0<=C/\∀ x y,ab x<=R->ab y<=R->ab (ev p y-ev p x-bI p x*(y-x))<=C*(ab (y-x)*ab (y-x))
 | []=>⟨0,by grind,fun x y _ _=>by
   have e:ev [] y-ev [] x-bI [] x*(y-x)=0:=by show (0:Rat)-0-0*_=0; grind
   rw[e,Rat.zero_mul]; unfold ab; grind⟩
 | a::l=>by
  obtain⟨C,hC,h⟩:=aJp hR l;obtain⟨K,hK,hk⟩:=aBf hR l;have hn:=Rat.mul_nonneg hR hC;refine⟨R*C+K,by grind,fun x y hx hy=>?_⟩;have e:ev (a::l) y-ev (a::l) x-bI (a::l) x*(y-x)=x*(ev l y-ev l x-bI l x*(y-x))+(y-x)*(ev l y-ev l x):=by
   show (a+y*ev l y)-(a+x*ev l x)-(ev l x+x*bI l x)*(y-x)=_;grind
  rw[e];have h1:=xV (x*(ev l y-ev l x-bI l x*(y-x))) ((y-x)*(ev l y-ev l x));rw[nK,nK] at h1;have h2:=iT (eZ x) (eZ (ev l y-ev l x-bI l x*(y-x))) hx (h x y hx hy);have h3:=iT (eZ (y-x)) (eZ (ev l y-ev l x)) (Rat.le_refl (a:=ab (y-x))) (hk y x hy hx);generalize ab (y-x)=m at *;grind
theorem goes {d m D:Rat} (hd:0<d) (hD:d<=ab D) {s t u v C:Rat} (hst:s<t) (hC:C*ab (t-s)<d) (hT:ab (v-u-D*(t-s))<=C*(ab (t-s)*ab (t-s))):(0<D->u<v)/\(D<0->v<u):=by
 rw[qB (show 0<=t-s by grind)] at hC hT;have h1:=pW (v-u-D*(t-s));obtain⟨w,hw⟩:∃ w,w=t-s:=⟨_,rfl⟩
 rw[<- hw] at hC hT h1;have hw0:0<w:=by grind
 have h2:0<(d-C*w)*w:=Rat.mul_pos (by grind) hw0;refine⟨fun h=>?_,fun h=>?_⟩
 ·rw[qB (by grind)] at hD;have h3:=Rat.mul_nonneg (show 0<=D-d by grind) (show 0<=w by grind);grind
 ·rw[rH (by grind)] at hD;have h3:=Rat.mul_nonneg (show 0 <= -D-d by grind) (show 0<=w by grind);grind
theorem aNb {x:Rat} {F b:List Rat} {l:List (List Rat)} {k:Int} (hk:k≠0) (hb:bP (ev b x)=k):bC x (F::b::l)=(if k*bP (ev F x)<0 then 1 else 0)+Wc k x l:=by
 rw[aFj,uW,Int.mul_zero,if_neg (by omega)];by_cases h:bP (ev F x)≠0
 ·rw[if_pos h,mL hk hb]; omega
 ·rw[if_neg h,mL hk hb];have h0:bP (ev F x)=0:=Classical.byContradiction fun q=>h q;rw[h0]; omega
theorem lt1 {a b c:Rat} (h:a<=b) (k:b<c):a<c:=by grind
theorem lt2 {a b c:Rat} (h:a<b) (k:b<=c):a<c:=by grind
theorem tri (a:Rat):a<0\/a=0\/0<a:=by grind
theorem oP {a:Rat} (h:a<0):bP a = -1:=by rw[oJ,if_pos h]
theorem oO {a:Rat} (h:0<a):bP a=1:=by rw[oJ,if_neg (by grind),if_neg (by grind)]
theorem aN2 {a b:Rat} (h1:a<0) (h2:0<b):a*b<0:=by
 have:=Rat.mul_pos (show 0 < -a by grind) h2;grind
theorem table {u v:Rat} {k:Int} (h:(k = -1/\v<u)\/(k=1/\u<v)):((u≠0/\v=0)\/u*v<0->(if k*bP u<0 then (1:Int) else 0)-(if k*bP v<0 then 1 else 0)=1)/\(¬ ((u≠0/\v=0)\/u*v<0)->(if k*bP u<0 then (1:Int) else 0)-(if k*bP v<0 then 1 else 0)=0):=by
 have hs:∀ a:Rat,a<0\/a=0\/0<a:=fun a=>by grind
 have z:bP 0=0:=aEx.2 rfl;rcases hs u with a | a | a<;>rcases hs v with b | b | b
 ·have hp:=Rat.mul_pos (show 0 < -u by grind) (show 0 < -v by grind);rw[oP a,oP b];exact⟨fun q=>by rcases q with ⟨_,q⟩ | q<;>grind,fun _=>by omega⟩
 ·subst b;rw[oP a,z];rcases h with ⟨rfl,h⟩ | ⟨rfl,h⟩
  ·grind
  ·exact⟨fun _=>by decide,fun q=>absurd (.inl ⟨by grind,rfl⟩) q⟩
 ·rw[oP a,oO b];rcases h with ⟨rfl,h⟩ | ⟨rfl,h⟩
  ·grind
  ·exact⟨fun _=>by decide,fun q=>absurd (.inr (aN2 a b)) q⟩
 ·subst a;rw[z,oP b];rcases h with ⟨rfl,h⟩ | ⟨rfl,h⟩
  ·exact⟨fun q=>by rcases q with ⟨q,_⟩ | q<;>grind,fun _=>by decide⟩
  ·grind
 ·grind
 ·subst a;rw[z,oO b];rcases h with ⟨rfl,h⟩ | ⟨rfl,h⟩
  ·grind
  ·exact⟨fun q=>by rcases q with ⟨q,_⟩ | q<;>grind,fun _=>by decide⟩
 ·rw[oO a,oP b];rcases h with ⟨rfl,h⟩ | ⟨rfl,h⟩
  ·exact⟨fun _=>by decide,fun q=>absurd (.inr (by rw[Rat.mul_comm]; exact aN2 b a)) q⟩
  ·grind
 ·subst b;rw[oO a,z];rcases h with ⟨rfl,h⟩ | ⟨rfl,h⟩
  ·exact⟨fun _=>by decide,fun q=>absurd (.inl ⟨by grind,rfl⟩) q⟩
  ·grind
 ·have hp:=Rat.mul_pos a b;rw[oO a,oO b];exact⟨fun q=>by rcases q with ⟨_,q⟩ | q<;>grind,fun _=>by omega⟩
theorem aTd {u v:Rat} (h:bP u≠0) (e:bP v=bP u):¬ ((u≠0/\v=0)\/u*v<0):=by
 have hs:∀ a:Rat,a<0\/a=0\/0<a:=fun a=>by grind
 have z:bP 0=0:=aEx.2 rfl;rcases hs u with a | a | a<;>rcases hs v with b | b | b
 ·have hp:=Rat.mul_pos (show 0 < -u by grind) (show 0 < -v by grind);rintro(⟨_,q⟩ | q)<;>grind
 ·rw[oP a,b,z] at e; cases e
 ·rw[oP a,oO b] at e; cases e
 ·rw[a,z] at h; exact absurd rfl h
 ·rw[a,z] at h; exact absurd rfl h
 ·rw[a,z] at h; exact absurd rfl h
 ·rw[oO a,oP b] at e; cases e
 ·rw[oO a,b,z] at e; cases e
 ·have hp:=Rat.mul_pos a b;rintro(⟨_,q⟩ | q)<;>grind
theorem aVd {F:List Rat} {l:List (List Rat)} (hch:nS F (bN F) l) (sep:cQ F (bN F) [1]) {R:Rat} (hR:0<=R):∃ h:Rat,0<h/\∀ s t,ab s<=R->ab t<=R->s<t->t-s<=h ->
  ((ev F s≠0/\ev F t=0)\/ev F s*ev F t<0->bC s (F::l)-bC t (F::l)=1)/\(¬ ((ev F s≠0/\ev F t=0)\/ev F s*ev F t<0)->bC s (F::l)-bC t (F::l)=0):=by
 obtain⟨u,v,huv⟩:=aFk sep;obtain⟨h1,n1,hh1,hn1,hcs⟩:=aRz hch hR ⟨u,v,huv⟩;obtain⟨d,hd,hap⟩:=apart (p:=F) (q:=bN F) hR huv;obtain⟨n,hn,hnn1,hnd⟩:=pP hn1 hd;obtain⟨K,hK,hKb⟩:=aBf hR F;obtain⟨C,hC,hT⟩:=aJp hR F;obtain⟨g1,hg1,hg1n⟩:=uD hK hn;obtain⟨g2,hg2,hg2d⟩:=uD hC hd;obtain⟨g3,hg3,hg31,hg32⟩:=pP hg1 hg2;obtain⟨g,hg,hgh,hgg⟩:=pP hh1 hg3;refine⟨g,hg,fun s t hs ht hst hlen=>?_⟩;have hab1:ab (s-t)=t-s:=by rw[rH (by grind)]; grind
 have hab2:ab (t-s)=t-s:=qB (by grind);obtain⟨iA,iB⟩:=hcs s t hs ht (by rw[hab1]; grind);have hKn:K*(t-s)<n:=by
  have h2:=iT hK (show 0<=t-s by grind) (Rat.le_refl (a:=K)) (show t-s<=g1 by grind);grind
 have hCd:C*(t-s)<d:=by
  have h2:=iT hC (show 0<=t-s by grind) (Rat.le_refl (a:=C)) (show t-s<=g2 by grind);grind
 have strong:n<=ab (ev F s)->((ev F s≠0/\ev F t=0)\/ev F s*ev F t<0->bC s (F::l)-bC t (F::l)=1)/\(¬ ((ev F s≠0/\ev F t=0)\/ev F s*ev F t<0)->bC s (F::l)-bC t (F::l)=0):=fun hb=>by
  obtain⟨q1,q2⟩:=steady hn hb (by
   have:=hKb s t hs ht;rw[hab1] at this;exact lt1 this hKn)
  have q3:=iA _ q1 rfl q2;have e:bC s (F::l)=bC t (F::l):=by
   rw[aFj,aFj,uW 0 s,uW 0 t,if_pos q1,if_pos (show bP (ev F t)≠0 by rw[q2]; exact q1),q2,q3,Int.mul_zero]
  exact⟨fun q=>absurd q (aTd q1 q2),fun _=>by rw[e,Int.sub_self]⟩
 rcases Rat.le_total (a:=n) (b:=ab (ev F s)) with hb | hb
 ·exact strong hb
 ·rcases Rat.le_iff_lt_or_eq.1 hb with hb | hb
  ·obtain⟨k,hk,k1,k2,k3⟩:=iB (lt2 hb hnn1);have hgreat:=hap s hs (lt2 hb hnd);obtain⟨l2,rfl⟩:∃ l2,l=bN F::l2:=by
    generalize bN F=b at *;cases hch with
    | nil _=>exact absurd k1.symm (by show ¬ k=bP 0; intro q; exact hk (by rw[q]; decide +kernel))
    | cons=>exact⟨_,rfl⟩
   have k4:=k3 k;rw[mL hk k1,mL hk k2] at k4;have k5:Wc k s l2=Wc k t l2:=by omega
   rw[aNb hk k1,aNb hk k2,k5];have hTt:=hT s t hs ht;rw[jH] at hgreat k1;obtain⟨w1,w2⟩:=goes (m:=0) hd hgreat hst (by rw[hab2]; exact hCd) hTt;have hway:(k = -1/\ev F t<ev F s)\/(k=1/\ev F s<ev F t):=by
    rcases tri (bI F s) with q | q | q
    ·exact .inl ⟨by rw[<- k1,oP q],w2 q⟩
    ·rw[q] at k1; exact absurd (k1.symm.trans (aEx.2 rfl)) hk
    ·exact .inr ⟨by rw[<- k1,oO q],w1 q⟩
   obtain⟨t1,t2⟩:=table hway;generalize (if k*bP (ev F s)<0 then (1:Int) else 0)=A at *;generalize (if k*bP (ev F t)<0 then (1:Int) else 0)=B at *;exact⟨fun q=>by have:=t1 q; omega,fun q=>by have:=t2 q; omega⟩
  ·exact strong (by rw[hb]; exact Rat.le_refl)
theorem aZj (q:Rat):q<=((q.num.natAbs:Nat):Rat):=by
 have hd:((q.den:Nat):Int)≠0:=by have:=q.den_pos; omega
 have h1:=Rat.num_divInt_den q;rw[Rat.divInt_eq_div,Rat.div_def] at h1;have h2:=Rat.mul_inv_cancel _ (nD hd);have hn:(q.num:Rat)<=(((q.num.natAbs:Nat):Int):Rat):=Rat.intCast_le_intCast.2 (by omega);rw[Rat.intCast_natCast] at hn;have h3:(1:Rat)<=((q.den:Int):Rat):=by
  have:((1:Int):Rat)<=((q.den:Int):Rat):=Rat.intCast_le_intCast.2 (by have:=q.den_pos; omega);exact this
 rcases Rat.le_total (a:=0) (b:=q) with h | h
 ·have h4:q*((q.den:Int):Rat)=(q.num:Rat):=by
   have:(q.num:Rat)*((q.den:Int):Rat)⁻¹*((q.den:Int):Rat)=(q.num:Rat):=by grind
   rw[h1] at this;exact this
  have h5:=Rat.mul_nonneg h (show 0<=((q.den:Int):Rat)-1 by grind);grind
 ·have h6:(0:Rat)<=((q.num.natAbs:Nat):Rat):=by
   have:((0:Int):Rat)<=(((q.num.natAbs:Nat):Int):Rat):=Rat.intCast_le_intCast.2 (by omega);rw[Rat.intCast_natCast] at this;exact this
  grind
theorem steps {a h:Rat} (hh:0<h):∃ m:Nat,a<=(m:Rat)*h:=by
 have hs:h≠0:=by grind
 have hi:=Rat.mul_inv_cancel _ hs;refine⟨(a*h⁻¹).num.natAbs,?_⟩;have h1:=aZj (a*h⁻¹);have h2:=mul_mono_r h1 hh;have e:a*h⁻¹*h=a:=by grind
 rw[e] at h2;exact h2
where
 mul_mono_r {x y z:Rat} (h:x<=y) (hz:0<z):x*z<=y*z:=by
  have:=Rat.mul_nonneg (show 0<=y-x by grind) (show 0<=z by grind);grind
theorem whole {V:Rat->Int} {N:Rat->Rat->Int} {R h:Rat} (hh:0<h) (add:∀ s t u,s<=t->t<=u->N s u=N s t+N t u)
  (small:∀ s t,ab s<=R->ab t<=R->s<t->t-s<=h->V s-V t=N s t):∀ s t,ab s<=R->ab t<=R->s<t->V s-V t=N s t:=by
 have key:∀ m:Nat,∀ s t,ab s<=R->ab t<=R->s<t->t-s<=(m:Rat)*h->V s-V t=N s t:=by
  intro m
  induction m with
  | zero =>
   intro s t _ _ hst hm;have e:((0:Nat):Rat)*h=0:=by rw[show ((0:Nat):Rat)=0 from rfl,Rat.zero_mul]
   rw[e] at hm;exact absurd hst (by grind)
  | succ m ih =>
   intro s t hs ht hst hm;rcases Rat.le_total (a:=t-s) (b:=h) with q | q
   ·exact small s t hs ht hst q
   ·have e:((m+1:Nat):Rat)*h=(m:Rat)*h+h:=by
     rw[show ((m+1:Nat):Rat)=(m:Rat)+1 by simp]; grind
    rw[e] at hm;rcases Rat.le_iff_lt_or_eq.1 (show s+h<=t by grind) with q2 | q2
    ·have hu:ab (s+h)<=R:=by
      obtain⟨a1,a2⟩:=pW s;obtain⟨a3,a4⟩:=pW t;exact aGk (by grind) (by grind)
     have h1:=small s (s+h) hs hu (by grind) (by grind);have h2:=ih (s+h) t hu ht q2 (by grind);have h3:=add s (s+h) t (by grind) (by grind);omega
    ·exact small s t hs ht hst (by grind)
 intro s t hs ht hst;obtain⟨m,hm⟩:=steps (a:=t-s) hh;exact key m s t hs ht hst hm
def dD (Z:List Rat) (x:Rat):Rat:=match Z with
 | []=>1
 | z::l=>(x-z)*dD l x
def cN (Z:List Rat) (s t:Rat):Int:=match Z with
 | []=>0
 | z::l=>(if s<z/\z<=t then 1 else 0)+cN l s t
theorem aKk {x:Rat}:∀ {Z:List Rat},dD Z x=0->x∈Z
 | [],h=>absurd h (by show ¬ (1:Rat)=0; decide)
 | z::l,h=>by
  rcases Rat.mul_eq_zero.1 (show (x-z)*dD l x=0 from h) with h | h
  ·have:x=z:=by grind
   rw[this]; exact List.mem_cons_self
  ·exact List.mem_cons_of_mem _ (aKk h)
theorem aMr {s t u:Rat} (h1:s<=t) (h2:t<=u):∀ Z:List Rat,cN Z s u=cN Z s t+cN Z t u
 | []=>rfl
 | z::l=>by
  show (if s<z/\z<=u then (1:Int) else 0)+cN l s u=(if s<z/\z<=t then 1 else 0)+cN l s t+((if t<z/\z<=u then 1 else 0)+cN l t u);rw[aMr h1 h2 l];by_cases a:s<z/\z<=t
  ·rw[if_pos a,if_pos ⟨a.1,by grind⟩,if_neg (by grind)]; omega
  ·by_cases b:t<z/\z<=u
   ·rw[if_neg a,if_pos b,if_pos ⟨by grind,b.2⟩]; omega
   ·rw[if_neg a,if_neg b,if_neg (by grind)]; omega
theorem aE3 {a b:Rat} (h:0<a):(0<=b->0<=a*b)/\(b<0->a*b<0)/\(b<=0->a*b<=0):=by
 refine⟨fun k=>Rat.mul_nonneg (by grind) k,fun k=>?_,fun k=>?_⟩
 ·have:=Rat.mul_pos h (show 0 < -b by grind); grind
 ·have:=Rat.mul_nonneg (show 0<=a by grind) (show 0 <= -b by grind); grind
theorem aXp {s t a:Rat} (hst:s<t) (h:¬ (s<a/\a<=t)):0<=(s-a)*(t-a)/\t-a≠0/\(a≠s->0<(s-a)*(t-a)):=by
 rcases Rat.le_total (a:=a) (b:=s) with q | q
 ·refine⟨Rat.mul_nonneg (by grind) (by grind),by grind,fun k=>Rat.mul_pos (by grind) (by grind)⟩
 ·by_cases k:a=s
  ·subst k;refine⟨by grind,by grind,fun k=>absurd rfl k⟩
  ·have h1:t<a:=by grind
   have:=Rat.mul_pos (show 0<a-s by grind) (show 0<a-t by grind);refine⟨by grind,by grind,fun _=>by grind⟩
theorem aHy {s t:Rat} (hst:s<t):∀ {Z:List Rat},Z.Nodup->(∀ z∈Z,∀ y∈Z,s<=z->z<=t->s<=y->y<=t->z=y) ->
  (cN Z s t=0/\0<=dD Z s*dD Z t/\dD Z t≠0)\/(cN Z s t=1/\dD Z s≠0/\(dD Z s*dD Z t<0\/dD Z t=0)/\∃ z∈Z,s<z/\z<=t)
 | [],_,_=>.inl ⟨rfl,by show (0:Rat)<=1*1; decide +kernel,by show (1:Rat)≠0; decide⟩
 | a::l,hn,hu=>by
  obtain⟨hna,hnl⟩:=List.nodup_cons.1 hn;have ih:=aHy hst hnl fun z hz y hy=>hu z (List.mem_cons_of_mem _ hz) y (List.mem_cons_of_mem _ hy);have ea:cN (a::l) s t=(if s<a/\a<=t then 1 else 0)+cN l s t:=rfl;have es:dD (a::l) s=(s-a)*dD l s:=rfl;have et:dD (a::l) t=(t-a)*dD l t:=rfl;have em:dD (a::l) s*dD (a::l) t=(s-a)*(t-a)*(dD l s*dD l t):=by rw[es,et]; grind
  by_cases ha:s<a/\a<=t
  ·have hout:∀ z∈l,s<=z->z<=t->False:=fun z hz h1 h2=>by
    have:=hu a List.mem_cons_self z (List.mem_cons_of_mem _ hz) (by grind) ha.2 h1 h2;rw[this] at hna;exact hna hz
   rcases ih with ⟨i1,i2,i3⟩ | ⟨_,_,_,z,hz,h1,h2⟩
   ·have hs0:dD l s≠0:=fun q=>hout s (aKk q) Rat.le_refl (by grind);have hsa:s-a≠0:=by grind
    refine .inr ⟨by rw[ea,if_pos ha,i1]; rfl,?_,?_,a,List.mem_cons_self,ha⟩
    ·rw[es]; exact fun q=>(Rat.mul_eq_zero.1 q).elim hsa hs0
    ·by_cases hta:t=a
     ·right; rw[et,hta]; grind
     ·left
      rw[em];have hp:0<dD l s*dD l t:=by
       rcases Rat.le_iff_lt_or_eq.1 i2 with q | q
       ·exact q
       ·exact absurd q.symm fun q=>(Rat.mul_eq_zero.1 q).elim hs0 i3
      have h1:=Rat.mul_pos (show 0<a-s by grind) (show 0<t-a by grind);have h2:=Rat.mul_pos h1 hp;grind
   ·exact(hout z hz (by grind) h2).elim
  ·obtain⟨o1,o2,o3⟩:=aXp hst ha;rcases ih with ⟨i1,i2,i3⟩ | ⟨i1,i2,i3,z,hz,h1,h2⟩
   ·refine .inl ⟨by rw[ea,if_neg ha,i1]; rfl,by rw[em]; exact Rat.mul_nonneg o1 i2,?_⟩;rw[et]; exact fun q=>(Rat.mul_eq_zero.1 q).elim o2 i3
   ·have has:a≠s:=fun q=>by
     have:=hu a List.mem_cons_self z (List.mem_cons_of_mem _ hz) (by grind) (by grind) (by grind) h2;rw[this] at hna;exact hna hz
    have hp:=o3 has;refine .inr ⟨by rw[ea,if_neg ha,i1]; rfl,?_,?_,z,List.mem_cons_of_mem _ hz,h1,h2⟩
    ·rw[es]; exact fun q=>(Rat.mul_eq_zero.1 q).elim (by grind) i2
    ·rcases i3 with q | q
     ·left; rw[em]; exact(aE3 hp).2.1 q
     ·right; rw[et,q,Rat.mul_zero]
theorem aPc (a:Rat):∀ l:List Rat,∃ g:Rat,0<g/\∀ z∈l,z≠a->g<ab (a-z)
 | []=>⟨1,by decide,fun z hz=>nomatch hz⟩
 | b::l=>by
  obtain⟨g,hg,h⟩:=aPc a l;by_cases e:b=a
  ·refine⟨g,hg,fun z hz hne=>?_⟩;rcases List.mem_cons.1 hz with rfl | hz
   ·exact absurd e hne
   ·exact h z hz hne
  ·have hp:0<ab (a-b):=by
    have:=eZ (a-b);have h0:ab (a-b)≠0:=fun q=>by
     have:=aFm (a:=a-b) (by rw[q]; exact Rat.le_refl);exact e (by grind)
    grind
   obtain⟨m,hm,hm1⟩:=uD (K:=1) (by decide) hp;obtain⟨k,hk,k1,k2⟩:=pP hg hm;refine⟨k,hk,fun z hz hne=>?_⟩;rcases List.mem_cons.1 hz with rfl | hz
   ·grind
   ·have:=h z hz hne;grind
theorem gap:∀ Z:List Rat,∃ g:Rat,0<g/\∀ z∈Z,∀ y∈Z,z≠y->g<ab (z-y)
 | []=>⟨1,by decide,fun z hz=>nomatch hz⟩
 | a::l=>by
  obtain⟨g,hg,h⟩:=gap l;obtain⟨m,hm,h1⟩:=aPc a l;obtain⟨k,hk,k1,k2⟩:=pP hg hm;refine⟨k,hk,fun z hz y hy hne=>?_⟩;have hsym:ab (z-y)=ab (y-z):=by rw[<- aOo]; congr 1; grind
  rcases List.mem_cons.1 hz with e1 | z1<;>rcases List.mem_cons.1 hy with e2 | y1
  ·exact absurd (e1.trans e2.symm) hne
  ·have:=h1 y y1 (fun q=>hne (e1.trans q.symm)); rw[e1]; grind
  ·have:=h1 z z1 (fun q=>hne (q.trans e2.symm)); rw[hsym,e2]; grind
  ·have:=h z z1 y y1 hne; grind
theorem aQ7 {F:List Rat} {l:List (List Rat)} (hch:nS F (bN F) l) (sep:cQ F (bN F) [1]) {Z:List Rat} (hn:Z.Nodup) {P:Rat->Rat} (hP:∀ x,0<P x) (hF:∀ x,ev F x=dD Z x*P x):∀ s t,s<t->bC s (F::l)-bC t (F::l)=cN Z s t:=by
 intro s t hst;obtain⟨R,hR⟩:∃ R,R=ab s+ab t:=⟨_,rfl⟩
 have n1:=eZ s;have n2:=eZ t;obtain⟨h,hh,hpc⟩:=aVd hch sep (R:=R) (by grind);obtain⟨g,hg,hgap⟩:=gap Z;obtain⟨k,hk,k1,k2⟩:=pP hh hg;refine whole (V:=fun x=>bC x (F::l)) (N:=fun s t=>cN Z s t) (R:=R) hk (fun s t u h1 h2=>aMr h1 h2 Z) (fun s t hs ht hst hlen=>?_) s t (by grind) (by grind) hst;obtain⟨p1,p2⟩:=hpc s t hs ht hst (by grind);have hu:∀ z∈Z,∀ y∈Z,s<=z->z<=t->s<=y->y<=t->z=y:=fun z hz y hy a1 a2 a3 a4=>Classical.byContradiction fun q=>by
  have h1:=hgap z hz y hy q;have h2:ab (z-y)<=t-s:=aGk (by grind) (by grind);grind
 have hPP:=Rat.mul_pos (hP s) (hP t);have em:ev F s*ev F t=P s*P t*(dD Z s*dD Z t):=by rw[hF,hF]; grind
 show bC s (F::l)-bC t (F::l)=cN Z s t;rcases aHy hst hn hu with ⟨i1,i2,i3⟩ | ⟨i1,i2,i3,_⟩
 ·rw[i1];refine p2 ?_;rintro(⟨_,q⟩ | q)
  ·rw[hF] at q;exact(Rat.mul_eq_zero.1 q).elim i3 (by have:=hP t; grind)
  ·rw[em] at q;have:=(aE3 hPP).1 i2;grind
 ·rw[i1];refine p1 ?_;rcases i3 with q | q
  ·right; rw[em]; exact(aE3 hPP).2.1 q
  ·left
   refine⟨fun e=>?_,by rw[hF,q,Rat.zero_mul]⟩;rw[hF] at e;exact(Rat.mul_eq_zero.1 e).elim i2 (by have:=hP s; grind)
theorem aBc (a:Rat):∀ p:List Rat,∃ Q:List Rat,∀ x,ev p x-ev p a=(x-a)*ev Q x
 | []=>⟨[],fun x=>by show (0:Rat)-0=(x-a)*0; grind⟩
 | c::l=>by
  obtain⟨Q,h⟩:=aBc a l;refine⟨eD l (aM Q a),fun x=>?_⟩;have h1:=h x;rw[fP,cD];show (c+x*ev l x)-(c+a*ev l a)=_;grind
theorem aIp:∀ {Z:List Rat} {F:List Rat},Z.Nodup->(∀ z∈Z,ev F z=0)->∃ P:List Rat,aI P=P/\∀ x,ev F x=dD Z x*ev P x
 | [],F,_,_=>⟨aI F,cK _,fun x=>by show _=1*_; rw[kC,Rat.one_mul]⟩
 | a::l,F,hn,hz=>by
  obtain⟨hna,hnl⟩:=List.nodup_cons.1 hn;obtain⟨Q,hQ⟩:=aBc a F;have h0:=hz a List.mem_cons_self;have hQ':∀ x,ev F x=(x-a)*ev Q x:=fun x=>by have:=hQ x; rw[h0] at this; grind
  obtain⟨P,tP,hP⟩:=aIp (F:=Q) hnl fun z hzl=>by
   have h1:=hz z (List.mem_cons_of_mem _ hzl);rw[hQ'] at h1;rcases Rat.mul_eq_zero.1 h1 with q | q
   ·have:z=a:=by grind
    rw[this] at hzl;exact absurd hzl hna
   ·exact q
  refine⟨P,tP,fun x=>?_⟩;rw[hQ',hP];show _=(x-a)*dD l x*_;grind
theorem mV.zero {p F:List Rat} (h:mV p F) {z:Rat} (hz:ev p z=0):ev F z=0:=by
 have e:∀ x,ev [-z,1] x=x-z:=fun x=>by show -z+x*(1+x*0)=_; grind
 have tS:aI [-z,1]=[-z,1]:=sW (.inr (by show (1:Rat)≠0; decide));have hd:∀ x,bI [-z,1] x=1:=fun x=>by show (1+x*0)+x*(0+x*0)=_; grind
 obtain⟨Q,hQ⟩:=aBc z p;obtain⟨w,hw⟩:=aY4 h tS (List.cons_ne_nil _ _) ⟨⟨[-z,1],fun x=>by rw[vE,Rat.mul_one]⟩,⟨bN [-z,1],fun x=>by rw[vE,Rat.mul_one]⟩,[],[1],fun x=>by
   rw[vE,jH,hd,ev]; grind⟩ ⟨Q,fun x=>by
   have:=hQ x;rw[hz] at this;rw[e]; grind⟩
 rw[hw,e];grind
theorem mV.once {p F P:List Rat} (h:mV p F) {z:Rat} {Y:List Rat} (hF:∀ x,ev F x=(x-z)*ev Y x*ev P x):ev P z≠0:=by
 intro q;obtain⟨u,v,huv⟩:=aFk h.sep;have hm:∀ x,ev F x=ev (bD (bD [-z,1] Y) P) x:=fun x=>by
  rw[hF,cM,cM];have e:ev [-z,1] x=x-z:=by show -z+x*(1+x*0)=_; grind
  rw[e]
 have h1:=rE hm z;rw[qU (cM _ _),cM] at h1;have e:ev [-z,1] z=0:=by show -z+z*(1+z*0)=_; grind
 rw[e,q] at h1;have h2:=huv z;rw[jH,h1,hF,q] at h2;grind
/-! The zeros in order. -/
def sU:List Rat->Prop
 | []=>True
 | a::l=>(∀ b∈l,a<b)/\sU l
theorem sU.nodup:∀ {l:List Rat},sU l->l.Nodup
 | [],_=>List.nodup_nil
 | a::l,h=>List.nodup_cons.2 ⟨fun q=>by have:=h.1 a q; grind,sU.nodup h.2⟩
theorem aJi (z a:Rat) (l:List Rat):gY z (a::l)=if a<z then a::gY z l else if a=z then a::l else z::a::l:=by
 have hc:=uU a z;by_cases h1:a<z
 ·have e:dJ z (a::l)=dJ z l+1:=by rw[dJ,if_pos (by rw[hc,if_pos h1]; decide)]
  rw[if_pos h1];unfold gY;rw[e];by_cases q:dJ z l<l.length/\eV (l.getD (dJ z l) 0) z=0
  ·rw[if_pos q,if_pos ⟨by rw[List.length_cons]; omega,q.2⟩]
  ·rw[if_neg q,if_neg (fun k=>q ⟨by have:=k.1; rw[List.length_cons] at this; omega,k.2⟩)];rfl
 ·have e:dJ z (a::l)=0:=by rw[dJ,if_neg (by rw[hc,if_neg h1]; split<;>decide)]
  rw[if_neg h1];unfold gY;rw[e];by_cases q:a=z
  ·rw[if_pos q,if_pos ⟨by rw[List.length_cons]; omega,by show eV a z=0; rw[hc,if_neg h1,if_neg (by grind)]⟩]
  ·rw[if_neg q,if_neg (fun k=>by
    have h2:=k.2
    change eV a z=0 at h2
    rw[hc,if_neg h1,if_pos (by grind)] at h2;exact absurd h2 (by decide))]
   rfl
theorem aMp (z:Rat):∀ l:List Rat,z∈gY z l/\∀ x∈l,x∈gY z l
 | []=>⟨List.mem_cons_self,fun x h=>nomatch h⟩
 | a::l=>by
  obtain⟨h1,h2⟩:=aMp z l;rw[aJi];split
  ·exact⟨.tail _ h1,fun x hx=>by
    rcases List.mem_cons.1 hx with rfl | hx
    ·exact .head _
    ·exact .tail _ (h2 x hx)⟩
  ·split
   ·rename_i q;exact⟨by rw[q]; exact .head _,fun x hx=>hx⟩
   ·exact⟨.head _,fun x hx=>.tail _ hx⟩
theorem aK2 (z:Rat):∀ {l:List Rat},sU l->sU (gY z l)
 | [],_=>⟨fun b hb=>(nomatch hb),trivial⟩
 | a::l,h=>by
  have ih:=aK2 z h.2;rw[aJi];split
  ·rename_i q;exact⟨fun b hb=>by
    rcases aK3 hb with rfl | hb
    ·exact q
    ·exact h.1 b hb,ih⟩
  ·split
   ·exact h
   ·rename_i q1 q2;have hz:z<a:=by grind
    exact⟨fun b hb=>by
     rcases List.mem_cons.1 hb with rfl | hb
     ·exact hz
     ·have:=h.1 b hb; grind,h⟩
theorem aJe (zs:List Int):∀ i,i<=zs.length->sU (cJ zs i)
 | 0,_=>trivial
 | i+1,h=>by rw[aC0 (by omega)]; exact aK2 _ (aJe zs i (by omega))
theorem aAe {x:Rat}:∀ (l:List Int) (acc:List Rat),x∈l.foldl (fun l z=>gY (cE z) l) acc ↔ x∈acc\/x∈l.map cE
 | [],acc=>by simp
 | z::l,acc=>by
  rw[List.foldl_cons,aAe l,List.map_cons,List.mem_cons];have h1:=aMp (cE z) acc;constructor
  ·rintro(h | h)
   ·rcases aK3 h with h | h
    ·exact .inr (.inl h)
    ·exact .inl h
   ·exact .inr (.inr h)
  ·rintro(h | h | h)
   ·exact .inl (h1.2 x h)
   ·exact .inl (h ▸ h1.1)
   ·exact .inr h
theorem aBa (z x:Rat):ev [-z,1] x=x-z:=by show -z+x*(1+x*0)=_; grind
theorem aMu (x:Rat):∀ (l:List Int) (a:List Rat),ev (l.foldl (fun p z=>bD p (sR (cE z))) a) x=ev a x*dD (l.map cE) x
 | [],a=>by show _=ev a x*1; rw[Rat.mul_one]; rfl
 | z::l,a=>by
  rw[List.foldl_cons,aMu x l,cM,aAb,aMf,aBa];show _=ev a x*((x-cE z)*dD (l.map cE) x);grind
/-! The product as a polynomial. -/
def mU:List Rat->List Rat
 | []=>[1]
 | z::l=>bD [-z,1] (mU l)
theorem aF1 (z:Rat):aI [-z,1]=[-z,1]:=sW (.inr (by show (1:Rat)≠0; decide))
theorem uY (x:Rat):∀ Z,ev (mU Z) x=dD Z x
 | []=>vE x
 | z::l=>by
  show ev (bD [-z,1] (mU l)) x=(x-z)*dD l x;rw[cM,aBa,uY x l]
theorem aI5:∀ Z,aI (mU Z)=mU Z/\mU Z≠[]/\aG (mU Z)=1
 | []=>⟨by decide +kernel,List.cons_ne_nil _ _,rfl⟩
 | z::l=>by
  obtain⟨t,n,e⟩:=aI5 l;obtain⟨m1,m2⟩:=uS (aF1 z) t (List.cons_ne_nil _ _) n;refine⟨cK _,aFw (aF1 z) t (List.cons_ne_nil _ _) n,?_⟩;show aG (bD [-z,1] (mU l))=1;rw[m2,e];show (1:Rat)*1=1;exact Rat.mul_one 1
theorem aE2 {z:Rat}:∀ {Z:List Rat},z∈Z->∃ Y:List Rat,∀ x,dD Z x=(x-z)*ev Y x
 | a::l,h=>by
  rcases List.mem_cons.1 h with rfl | h
  ·exact⟨mU l,fun x=>by rw[uY]; rfl⟩
  ·obtain⟨Y,hY⟩:=aE2 h;exact⟨bD [-a,1] Y,fun x=>by
    rw[cM,aBa];show (x-a)*dD l x=_;rw[hY]; grind⟩
theorem strip {P:List Rat}:∀ {ws:List Rat} {K N:List Rat},(∀ w∈ws,ev P w≠0)->(∀ x,dD ws x*ev K x=ev N x*ev P x)->Dv P K
 | [],K,N,_,h=>⟨N,fun x=>by rw[<- h]; show _=1*_; rw[Rat.one_mul]⟩
 | w::ws,K,N,hn,h=>by
  have h0:ev N w=0:=by
   have h1:(w-w)*dD ws w*ev K w=ev N w*ev P w:=h w;have e:(w-w:Rat)=0:=by grind
   rw[e,Rat.zero_mul,Rat.zero_mul] at h1;exact(Rat.mul_eq_zero.1 h1.symm).resolve_right (hn w (.head _))
  obtain⟨Q,hQ⟩:=aBc w N;refine strip (ws:=ws) (N:=Q) (fun v hv=>hn v (.tail _ hv)) fun x=>?_;have h2:=aOm (a:=bD (mU ws) K) (b:=bD Q P) (g:=[-w,1]) (by rw[aF1]; exact List.cons_ne_nil _ _) (fun y=>by
   have h3:(y-w)*dD ws y*ev K y=ev N y*ev P y:=h y;have h4:=hQ y;rw[h0] at h4;have h5:ev N y=(y-w)*ev Q y:=by grind
   rw[cM,cM,aBa,uY];rw[h5] at h3;grind) x
  rw[cM,cM,uY] at h2;exact h2
theorem aS3 {P:List Rat} (tP:aI P=P) (P0:P≠[]) (lP:aG P=1) (h:Dv P [Rat.divInt 2 3]\/Dv P (bD [Rat.divInt 2 3] qC)) (x:Rat):0<ev P x:=by
 have hs:qC=[1,0,1]:=by decide +kernel
 have hm:bD [Rat.divInt 2 3] qC=[Rat.divInt 2 3,0,Rat.divInt 2 3]:=by decide +kernel
 have sq (y:Rat):0<=y*y:=by
  rcases Rat.le_total (a:=0) (b:=y) with q | q
  ·exact Rat.mul_nonneg q q
  ·have:=Rat.mul_nonneg (show 0 <= -y by grind) (show 0 <= -y by grind); grind
 have c0:(0:Rat)<Rat.divInt 2 3:=by decide +kernel
 have one:∀ k:Rat,aG [k]=1->0<ev [k] x:=fun k hk=>by
  have:k=1:=hk;rw[this,vE]; decide
 rcases h with h | h
 ·obtain⟨_,l1,_⟩:=nI tP (by decide +kernel) (List.cons_ne_nil _ _) h;have h1:P.length=1:=by have:=List.length_pos_iff.2 P0; simp at l1; omega
  obtain⟨k,rfl⟩:=List.length_eq_one_iff.1 h1;exact one k lP
 ·rw[hm] at h;obtain⟨_,l1,l3⟩:=nI tP (by decide +kernel) (List.cons_ne_nil _ _) h;have eK:∀ y,ev [Rat.divInt 2 3,0,Rat.divInt 2 3] y=Rat.divInt 2 3*(y*y+1):=fun y=>by
   show Rat.divInt 2 3+y*(0+y*(Rat.divInt 2 3+y*0))=_;grind
  match P,tP,P0,lP,h,l1,l3 with
  | [k],_,_,lP,_,_,_=>exact one k lP
  | [a,b],_,_,lP,h,_,_ =>
   have hb:b=1:=lP;obtain⟨u,hu⟩:=h;have h1:=hu (-a);have h2:ev [a,b] (-a)=0:=by show a+(-a)*(b+(-a)*0)=0; rw[hb]; grind
   rw[h2,Rat.mul_zero,eK] at h1;have h3:=sq (-a);rcases Rat.mul_eq_zero.1 h1 with q | q
   ·rw[q] at c0; exact absurd c0 (by decide)
   ·grind
  | [a,b,c],_,_,lP,_,_,l3 =>
   obtain⟨d,hd,h⟩:=l3 rfl;have hc:c=1:=lP;have e:∀ y,ev [a,b,c] y=a+y*(b+y):=fun y=>by
    show a+y*(b+y*(c+y*0))=_;rw[hc]; grind
   have hv:∀ y,Rat.divInt 2 3*(y*y+1)=d*(a+y*(b+y)):=fun y=>by rw[<- eK,h,e]
   have v0:=hv 0;have v1:=hv 1;have v2:=hv (-1);have hd2:d=Rat.divInt 2 3:=by grind
   rw[hd2] at hv;have h5:=hv x;have h6:=sq x;have h7:Rat.divInt 2 3*(ev [a,b,c] x-(x*x+1))=0:=by rw[e]; grind
   rcases Rat.mul_eq_zero.1 h7 with q | q
   ·rw[q] at c0; exact absurd c0 (by decide)
   ·grind
  | a::b::c::d::l,_,_,_,_,l1,_=>simp at l1
theorem aMm (zs:List Int) (x:Rat) (i:Nat):ev (iX zs i) x=dD ((zs.take i).map cE) x*ev [Rat.divInt 2 3] x:=by
 rw[iX,aMu,kC,Rat.mul_comm]
theorem aKz (zs:List Int) (wild:Int):∃ K,(K=[Rat.divInt 2 3]\/K=bD [Rat.divInt 2 3] qC)/\∀ x,ev (fQ zs wild) x=dD ((zs.take (min 4 zs.length)).map cE) x*ev K x:=by
 unfold fQ;split
 ·exact⟨_,.inr rfl,fun x=>by rw[cM,aMm zs,cM]; grind⟩
 ·exact⟨_,.inl rfl,fun x=>aMm zs x _⟩
theorem aXz (zs:List Int) (wild:Int):fQ zs wild≠[]:=by
 have key:∀ i,i<=zs.length->aI (iX zs i)=iX zs i/\iX zs i≠[]:=by
  intro i
  induction i with
  | zero=>exact fun _=>⟨cK _,by show aI [Rat.divInt 2 3]≠[]; decide +kernel⟩
  | succ i ih =>
   intro hi;obtain⟨t,n⟩:=ih (by omega);rw[aC1 (by omega)];exact⟨cK _,aFw t (cK _) n (by rw[aAb]; exact List.cons_ne_nil _ _)⟩
 obtain⟨t,n⟩:=key (min 4 zs.length) (by omega);unfold fQ;split
 ·exact aFw t (cK _) n (by decide +kernel)
 ·exact n
theorem aY6 {Z:List Rat} {x:Rat} (h:x∈Z):dD Z x=0:=by
 obtain⟨Y,hY⟩:=aE2 h;rw[hY]; grind
theorem aJd {zs:List Int} {wild:Int} {z:Rat} (h:z∈cJ zs (min 4 zs.length)):ev (fQ zs wild) z=0:=by
 obtain⟨K,_,hK⟩:=aKz zs wild;rw[hK,aY6,Rat.zero_mul];rcases (aAe _ _).1 h with q | q
 ·exact nomatch q
 ·exact q
theorem aQ8 {zs:List Int} {wild:Int} {F:List Rat} {l:List (List Rat)} (hF:mV (fQ zs wild) F) (hch:nS F (bN F) l) (s t:Rat) (hst:s<t):bC s (F::l)-bC t (F::l)=cN (cJ zs (min 4 zs.length)) s t:=by
 obtain⟨Z,hZ⟩:∃ Z,Z=cJ zs (min 4 zs.length):=⟨_,rfl⟩
 have hn:Z.Nodup:=by rw[hZ]; exact(aJe zs _ (by omega)).nodup
 obtain⟨P,tP,hP⟩:=aIp (Z:=Z) (F:=F) hn fun z hz=>hF.zero (aJd (by rw[<- hZ]; exact hz));obtain⟨K,hKo,hK⟩:=aKz zs wild;obtain⟨p1,p2,p3⟩:=aI5 Z;have hF0:=hF;obtain⟨tF,nF,lF,G,tG,nG,lG,hG,c,hc,he⟩:=hF;have P0:P≠[]:=by
  rintro rfl;exact uO tF nF (rD fun x=>by rw[hP,ev,Rat.mul_zero])
 have eF:F=bD (mU Z) P:=lQ tF (cK _) fun x=>by rw[cM,uY,hP]
 have lP:aG P=1:=by
  have:=(uS p1 tP p2 P0).2;rw[<- eF,lF,p3,Rat.one_mul] at this;exact this.symm
 have hd:Dv P K:=strip (ws:=(zs.take (min 4 zs.length)).map cE) (N:=aM (bD (mU Z) G) c) (fun w hw=>by
  have hwZ:w∈Z:=by rw[hZ]; exact(aAe _ _).2 (.inr hw)
  obtain⟨Y,hY⟩:=aE2 hwZ;exact hF0.once (Y:=Y) fun x=>by rw[hP,hY]) fun x=>by
  rw[<- hK,he,hP,cD,cM,uY]; grind
 rw[<- hZ];exact aQ7 hch hF0.sep hn (P:=ev P) (fun x=>aS3 tP P0 lP (by
  rcases hKo with rfl | rfl
  ·exact .inl hd
  ·exact .inr hd) x) hP s t hst
/-! Bounds. -/
theorem horner {M L z:Rat} (hM:0<=M) (hz:1+M<=ab z):∀ {l:List Rat},l≠[]->aG l=L->(∀ k,k+1<l.length->ab (l.getD k 0)<=M*ab L)->ab L<=ab (ev l z)
 | [a],_,hl,_=>by
  have:a=L:=hl;show ab L<=ab (a+z*0);rw[this,Rat.mul_zero,Rat.add_zero]; exact Rat.le_refl
 | a::b::l,_,hl,h=>by
  have ih:=horner hM hz (l:=b::l) (List.cons_ne_nil _ _) hl (fun k hk=>h (k+1) (by simp at hk |-; omega));have h0:ab a<=M*ab L:=h 0 (by simp);show ab L<=ab (a+z*ev (b::l) z);have h1:(1+M)*ab L<=ab z*ab (ev (b::l) z):=iT (by grind) (eZ _) hz ih;rw[<- nK] at h1;have h2:ab (z*ev (b::l) z)<=ab (a+z*ev (b::l) z)+ab a:=by
   have h3:=xV (a+z*ev (b::l) z) (-a);rw[aOo] at h3;have e:a+z*ev (b::l) z + -a=z*ev (b::l) z:=by grind
   rw[e] at h3;exact h3
  grind
theorem aNf (a:Rat):eW a=ab a:=rfl
theorem aIr (p:List Rat) (n:Nat):fS p (n+1)=if eV (eW (p.getD n 0/aG p)) (fS p n)>0 then eW (p.getD n 0/aG p) else fS p n:=rfl
theorem aEt (p:List Rat):∀ n,0<=fS p n/\∀ k,k<n->ab (p.getD k 0/aG p)<=fS p n
 | 0=>⟨Rat.le_refl,fun k hk=>absurd hk (Nat.not_lt_zero _)⟩
 | n+1=>by
  obtain⟨h1,h2⟩:=aEt p n;have hc:=uU (eW (p.getD n 0/aG p)) (fS p n);have hs:fS p n<=fS p (n+1)/\ab (p.getD n 0/aG p)<=fS p (n+1):=by
   rw[aIr];split
   ·rename_i q;rw[hc] at q;rw[aNf] at q |-;refine⟨?_,Rat.le_refl⟩;split at q
    ·exact absurd q (by decide)
    ·split at q
     ·grind
     ·exact absurd q (by decide)
   ·rename_i q;rw[hc] at q;rw[aNf] at q;refine⟨Rat.le_refl,?_⟩;split at q
    ·grind
    ·split at q
     ·exact absurd (by decide) q
     ·grind
  refine⟨by grind,fun k hk=>?_⟩;rcases Nat.lt_or_ge k n with q | q
  ·have:=h2 k q; grind
  ·obtain rfl:k=n:=by omega
   exact hs.2
theorem aUi {p:List Rat} (tp:aI p=p) (p0:p≠[]) {z:Rat} (hz:ev p z=0):ab z<iO p:=by
 obtain⟨h1,h2⟩:=aEt p (p.length-1);have hl:=eO tp p0;rcases Rat.le_total (a:=iO p) (b:=ab z) with q | q
 ·exfalso;have h3:=horner (M:=fS p (p.length-1)) (z:=z) h1 (by unfold iO at q; grind) p0 rfl (fun k hk=>by
   have h4:=h2 k (by omega);have h5:=iT (eZ _) (eZ (aG p)) h4 (Rat.le_refl (a:=ab (aG p)));rw[<- nK,Rat.div_def,Rat.mul_assoc,Rat.inv_mul_cancel _ hl,Rat.mul_one] at h5;exact h5)
  rw[hz] at h3;exact hl (aFm (by rw[show ab 0=0 from rfl] at h3; exact h3))
 ·rcases Rat.le_iff_lt_or_eq.1 q with q | q
  ·exact q
  ·exfalso;have h3:=horner (M:=fS p (p.length-1)) (z:=z) h1 (by rw[q]; unfold iO; grind) p0 rfl (fun k hk=>by
    have h4:=h2 k (by omega);have h5:=iT (eZ _) (eZ (aG p)) h4 (Rat.le_refl (a:=ab (aG p)));rw[<- nK,Rat.div_def,Rat.mul_assoc,Rat.inv_mul_cancel _ hl,Rat.mul_one] at h5;exact h5)
   rw[hz] at h3;exact hl (aFm (by rw[show ab 0=0 from rfl] at h3; exact h3))
theorem aYi (p:List Rat):1<=iO p:=by
 have:=(aEt p (p.length-1)).1;unfold iO; grind
theorem aMq {b:Rat}:∀ {Z:List Rat},(∀ z∈Z,-b<z/\z<b)->cN Z (-b) b=Z.length
 | [],_=>rfl
 | z::l,h=>by
  obtain⟨h1,h2⟩:=h z (.head _);show (if -b<z/\z<=b then (1:Int) else 0)+cN l (-b) b=_;rw[if_pos ⟨h1,by grind⟩,aMq fun y hy=>h y (.tail _ hy),List.length_cons];omega
theorem aK4 {s t:Rat} (h:t<=s):∀ Z:List Rat,cN Z s t=0
 | []=>rfl
 | z::l=>by
  show (if s<z/\z<=t then (1:Int) else 0)+cN l s t=_;rw[if_neg (by grind),aK4 h l]; rfl
theorem aH6 (s t:Rat):∀ a b:List Rat,cN (a++b) s t=cN a s t+cN b s t
 | [],b=>by show _=0+_; rw[Int.zero_add]; rfl
 | z::a,b=>by
  show (if s<z/\z<=t then (1:Int) else 0)+cN (a++b) s t=(if s<z/\z<=t then (1:Int) else 0)+cN a s t+cN b s t;rw[aH6 s t a b,Int.add_assoc]
theorem aF3 (s t:Rat):∀ Z:List Rat,0<=cN Z s t/\cN Z s t<=Z.length
 | []=>⟨Int.le_refl _,Int.le_refl _⟩
 | z::l=>by
  obtain⟨h1,h2⟩:=aF3 s t l;show 0<=(if s<z/\z<=t then (1:Int) else 0)+cN l s t/\(if s<z/\z<=t then (1:Int) else 0)+cN l s t<=_;rw[List.length_cons];split<;>omega
theorem aJ9 {p:List Rat} {m:Int} {c:Nat} (hm:Cm m (aY p) c):∀ n,n<=p.length->∃ y:Int,fS p n*(m:Rat)=(y:Rat)/\y.natAbs<=2^c
 | 0,_=>⟨0,by show (0:Rat)*_=_; rw[Rat.zero_mul]; rfl,Nat.zero_le _⟩
 | n+1,hn=>by
  rw[aIr];split
  ·obtain⟨z,z1,z2⟩:=hm n;have e:(aY p).getD n 0=p.getD n 0/aG p:=by
    rw[aY,aM,oE,if_pos (by omega)];grind
   rw[e] at z1;obtain⟨y,y1,y2⟩:=aEo z1;exact⟨y,y1,by omega⟩
  ·exact aJ9 hm n (by omega)
theorem aZt {p:List Rat} {c n:Nat} (hp:Pk p c n) (h0:p≠[]) (hc:c<=57):aH [iO p] 2=true:=by
 obtain⟨m,m1,m2,m3⟩:=hp.cb.monic (eO hp.tr h0);obtain⟨y,y1,y2⟩:=aJ9 m3 (p.length-1) (by omega);refine nE (e:=c+1) (by decide) (by omega) ⟨y+m,m,m1,?_,?_,?_⟩
 ·unfold iO;rw[Rat.add_mul,y1,Rat.one_mul,Rat.intCast_add]
 ·refine Nat.le_trans (Int.natAbs_add_le _ _) ?_;rw[Nat.pow_succ]; omega
 ·exact Nat.le_trans m2 (eJ (by omega))
theorem aMz {C:List (List Rat)} {a:Rat} (ha:aH [a] 1=true) (h:∀ q∈C,q.length<=7/\aH q 13040=true):fM C a 100000 1:=by
 refine⟨by decide,by decide,by decide,by decide,ha,fun p hp=>?_⟩;obtain⟨h1,h2⟩:=h p hp;have:=aEm (K:=100000) (Kx:=1) h1;have e7:iD 100000 1 7<=1000000:=by decide
 exact⟨by omega,zT (by decide) h2,by omega⟩
theorem aYc {r:List Rat} {c n:Nat} (hr:Pk r c n) (hc:c<=2900000):∀ k,k<r.length->aH [r.getD k 0/aG r] 100000=true:=by
 intro k hk;have h0:r≠[]:=fun e=>by rw[e] at hk; exact absurd hk (Nat.not_lt_zero _)
 have hl:=eO hr.tr h0;obtain⟨m,m1,m2,m3⟩:=hr.cb.monic hl;obtain⟨z,z1,z2⟩:=m3 k;have e:(aY r).getD k 0=r.getD k 0/aG r:=by
  rw[aY,aM,oE,if_pos hk];grind
 rw[e] at z1;exact nE (e:=c) (by decide) (by omega) ⟨z,m,m1,z1,z2,m2⟩
section
variable (zs1 zs2:List Int) (hz1:∀ z∈zs1,-9223372036854775808<=z/\z<=9223372036854775807) (hz2:∀ z∈zs2,-9223372036854775808<=z/\z<=9223372036854775807) (x:Int) (hx1 : -9223372036854775808<=x) (hx2:x<=9223372036854775807)
include hz1 hz2 hx1 hx2
end
theorem aOi {Z:List Rat} {s t:Rat} {V:Rat->Int} (h:s<t->V s-V t=cN Z s t):(if eV s t >= 0 then 0 else V s-V t)=cN Z s t:=by
 have hc:=uU s t;by_cases q:s<t
 ·rw[hc,if_pos q,if_neg (by decide)]; exact h q
 ·rw[hc,if_neg q,aK4 (by grind)];split<;>rfl
theorem aWi {p:List Rat} {c n:Nat} (hp:Pk p c n) (hn:n<=7) (hc:c<=70) (h0:p≠[]):∃ F l,mV p F/\nS F (bN F) l/\(F::l).length<=8/\(∀ q∈F::l,q.length<=7/\aH q 13040=true) /\
  aD Tryz.prog 19 [PL p 100000] (.one (jV (F::l) 100000)) /\
  ∀ lo hi:Rat,aH [lo] 2=true->aH [hi] 2=true->aD Tryz.prog 21 [PL p 100000,RT lo 2,RT hi 2] (.one (.v (.int .i64 (fV (F::l) lo hi)))):=by
 have hp':=hp.mono (Nat.le_max_left c 4) (Nat.le_refl n);obtain⟨F,L,l,hF,_,_,_,_,_,hL,hL7,hE,hm,hr,h1,_⟩:=aT2 hp' hn (by omega) (Nat.le_max_right c 4) h0;obtain⟨F',hF',hI⟩:=aYh hp' hn (by omega) (Nat.le_max_right c 4) h0;obtain rfl:F=F':=Option.some.inj (hF.symm.trans hF');refine⟨F,l,hI,aXi hr,?_,fun q hq=>?_,h1,fun lo hi k1 k2=>?_⟩
 ·have:=congrArg List.length hm;rw[List.length_map] at this;omega
 ·rw[<- hm] at hq;obtain⟨z,hz,rfl⟩:=List.mem_map.1 hq;have he:=hE z hz;exact⟨Nat.le_trans (mF _ _) he.len,he.cb.sz (by decide) (by decide)⟩
 ·have hev:∀ x:Rat,aH [x] 2=true->fM (L.map (·.1)) x 100000 2:=fun x hx=>by
   refine⟨by decide,by decide,by decide,by decide,hx,fun q hq=>?_⟩;obtain⟨z,hz,rfl⟩:=List.mem_map.1 hq;have he:=hE z hz;have hlen:=he.len;have:=aEm (K:=100000) (Kx:=2) hlen;have e7:iD 100000 2 7<=1000000:=by decide
   exact⟨by omega,bAd he.cm (by decide) (by decide),by omega⟩
  have hpl:=hp.len;have:=zP p L lo hi 100000 2 (by decide) (by omega) hL (by omega) (hev lo k1) (hev hi k2);rw[aWd hE,hm] at this;exact this
theorem aT0 (lo hi:Rat) (h1:aH [lo] 2=true) (h2:aH [hi] 2=true):aD Tryz.prog 21 [PL [] 100000,RT lo 2,RT hi 2] (.one (.v (.int .i64 (fV [] lo hi)))) :=
 zP [] [] lo hi 100000 2 (by decide) (by decide) (by decide +kernel) (by decide) ⟨by decide,by decide,by decide,by decide,h1,fun p hp=>nomatch hp⟩ ⟨by decide,by decide,by decide,by decide,h2,fun p hp=>nomatch hp⟩
theorem aAy {a:Rat} (K:Nat) {B:Nat} (h:aH [a] B=true):cT (RT a K) (RT a B):=⟨rfl,fun L ρ w v k=>eQ h L ρ w v k⟩
theorem aAz {p:List Rat} (K:Nat) {B:Nat} (h:aH p B=true):cT (PL p K) (PL p B):=⟨rfl,fun L ρ w v k=>eR h L ρ w v k⟩
theorem aYe (lo hi:Rat):fV [] lo hi=0:=by
 unfold fV;split
 ·rfl
 ·exact Int.sub_self _
theorem aVq (zs:List Int) (i:Nat):aH (cJ zs i) 1=true:=qP fun a ha=>by
 rcases (aAe _ _).1 ha with q | q
 ·exact nomatch q
 ·obtain⟨k,_,rfl⟩:=List.mem_map.1 q;exact uC k
def oL (Z:List Rat) (wild m x:Int):Rat:=if 0<(Z.length:Int)/\wild.tmod m=0 then Z.getD (dT x Z.length).toNat 0 else cE x
theorem aKm {Z:List Rat} (h:aH Z 1=true) (wild m x:Int):aH [oL Z wild m x] 1=true:=by
 unfold oL;split
 ·exact uP h _
 ·exact uC x
theorem aVv {Z:List Rat} {s t:Rat} {i:Nat} (h:i<Z.length):cN (Z.take (i+1)) s t=cN (Z.take i) s t+if s<Z.getD i 0/\Z.getD i 0<=t then 1 else 0:=by
 rw[take_at h 0,aH6];show _+((if s<Z.getD i 0/\Z.getD i 0<=t then (1:Int) else 0)+0)=_;rw[Int.add_zero]
theorem aGa {a b:Rat}:0<eV a b ↔ b<a:=by rw[uU]; grind
theorem aOk {a b:Rat}:eV a b<=0 ↔ a<=b:=by rw[uU]; grind
theorem aOj {a b:Rat}:eV a b<0 ↔ a<b:=by rw[uU]; grind
section
variable (zs:List Int) (hz:∀ z∈zs,-9223372036854775808<=z/\z<=9223372036854775807) (wild x y:Int) (hw : -9223372036854775808<=wild/\wild<=9223372036854775807) (hx : -9223372036854775808<=x/\x<=9223372036854775807) (hy : -9223372036854775808<=y/\y<=9223372036854775807)
include hz hw hx hy
set_option maxHeartbeats 2000000 in
theorem aQf:aD Tryz.prog 3 [.d (Dm.ints zs),.v (.int .i64 wild),.v (.int .i64 x),.v (.int .i64 y)] (.one (.v (.bool true))):=by
 have hp:=aVb zs wild;have hp0:=aXz zs wild;obtain⟨F,l,f1,f2,f3,f4,f5,f6⟩:=aWi hp (Nat.le_refl _) (by decide) hp0;have hst:=aQ8 f1 f2;have k2:=aSx zs wild hz hw;have hbs:=aZt hp hp0 (by decide);have hZs:=aVq zs (min 4 zs.length);have hZl:=aDk zs (min 4 zs.length) (by omega);have hin:∀ z∈cJ zs (min 4 zs.length),-(iO (fQ zs wild))<z/\z<iO (fQ zs wild):=fun z hz=>(by have h1:=aUi hp.tr hp0 (aJd hz (wild:=wild)); obtain⟨a1,a2⟩:=pW z; exact⟨by grind,by grind⟩)
 have kb:=(aDs (fQ zs wild) 100000 (by decide) (by have:=hp.len; omega) (aYc hp (by decide))).mono (fun _ _ _ _ h=>h) (eQ hbs);have hb1:=aYi (fQ zs wild);have kx:=aCu x hx.1 hx.2;have ky:=aCu y hy.1 hy.2;have hp1:aH (fQ zs wild) 100000=true:=hp.sz (by decide) (by decide);have hl4:(cJ zs (min 4 zs.length)).length<=4:=by omega
 clear hZl f1 f2;generalize cJ zs (min 4 zs.length)=Z at *;generalize fQ zs wild=p at *;generalize iO p=b at *;have hlo1:=aKm hZs wild 3 x;have hhi1:=aKm hZs wild 5 y;obtain⟨lo,hlo⟩:∃ lo,lo=oL Z wild 3 x:=⟨_,rfl⟩
 obtain⟨hi,hhi⟩:∃ hi,hi=oL Z wild 5 y:=⟨_,rfl⟩
 rw[<- hlo] at hlo1;rw[<- hhi] at hhi1;have hlo2:=pH (by decide:1<=2) hlo1;have hhi2:=pH (by decide:1<=2) hhi1;have hcn:fV (F::l) lo hi=cN Z lo hi:=aOi (V:=fun x=>bC x (F::l)) (hst lo hi);have hca:fV (F::l) (-b) b=Z.length:=(aOi (V:=fun x=>bC x (F::l)) (hst (-b) b)).trans (aMq hin);have hin0:=aF3 lo hi Z;refine aD.of (n:=140) Tryz.func3 rfl rfl rfl rfl rfl fun cx hfr=>?_;refine sr rfl ?_;refine xn ?_;refine RV.done (sr rfl ?_);refine xm ?_;refine xm ?_;refine p1 (cG k2 rfl rfl bd Tryz.func13 rfl rfl (.cons rfl ⟨rfl,aVt⟩ (xa rfl)) rfl hfr rfl) ?_;refine xm ?_;refine p1 (cO) ?_;refine p1 (cO) ?_;refine xn ?_;refine xn ?_;refine RV.done (sr rfl ?_);refine xm ?_;refine p1 (cG kx rfl rfl bd Tryz.func14 rfl rfl (xa rfl) rfl hfr rfl) ?_;refine p2 (aU (i:=0) cI) ?_;refine p1 (aQ (aC).2) ?_;refine RV.done (sr rfl ?_);refine xm ?_;refine p1 (cG ky rfl rfl bd Tryz.func14 rfl rfl (xa rfl) rfl hfr rfl) ?_;refine p2 (aU (i:=1) cI) ?_;refine p1 (aQ (aC).2) ?_;refine RV.done ?_;refine aA3 (l':=[(.s 8,.av (.one (.v (.bool false)))),(.s 9,.av (.one (PL p 10))),(.s 10,.av (.one (PL Z 1))),(.s 11,.av (.one (.ptr 0 0))),(.b 0,.blk 30 [(some 4,RT lo 1)]),(.s 12,.av (.one (.ptr 1 0))),(.b 1,.blk 30 [(some 4,RT (cE y) 1)]),(.s 1,.av (.one (.v (.int .i64 wild)))),(.s 3,.av (.one (.v (.int .i64 y))))]) ?_ ?_
 ·refine sr rfl ?_;refine xm ?_;refine p1 (bL aV bY) ?_;refine p1 (gC) ?_;refine xm ?_;refine RV.bool (fun c1=>?_) (fun c1=>?_)
  ·have h1:0<(Z.length:Int):=of_decide_eq_true c1;refine y1 (cB (.inl rfl)) ?_;refine y1 (uZ) ?_;refine y1 (cW) ?_;refine p1 (cX) ?_;refine RV.done ?_;refine CV.cond rfl (fun c2=>?_) (fun c2=>?_)
   ·have h2:wild.tmod 3=0:=(by simpa using c2)
    have hlo':Z.getD (dT x Z.length).toNat 0=lo:=(by rw[hlo,oL,if_pos ⟨h1,h2⟩])
    have har:=aIk x Z.length (by omega);refine CV.region rfl (fun h=>nomatch h) ?_;refine xm ?_;refine xm ?_;refine xm ?_;refine p1 (bL aV bY) ?_;refine xd rfl (aC8 x Z.length hx.1 hx.2 (by omega) (by omega)) Tryz.func15 (xb rfl rfl) hfr ?_;refine p1 (cV (k:=some 4) (i:=(dT x Z.length).toNat) (dN (by omega)) bY cH rfl rfl bd rfl (by show XV.av _=XV.av (.one (.v (.int .i64 _))); rw[Int.toNat_of_nonneg har.1]) (by decide)) ?_;refine p1 (bT aC) ?_;refine p1 (aQ (aC).2) ?_;refine RV.done ?_;show aZ _ _;exact aZ.mk ⟨aB _,aB _,aB _,aB _,iI (congrArg (fun a=>XV.blk 30 [(some 4,RT a 1)]) hlo'),aB _,aB _,aB _,aB _,trivial⟩ rfl rfl
   ·have h2:wild.tmod 3≠0:=(by simpa using c2)
    have hlo':cE x=lo:=(by rw[hlo,oL,if_neg (fun q=>h2 q.2)])
    refine CV.skip ?_;show aZ _ _;exact aZ.mk ⟨aB _,aB _,aB _,aB _,iI (congrArg (fun a=>XV.blk 30 [(some 4,RT a 1)]) hlo'),aB _,aB _,aB _,aB _,trivial⟩ rfl rfl
  ·have hlo':cE x=lo:=(by rw[hlo,oL,if_neg (fun q=>of_decide_eq_false c1 q.1)])
   refine xk ?_;refine xk ?_;refine xk ?_;refine p1 (eI) ?_;refine RV.done ?_;refine CV.no rfl ?_;refine CV.skip ?_;show aZ _ _;exact aZ.mk ⟨aB _,aB _,aB _,aB _,iI (congrArg (fun a=>XV.blk 30 [(some 4,RT a 1)]) hlo'),aB _,aB _,aB _,aB _,trivial⟩ rfl rfl
 ·refine aA3 (l':=[(.s 8,.av (.one (.v (.bool false)))),(.s 9,.av (.one (PL p 10))),(.s 10,.av (.one (PL Z 1))),(.s 11,.av (.one (.ptr 0 0))),(.b 0,.blk 30 [(some 4,RT lo 1)]),(.s 12,.av (.one (.ptr 1 0))),(.b 1,.blk 30 [(some 4,RT hi 1)])]) ?_ ?_
  ·refine sr rfl ?_;refine xm ?_;refine p1 (bL aV bY) ?_;refine p1 (gC) ?_;refine xm ?_;refine RV.bool (fun c1=>?_) (fun c1=>?_)
   ·have h1:0<(Z.length:Int):=of_decide_eq_true c1;refine y1 (cB (.inl rfl)) ?_;refine y1 (uZ) ?_;refine y1 (cW) ?_;refine p1 (cX) ?_;refine RV.done ?_;refine CV.cond rfl (fun c2=>?_) (fun c2=>?_)
    ·have h2:wild.tmod 5=0:=(by simpa using c2)
     have hhi':Z.getD (dT y Z.length).toNat 0=hi:=(by rw[hhi,oL,if_pos ⟨h1,h2⟩])
     have har:=aIk y Z.length (by omega);refine CV.region rfl (fun h=>nomatch h) ?_;refine xm ?_;refine xm ?_;refine xm ?_;refine p1 (bL aV bY) ?_;refine xd rfl (aC8 y Z.length hy.1 hy.2 (by omega) (by omega)) Tryz.func15 (xb rfl rfl) hfr ?_;refine p1 (cV (k:=some 4) (i:=(dT y Z.length).toNat) (dN (by omega)) bY cH rfl rfl bd rfl (by show XV.av _=XV.av (.one (.v (.int .i64 _))); rw[Int.toNat_of_nonneg har.1]) (by decide)) ?_;refine p1 (bT aC) ?_;refine p1 (aQ (aC).2) ?_;refine RV.done ?_;show aZ _ _;exact aZ.mk ⟨aB _,aB _,aB _,aB _,aB _,aB _,iI (congrArg (fun a=>XV.blk 30 [(some 4,RT a 1)]) hhi'),trivial⟩ rfl rfl
    ·have h2:wild.tmod 5≠0:=(by simpa using c2)
     have hhi':cE y=hi:=(by rw[hhi,oL,if_neg (fun q=>h2 q.2)])
     refine CV.skip ?_;show aZ _ _;exact aZ.mk ⟨aB _,aB _,aB _,aB _,aB _,aB _,iI (congrArg (fun a=>XV.blk 30 [(some 4,RT a 1)]) hhi'),trivial⟩ rfl rfl
   ·have hhi':cE y=hi:=(by rw[hhi,oL,if_neg (fun q=>of_decide_eq_false c1 q.1)])
    refine xk ?_;refine xk ?_;refine xk ?_;refine p1 (eI) ?_;refine RV.done ?_;refine CV.no rfl ?_;refine CV.skip ?_;show aZ _ _;exact aZ.mk ⟨aB _,aB _,aB _,aB _,aB _,aB _,iI (congrArg (fun a=>XV.blk 30 [(some 4,RT a 1)]) hhi'),trivial⟩ rfl rfl
  ·refine sr rfl ?_;refine xn ?_;refine RV.done (sr rfl ?_);refine xm ?_;refine p1 (cG kb rfl rfl bd Tryz.func16 rfl rfl (.cons rfl (aAz 10 hp1) .nil) rfl hfr rfl) ?_;refine p2 (aU (i:=2) cI) ?_;refine p1 (aQ (aC).2) ?_;refine RV.done ?_;refine CV.seq ?_;refine sr rfl ?_;refine xn ?_;refine RV.done ?_;refine CV.block ?_;refine CV.loop (X:={i:Nat // i<=Z.length}) (fun i=>[(.s 15,.av (.one (.v (.int .i64 (i.1:Int))))),(.s 13,.av (.one (.v (.int .i64 (cN (Z.take i.1) lo hi))))),(.s 9,.av (.one (PL p 10))),(.s 10,.av (.one (PL Z 1))),(.s 11,.av (.one (.ptr 0 0))),(.b 0,.blk 30 [(some 4,RT lo 1)]),(.s 12,.av (.one (.ptr 1 0))),(.b 1,.blk 30 [(some 4,RT hi 1)]),(.s 14,.av (.one (.ptr 2 0))),(.b 2,.blk 30 [(some 4,RT b 2)])]) (fun i=>Z.length-i.1) ⟨0,Nat.zero_le _⟩ (aZ.mk ⟨aB _,aB _,aB _,aB _,aB _,aB _,aB _,aB _,aB _,aB _,trivial⟩ rfl rfl) (fun i=>?_);obtain⟨i,hi4⟩:=i;simp only;refine CV.seq ?_;refine sr rfl ?_;refine xm ?_;refine xm ?_;refine p1 (bL aV bY) ?_;refine p1 (dP) ?_;refine RV.done ?_;refine CV.cond rfl (fun d1=>?_) (fun d1=>?_)
   ·have hlt:i<Z.length:=(by have:=of_decide_eq_true d1; omega)
    have hzi:=hin (Z.getD i 0) (by rw[List.getD_eq_getElem?_getD,List.getElem?_eq_getElem hlt]; exact List.getElem_mem _);have hstep:=aVv (s:=lo) (t:=hi) hlt;have hit:=aF3 lo hi (Z.take i);have htl:((Z.take i).length:Int)<=4:=(by rw[List.length_take]; omega)
    refine CV.skip ?_;refine CV.seq ?_;refine CV.block ?_;refine aA3 (l':=[(.s 15,.av (.one (.v (.int .i64 (i:Int))))),(.s 13,.av (.one (.v (.int .i64 (cN (Z.take (i+1)) lo hi))))),(.s 9,.av (.one (PL p 10))),(.s 10,.av (.one (PL Z 1))),(.s 11,.av (.one (.ptr 0 0))),(.b 0,.blk 30 [(some 4,RT lo 1)]),(.s 12,.av (.one (.ptr 1 0))),(.b 1,.blk 30 [(some 4,RT hi 1)]),(.s 14,.av (.one (.ptr 2 0))),(.b 2,.blk 30 [(some 4,RT b 2)])]) ?_ ?_
    ·refine CV.seq ?_;refine CV.region rfl (fun _=>by kernel_rfl) ?_;refine xm ?_;refine xm ?_;refine p1 (cV (k:=some 4) (i:=i) (dN hlt) bY cH) ?_;refine p1 (bT aC) ?_;refine p1 (aJ aC) ?_;refine xd rfl (rQ (Z.getD i 0) lo 1 1 (by decide) (by decide)) Tryz.func17 (xb rfl rfl) hfr ?_;refine p1 (gC) ?_;refine xm ?_;refine RV.bool (fun d2=>?_) (fun d2=>?_)
     ·have e1:lo<Z.getD i 0:=aGa.1 (of_decide_eq_true d2);refine y1 (cB (.inl rfl)) ?_;refine y1 (cB (.inl rfl)) ?_;refine y1 (cV (k:=some 4) (i:=i) (dN hlt) bY cH) ?_;refine y1 (bT aC) ?_;refine y1 (aJ aC) ?_;refine y1 (cG (rQ (Z.getD i 0) hi 1 1 (by decide) (by decide)) rfl rfl bd Tryz.func17 rfl rfl (xb rfl rfl) rfl hfr rfl) ?_;refine y1 (aNy rfl rfl bd rfl rfl) ?_;refine p1 (cX) ?_;refine bU (by kernel_rfl) ?_;refine CV.cond rfl (fun d3=>?_) (fun d3=>?_)
      ·have hn:cN (Z.take (i+1)) lo hi=cN (Z.take i) lo hi+1:=(by rw[hstep,if_pos ⟨e1,aOk.1 (of_decide_eq_true d3)⟩])
       refine CV.region rfl (fun h=>nomatch h) ?_;refine xm ?_;refine p1 (cP (c:=cN (Z.take (i+1)) lo hi) (by rw[bV (by omega) (by omega)]; omega) rfl rfl bd rfl rfl) ?_;refine xn ?_;refine RV.done ?_;show aZ _ _;exact aZ.mk ⟨aB _,(by first | exact aB _ | exact iI (congrArg (fun a=>XV.av (.one (.v (.int .i64 a)))) hn.symm)),aB _,aB _,aB _,aB _,aB _,aB _,aB _,aB _,trivial⟩ rfl rfl
      ·have hn:cN (Z.take (i+1)) lo hi=cN (Z.take i) lo hi:=(by rw[hstep,if_neg (fun q=>of_decide_eq_false d3 (aOk.2 q.2)),Int.add_zero])
       refine CV.skip ?_;show aZ _ _;exact aZ.mk ⟨aB _,(by first | exact aB _ | exact iI (congrArg (fun a=>XV.av (.one (.v (.int .i64 a)))) hn.symm)),aB _,aB _,aB _,aB _,aB _,aB _,aB _,aB _,trivial⟩ rfl rfl
     ·have e1:¬ lo<Z.getD i 0:=fun q=>of_decide_eq_false d2 (aGa.2 q);have hn:cN (Z.take (i+1)) lo hi=cN (Z.take i) lo hi:=(by rw[hstep,if_neg (fun q=>e1 q.1),Int.add_zero])
      refine xk ?_;refine xk ?_;refine xk ?_;refine xk ?_;refine xk ?_;refine xk ?_;refine xk ?_;refine p1 (eI) ?_;refine bU (by kernel_rfl) ?_;refine CV.no rfl ?_;refine CV.skip ?_;show aZ _ _;exact aZ.mk ⟨aB _,(by first | exact aB _ | exact iI (congrArg (fun a=>XV.av (.one (.v (.int .i64 a)))) hn.symm)),aB _,aB _,aB _,aB _,aB _,aB _,aB _,aB _,trivial⟩ rfl rfl
    ·refine CV.seq ?_;refine CV.region rfl (fun _=>by kernel_rfl) ?_;refine xm ?_;refine xm ?_;refine p1 (cV (k:=some 4) (i:=i) (dN hlt) bY cH) ?_;refine p1 (bT aC) ?_;refine p1 (aJ aC) ?_;refine xd rfl (rQ (Z.getD i 0) b 1 2 (by decide) (by decide)) Tryz.func17 (xb rfl rfl) hfr ?_;refine p1 (qX) ?_;refine xm ?_;refine RV.bool (fun hb=>False.elim ((by have q:=of_decide_eq_true hb; have:=aOj.2 hzi.2; omega))) (fun hb=>?_);refine y1 (cB (.inl rfl)) ?_;refine y1 (cB (.inl rfl)) ?_;refine y1 (cV (k:=some 4) (i:=i) (dN hlt) bY cH) ?_;refine y1 (bT aC) ?_;refine y1 (aJ aC) ?_;refine y1 (cG (aDd b 2) rfl rfl bd Tryz.func18 rfl rfl (xa rfl) rfl hfr rfl) ?_;refine y1 (cG (rQ (Z.getD i 0) (-b) 1 2 (by decide) (by decide)) rfl rfl bd Tryz.func17 rfl rfl (xb rfl rfl) rfl hfr rfl) ?_;refine y1 (aNy rfl rfl bd rfl rfl) ?_;refine p1 (eI) ?_;refine bU (by kernel_rfl) ?_;refine CV.cond rfl (fun hc=>False.elim ((by have q:=of_decide_eq_true hc; have:=aGa.2 hzi.1; omega))) (fun hc=>?_);refine CV.skip ?_;refine CV.region rfl (fun h=>nomatch h) ?_;refine xm ?_;refine p1 (cP (c:=((i+1:Nat):Int)) (by rw[bV (by omega) (by omega)]; omega) rfl rfl bd rfl rfl) ?_;refine xn ?_;refine RV.done ?_;exact⟨⟨i+1,hlt⟩,aZ.mk ⟨aB _,aB _,aB _,aB _,aB _,aB _,aB _,aB _,aB _,aB _,trivial⟩ rfl rfl,by show Z.length-(i+1)<Z.length-i; omega⟩
   ·have hil:i=Z.length:=(by have:=of_decide_eq_false d1; omega)
    subst hil;refine CV.exit ?_;refine aA3 (l':=[(.s 13,.av (.one (.v (.int .i64 (cN (Z.take Z.length) lo hi))))),(.s 9,.av (.one (PL p 10))),(.s 10,.av (.one (PL Z 1))),(.s 11,.av (.one (.ptr 0 0))),(.b 0,.blk 30 [(some 4,RT lo 1)]),(.s 12,.av (.one (.ptr 1 0))),(.b 1,.blk 30 [(some 4,RT hi 1)]),(.s 14,.av (.one (.ptr 2 0))),(.b 2,.blk 30 [(some 4,RT b 2)])]) ?_ ?_
    ·refine sr rfl ?_;refine p1 (aJ aC) ?_;refine p1 (aJ aC) ?_;refine xd rfl (rQ lo hi 1 1 (by decide) (by decide)) Tryz.func17 (xb rfl rfl) hfr ?_;refine p1 (dP) ?_;refine RV.done ?_;refine CV.cond rfl (fun g1=>?_) (fun g1=>?_)
     ·have hls:lo<hi:=aOj.1 (of_decide_eq_true g1);have hdf:bC lo (F::l)-bC hi (F::l)=cN (Z.take Z.length) lo hi:=(by rw[List.take_length]; exact hst lo hi hls)
      have hc1:=lM lo (F::l);have hc2:=lM hi (F::l);refine sr rfl ?_;refine xm ?_;refine p1 (cG f5 rfl rfl bd Tryz.func19 rfl rfl (.cons rfl (aAz 10 hp1) .nil) rfl hfr rfl) ?_;refine xn ?_;refine RV.done ?_;refine CV.seq ?_;refine CV.region rfl (fun _=>by kernel_rfl) ?_;refine xm ?_;refine p1 (aJ aC) ?_;refine xd rfl (tB (F::l) lo 100000 1 (by omega) (aMz hlo1 f4)) Tryz.func20 (xb rfl rfl) hfr ?_;refine xm ?_;refine p1 (aJ aC) ?_;refine xd rfl (tB (F::l) hi 100000 1 (by omega) (aMz hhi1 f4)) Tryz.func20 (xb rfl rfl) hfr ?_;refine p1 (dU (c:=bC lo (F::l)-bC hi (F::l)) (bV (by omega) (by omega)) rfl rfl bd rfl rfl) ?_;refine xm ?_;refine p1 (aXr hdf rfl rfl bd rfl rfl) ?_;refine bU (by kernel_rfl) ?_;refine CV.no rfl ?_;refine CV.skip ?_;show aZ _ _;exact aZ.mk ⟨aB _,aB _,aB _,aB _,aB _,aB _,aB _,aB _,aB _,trivial⟩ rfl rfl
     ·refine CV.skip ?_;show aZ _ _;exact aZ.mk ⟨aB _,aB _,aB _,aB _,aB _,aB _,aB _,aB _,aB _,trivial⟩ rfl rfl
    ·refine CV.seq ?_;refine CV.region rfl (fun _=>by kernel_rfl) ?_;refine xm ?_;refine p1 (aJ aC) ?_;refine p1 (aJ aC) ?_;refine xc (f6 lo hi hlo2 hhi2) Tryz.func21 (.cons rfl (aAz 10 hp1) (.cons rfl (aAy 1 hlo2) (.cons rfl (aAy 1 hhi2) .nil))) hfr ?_;refine xm ?_;refine p1 (qR (by rw[List.take_length]; exact hcn) rfl rfl bd rfl rfl) ?_;refine xm ?_;refine y1 (aJ aC) ?_;refine y1 (aJ aC) ?_;refine y1 (cG (aT0 lo hi hlo2 hhi2) rfl rfl bd Tryz.func21 rfl rfl (.cons rfl ⟨rfl,fun L ρ w v h=>oK L ρ w v h⟩ (.cons rfl (aAy 1 hlo2) (.cons rfl (aAy 1 hhi2) .nil))) rfl hfr rfl) ?_;refine y1 (qR (aYe lo hi) rfl rfl bd rfl rfl) ?_;refine p1 (cX) ?_;refine xm ?_;refine y1 (cB (.inl rfl)) ?_;refine y1 (aJ aC) ?_;refine y1 (cG (aDd b 2) rfl rfl bd Tryz.func18 rfl rfl (xa rfl) rfl hfr rfl) ?_;refine y1 (aJ aC) ?_;refine y1 (cG (f6 (-b) b (aA6 hbs) hbs) rfl rfl bd Tryz.func21 rfl rfl (.cons rfl (aAz 10 hp1) (xb rfl rfl)) rfl hfr rfl) ?_;refine y1 (cB (.inl rfl)) ?_;refine y1 (bL aV bY) ?_;refine y1 (qR hca rfl rfl bd rfl rfl) ?_;refine p1 (cX) ?_;refine xm ?_;refine y1 (cG aRu rfl rfl bd Tryz.func22 rfl rfl .nil rfl hfr rfl) ?_;refine p1 (cX) ?_;refine xn ?_;refine bU (by kernel_rfl) ?_;refine CV.ret ?_;exact aS rfl (.inr rfl) rfl cL
end
end Vc
end Go.Proofs.YtbaihklbefhgdaaGreat
