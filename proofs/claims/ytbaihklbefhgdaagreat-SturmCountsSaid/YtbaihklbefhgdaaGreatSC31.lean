/-
  
-/
import Derived.Test.YtbaihklbefhgdaaGreatSC25
import Derived.Test.YtbaihklbefhgdaaGreatSC2
import Derived.BigQuiet
import Derived.BigFrame
set_option linter.unusedVariables false
set_option linter.unusedSimpArgs false
set_option linter.unusedSectionVars false
namespace Go.Proofs.YtbaihklbefhgdaaGreat
open Go.RowKit
open Go.Lib (hid)
open Dg
namespace Zn
set_option maxRecDepth 100000 in
set_option maxHeartbeats 1000000 in
theorem aKu (p q r s:Int) (w:World) :
  Calls Tryz.prog 224 #[.agg #[.int .i64 p,.int .i64 q,.int .i64 r,.int .i64 s]] w (aB0 w (q==0)):=by
 have hr:fR (w.alloc (Obj.cells #[.int .i64 p,.int .i64 q,.int .i64 r,.int .i64 s] 184)) w.heap.size p q r s:=heap_alloc_new w _;obtain⟨W,hW⟩:∃ W,W=w.alloc (Obj.cells #[.int .i64 p,.int .i64 q,.int .i64 r,.int .i64 s] 184):=⟨_,rfl⟩
 have HB:=hid (show Below w.heap.size w W by rw[hW]; exact(Below.refl _ _).alloc (Nat.le_refl _) _);rw[<- hW] at hr;obtain⟨c1,c2,c3,c4⟩:=hr.cells;have HW:=hid hW;clear hW hr
 go_enter Tryz.func224,Tryz.ntmps224
 go_upto_region 1 with fail
 rw[<- HW.out];go_wp2
 go_ret
 exact⟨rfl,HB.out⟩
theorem aAu (x y:Nat):Nat.gcd y (x%y)=Nat.gcd x y:=by rw[Nat.gcd_comm x y,Nat.gcd_rec y x,Nat.gcd_comm]
theorem aA9 {X:Nat} (h:(aA X).length<=2):X<1000000000000000000:=rZ h
theorem aK0 {Y:Nat} (h:Y=0):(aA Y).length=0:=by rw[h]; rfl
theorem aMn {Y:Nat} (h:0<Y):0<(aA Y).length:=by
 refine Nat.pos_of_ne_zero fun h0=>?_;have:=jF.1 (List.eq_nil_of_length_eq_zero h0);omega
set_option maxRecDepth 100000 in
set_option maxHeartbeats 8000000 in
theorem aRy (va vb:Value) (A B:Nat) (w:World) (ha:aL w va (aA A)) (hb:aL w vb (aA B)) (hla:(aA A).length<=1099511627000) (hlb:(aA B).length<=1099511627000) :
  Calls Tryz.prog 200 #[va,vb] w (xM w (aA (Nat.gcd A B))):=by
 have HC:=hid (wC va vb A B w ha hb);have HA:=hid ha;have HB:=hid hb;have hcs:(A<B/\bA (A:Int) (B:Int) = -1/\∃ X0 Y0 vx vy,X0=B/\Y0=A/\vx=vb/\vy=va)\/(¬ A<B/\¬ bA (A:Int) (B:Int)<0/\∃ X0 Y0 vx vy,X0=A/\Y0=B/\vx=va/\vy=vb):=by
  by_cases h:A<B
  ·exact .inl ⟨h,by unfold bA; rw[if_pos (by omega)],_,_,_,_,rfl,rfl,rfl,rfl⟩
  ·refine .inr ⟨h,?_,_,_,_,_,rfl,rfl,rfl,rfl⟩;unfold bA;rw[if_neg (by omega)];split<;>omega
 obtain⟨G,hG⟩:∃ G,G=Nat.gcd A B:=⟨_,rfl⟩
 rw[<- hG];rcases hcs with ⟨hlt,hcmp,X0,Y0,vx,vy,rfl,rfl,rfl,rfl⟩ | ⟨hlt,hcmp,X0,Y0,vx,vy,rfl,rfl,rfl,rfl⟩
 ·have HG:=hid (show Nat.gcd X0 Y0=G by rw[hG,Nat.gcd_comm]);have hyx:Y0<=X0:=by omega
  rw[hcmp] at HC;clear hG hcmp hlt ha hb
  go_enter Tryz.func200,Tryz.ntmps200
  go_wp2_with fail
  refine HC.out.mono ?_;rintro e w1 ⟨rfl,hb1⟩;have HX:=hid (HB.out.keep hb1);have HY:=hid (HA.out.keep hb1);have HBL:=hid hb1;have HLX:=hid hlb;clear HC HA HB hb1 hla hlb
  go_upto_region 3 with fail
  go_loopg [0,1] Y0 (fun Y v1 v2 wr=>∃ X,aL wr v1 (aA X)/\aL wr v2 (aA Y)/\Y<=X/\Nat.gcd X Y=G/\(aA X).length<=1099511627000/\Below w.heap.size w wr)
  case atStart=>exact⟨X0,HX.out,HY.out,hyx,HG.out,HLX.out,HBL.out⟩
  case round =>
   clear HX HY HG HLX HBL hyx;obtain⟨X,h1,h2,hyx,hg,hlx,hbel⟩:=hrel;have HX:=hid h1;have HY:=hid h2;have HG:=hid hg;have HBL:=hid hbel;obtain⟨xo,xc,rfl,x1,x2,-⟩:=h1;obtain⟨yo,yc,rfl,y1,y2,-⟩:=h2;have hly:(aA gk).length<=1099511627000:=Nat.le_trans (dW hyx) hlx;have hlyx:(aA gk).length<=(aA X).length:=dW hyx;unfold maxLen at x2 y2;clear hg hbel;by_cases hl2:(aA X).length<=2
   ·have hX8:=aA9 hl2;have hY8:=aA9 (Nat.le_trans hlyx hl2);have HV1:=hid (fun w1 h=>tL (.slice xo (aA X).length xc) (aA X) w1 h (bF _) (by rw[aX]; omega));have HV2:=hid (fun w1 h=>tL (.slice yo (aA gk).length yc) (aA gk) w1 h (bF _) (by rw[aX]; omega));rw[aX] at HV1 HV2;have hl2i:¬ (2<((aA X).length:Int)):=by omega
    go_wp2_with fail
    refine(HV1.out _ HX.out).mono ?_;rintro e w' ⟨rfl,rfl⟩
    go_wp2_with fail
    refine(HV2.out _ HY.out).mono ?_;rintro e w' ⟨rfl,rfl⟩;clear HV1 HV2 hl2i hl2;go_wp2
    go_loopw [8,9] (fun x y wr'=>∃ x' y':Nat,x=.int .u64 x'/\y=.int .u64 y'/\x'<1000000000000000000/\y'<1000000000000000000/\Nat.gcd x' y'=G/\Below w.heap.size w wr') (fun _ y _=>(match y with | .int _ x=>x | _=>0).toNat)
    case atStart=>exact⟨X,gk,rfl,rfl,hX8,hY8,HG.out,HBL.out⟩
    case round =>
     clear HX HY HG HBL hX8 hY8 x1 x2 y1 y2 hly hlyx hlx hyx;obtain⟨m,n,rfl,rfl,hm,hn,hg,hbel⟩:=hrel;have HG:=hid hg;have HBL:=hid hbel;clear hg hbel;rcases Nat.eq_zero_or_pos n with h0 | h0
     ·subst h0;have HGM:=hid (show m=G by have:=HG.out; rw[Nat.gcd_zero_right] at this; exact this)
      go_wp2_with fail
      refine(tM m _ (by omega)).mono ?_;rintro e w5 ⟨v5,rfl,hn5,hb5⟩;rw[HGM.out] at hn5;have HN5:=hid hn5;have HB5:=hid (Pu.aO HBL.out hb5);clear hn5 hb5;go_wp2
      go_ret
      exact⟨v5,rfl,HN5.out,HB5.out⟩
     ·have hni:(0:Int)<(n:Int):=by omega
      have hnn:¬ n=0:=by omega
      have hr:((m:Int)).tmod (n:Int)=((m%n:Nat):Int):=by
       rw[Int.tmod_eq_emod_of_nonneg (by omega),Int.natCast_emod]
      have hr2:((m:Int))%(n:Int)=((m%n:Nat):Int):=by rw[Int.natCast_emod]
      have hlt:=Nat.mod_lt m h0;have hgn:Nat.gcd n (m%n)=G:=by rw[aAu]; exact HG.out
      obtain⟨k,hk⟩:∃ k,k=m%n:=⟨_,rfl⟩
      rw[<- hk] at hr hr2 hlt hgn;clear hk hr2;go_wp2
      go_region
      have HB6:=hid (HBL.out.drew);generalize World.drew _=w6 at *;go_wp2
      go_roundw
      case rel=>exact⟨n,k,rfl,rfl,hn,by omega,hgn,HB6.out⟩
      case measure=>simp; omega
   ·have hl3:(3:Int)<=((aA X).length:Int):=by omega
    rcases Nat.eq_zero_or_pos gk with h0 | h0
    ·have hz:=aK0 h0;have HGX:=hid (show X=G by have:=HG.out; rw[h0,Nat.gcd_zero_right] at this; exact this);rw[hz];go_wp2
     go_ret
     exact⟨_,rfl,by rw[<- HGX.out]; exact HX.out,HBL.out⟩
    ·have hpos:=aMn h0;have hyz:(((aA gk).length:Int)==0)=false:=by rw[beq_eq_false_iff_ne]; omega
     have HST:=hid (aHc (.slice xo (aA X).length xc) (.slice yo (aA gk).length yc) (aA X) (aA gk) wr HX.out HY.out (bF _) (bF _) (by omega) (by omega) (aFe (by omega)) hlyx (by rw[aX,aX]; exact hyx));rw[aX,aX] at HST
     go_wp2_with fail
     refine HST.out.mono ?_;rintro e w2 ⟨p,q,r,s,rfl,hkn,hb2⟩;have HKN:=hid hkn
     go_upto_region 7 with fail
     obtain⟨W3,hW3⟩:∃ W3,W3=w2.alloc (Obj.cells #[.int .i64 p,.int .i64 q,.int .i64 r,.int .i64 s] 184):=⟨_,rfl⟩
     have hb3:Below w2.heap.size w2 W3:=by rw[hW3]; exact(Below.refl _ _).alloc (Nat.le_refl _) _
     have hr3:fR W3 w2.heap.size p q r s:=by rw[hW3]; exact heap_alloc_new w2 _
     rw[<- hW3];have HX3:=hid ((HX.out.keep hb2).keep hb3);have HY3:=hid ((HY.out.keep hb2).keep hb3);have HB3:=hid (Pu.aO (Pu.aO HBL.out hb2) hb3);have HR3:=hid hr3;generalize w2.heap.size=h at *;clear hW3 hb2 hb3 hr3 hkn HST HX HY HBL
     go_wp2_with (with_reducible refine vV rfl (.tmp 5) rfl h p q r s rfl HR3.out ?_)
     refine(aKu p q r s _).mono ?_;rintro e w4 ⟨rfl,hb4⟩;have HX4:=hid (HX3.out.keep hb4);have HY4:=hid (HY3.out.keep hb4);have HB4:=hid (Pu.aO HB3.out hb4);have HR4:=hid (HR3.out.keep hb4);clear hb4 HX3 HY3 HB3 HR3;by_cases hq:q=0
     ·have hqz:(q==0)=true:=by rw[hq]; rfl
      have hgn:Nat.gcd gk (X%gk)=G:=by rw[aAu]; exact HG.out
      have hlt:=Nat.mod_lt X h0;rw[hqz]
      go_wp2_with fail
      refine(aC6 _ _ X gk _ HX4.out HY4.out h0 (by omega)).mono ?_;rintro e w5 ⟨vq,vr,rfl,-,hr5,hb5⟩;have HY5:=hid (HY4.out.keep hb5);have HR5:=hid hr5;have HB5:=hid (Pu.aO HB4.out hb5);clear hr5 hb5;go_wp2
      go_roundg (X%gk)
      case rel=>exact⟨gk,HY5.out,HR5.out,Nat.le_of_lt hlt,hgn,hly,HB5.out⟩
      case measure=>exact hlt
     ·have hqz:(q==0)=false:=by rw[beq_eq_false_iff_ne]; exact hq
      obtain⟨⟨p1,p2,q1,q2,r1,r2,s1,s2⟩,hkk⟩:=HKN.out;obtain⟨X',Y',e1,e2,hyx',hxx',hyy',hg'⟩:=hkk hq;rw[hqz];have hxl:X'<1000000000^(max (aA X).length (aA gk).length+1):=fG.1 (Nat.le_trans (dW hxx') (by omega));have hyl:Y'<1000000000^(max (aA X).length (aA gk).length+1):=fG.1 (Nat.le_trans (dW (Nat.le_trans hyx' hxx')) (by omega));have HCX:=hid (fun w1 h1 h2=>oZ p q (.slice xo (aA X).length xc) (.slice yo (aA gk).length yc) (aA X) (aA gk) X' w1 h1 h2 (bF _) (bF _) p1 p2 q1 q2 (by rw[aX,aX]; exact e1) hxl (by omega) (by omega));have HCY:=hid (fun w1 h1 h2=>oZ r s (.slice xo (aA X).length xc) (.slice yo (aA gk).length yc) (aA X) (aA gk) Y' w1 h1 h2 (bF _) (bF _) r1 r2 s1 s2 (by rw[aX,aX]; exact e2) hyl (by omega) (by omega));have HNW:=hid (And.intro hyx' (And.intro (hg'.trans HG.out) (And.intro (Nat.le_trans (dW hxx') hlx) hyy')));clear e1 e2 hxl hyl hkk hyx' hxx' hyy' hg';generalize (Value.slice xo (aA X).length xc)=v1 at *;generalize (Value.slice yo (aA gk).length yc)=v2 at *
      go_upto_region 10 with fail
      refine Pu.aG0 16 (gN [(36,.eq (.pointer (some ⟨h,0,none⟩))),(37,.eq (.int .i64 p)),(38,.eq (v1)),(39,.eq (.pointer (some ⟨h,1,none⟩))),(40,.eq (.int .i64 q)),(41,.eq (v2)),(42,.nums (aA X')),(43,.eq (.pointer (some ⟨h,2,none⟩))),(44,.eq (.int .i64 r)),(45,.eq (v1)),(46,.eq (.pointer (some ⟨h,3,none⟩))),(47,.eq (.int .i64 s)),(48,.eq (v2)),(49,.nums (aA Y')),(0,.nums (aA X')),(1,.nums (aA Y'))]) (by kernel_rfl) (by kernel_rfl) (by kernel_rfl) (fun hfn=>absurd hfn (by decide)) (gN.keep _) ?_ ?_ ?_
      ·intro L a w2 i o ho hne2 hL hdep hcl hI;have hi:i<16:=(Array.getElem?_eq_some_iff.1 ho).1;rcases (show i=0\/i=1\/i=2\/i=3\/i=4\/i=5\/i=6\/i=7\/i=8\/i=9\/i=10\/i=11\/i=12\/i=13\/i=14\/i=15 by omega) with rfl | rfl | rfl | rfl | rfl | rfl | rfl | rfl | rfl | rfl | rfl | rfl | rfl | rfl | rfl | rfl
       ·cases (Option.some.inj (show some _=some o from ho));have h5:a.tmps.getD 5 undef=.pointer (some ⟨h,0,none⟩):=hI.free (t:=5) (by kernel_rfl);refine bG rfl fun K hK=>?_;clear hcl hdep hI ho hi;go_simp;exact hK _ _ (Below.refl _ _) (fun d hd=>by cases hd; rfl)
       ·cases (Option.some.inj (show some _=some o from ho));have h36:a.tmps.getD 36 undef=.pointer (some ⟨h,0,none⟩):=hI.slot (i:=0) (d:=36) (hdep ⟨0,.data⟩ (by simp) (by rfl)) rfl;have hc4:=(HR4.out.keep hI.below).cells.1;refine bG rfl fun K hK=>?_;clear hcl hdep hI ho hi;go_simp;exact hK _ _ (Below.refl _ _) (fun d hd=>by cases hd; rfl)
       ·cases (Option.some.inj (show some _=some o from ho));have h0:a.tmps.getD 0 undef=v1:=hI.old hcl (t:=0) (J:=14) (i:=2) (by kernel_rfl) hL (by kernel_rfl);refine bG rfl fun K hK=>?_;clear hcl hdep hI ho hi;go_simp;exact hK _ _ (Below.refl _ _) (fun d hd=>by cases hd; rfl)
       ·cases (Option.some.inj (show some _=some o from ho));have h5:a.tmps.getD 5 undef=.pointer (some ⟨h,0,none⟩):=hI.free (t:=5) (by kernel_rfl);refine bG rfl fun K hK=>?_;clear hcl hdep hI ho hi;go_simp;exact hK _ _ (Below.refl _ _) (fun d hd=>by cases hd; rfl)
       ·cases (Option.some.inj (show some _=some o from ho));have h39:a.tmps.getD 39 undef=.pointer (some ⟨h,1,none⟩):=hI.slot (i:=3) (d:=39) (hdep ⟨3,.data⟩ (by simp) (by rfl)) rfl;have hc4:=(HR4.out.keep hI.below).cells.2.1;refine bG rfl fun K hK=>?_;clear hcl hdep hI ho hi;go_simp;exact hK _ _ (Below.refl _ _) (fun d hd=>by cases hd; rfl)
       ·cases (Option.some.inj (show some _=some o from ho));have h1:a.tmps.getD 1 undef=v2:=hI.old hcl (t:=1) (J:=15) (i:=5) (by kernel_rfl) hL (by kernel_rfl);refine bG rfl fun K hK=>?_;clear hcl hdep hI ho hi;go_simp;exact hK _ _ (Below.refl _ _) (fun d hd=>by cases hd; rfl)
       ·cases (Option.some.inj (show some _=some o from ho));have h37:a.tmps.getD 37 undef=.int .i64 p:=hI.slot (i:=1) (d:=37) (hdep ⟨1,.data⟩ (by simp) (by rfl)) rfl;have h38:a.tmps.getD 38 undef=v1:=hI.slot (i:=2) (d:=38) (hdep ⟨2,.data⟩ (by simp) (by rfl)) rfl;have h40:a.tmps.getD 40 undef=.int .i64 q:=hI.slot (i:=4) (d:=40) (hdep ⟨4,.data⟩ (by simp) (by rfl)) rfl;have h41:a.tmps.getD 41 undef=v2:=hI.slot (i:=5) (d:=41) (hdep ⟨5,.data⟩ (by simp) (by rfl)) rfl;have hbw:=hI.below;refine bG rfl fun K hK=>?_;clear hcl hdep hI ho hi;go_simp;refine(HCX.out _ (HX4.out.keep hbw) (HY4.out.keep hbw)).mono ?_;rintro e w5 ⟨v5,rfl,hn5,hb5⟩;exact hK _ _ hb5 (fun d hd=>by cases hd; exact hn5)
       ·cases (Option.some.inj (show some _=some o from ho));have h5:a.tmps.getD 5 undef=.pointer (some ⟨h,0,none⟩):=hI.free (t:=5) (by kernel_rfl);refine bG rfl fun K hK=>?_;clear hcl hdep hI ho hi;go_simp;exact hK _ _ (Below.refl _ _) (fun d hd=>by cases hd; rfl)
       ·cases (Option.some.inj (show some _=some o from ho));have h43:a.tmps.getD 43 undef=.pointer (some ⟨h,2,none⟩):=hI.slot (i:=7) (d:=43) (hdep ⟨7,.data⟩ (by simp) (by rfl)) rfl;have hc4:=(HR4.out.keep hI.below).cells.2.2.1;refine bG rfl fun K hK=>?_;clear hcl hdep hI ho hi;go_simp;exact hK _ _ (Below.refl _ _) (fun d hd=>by cases hd; rfl)
       ·cases (Option.some.inj (show some _=some o from ho));have h0:a.tmps.getD 0 undef=v1:=hI.old hcl (t:=0) (J:=14) (i:=9) (by kernel_rfl) hL (by kernel_rfl);refine bG rfl fun K hK=>?_;clear hcl hdep hI ho hi;go_simp;exact hK _ _ (Below.refl _ _) (fun d hd=>by cases hd; rfl)
       ·cases (Option.some.inj (show some _=some o from ho));have h5:a.tmps.getD 5 undef=.pointer (some ⟨h,0,none⟩):=hI.free (t:=5) (by kernel_rfl);refine bG rfl fun K hK=>?_;clear hcl hdep hI ho hi;go_simp;exact hK _ _ (Below.refl _ _) (fun d hd=>by cases hd; rfl)
       ·cases (Option.some.inj (show some _=some o from ho));have h46:a.tmps.getD 46 undef=.pointer (some ⟨h,3,none⟩):=hI.slot (i:=10) (d:=46) (hdep ⟨10,.data⟩ (by simp) (by rfl)) rfl;have hc4:=(HR4.out.keep hI.below).cells.2.2.2;refine bG rfl fun K hK=>?_;clear hcl hdep hI ho hi;go_simp;exact hK _ _ (Below.refl _ _) (fun d hd=>by cases hd; rfl)
       ·cases (Option.some.inj (show some _=some o from ho));have h1:a.tmps.getD 1 undef=v2:=hI.old hcl (t:=1) (J:=15) (i:=12) (by kernel_rfl) hL (by kernel_rfl);refine bG rfl fun K hK=>?_;clear hcl hdep hI ho hi;go_simp;exact hK _ _ (Below.refl _ _) (fun d hd=>by cases hd; rfl)
       ·cases (Option.some.inj (show some _=some o from ho));have h44:a.tmps.getD 44 undef=.int .i64 r:=hI.slot (i:=8) (d:=44) (hdep ⟨8,.data⟩ (by simp) (by rfl)) rfl;have h45:a.tmps.getD 45 undef=v1:=hI.slot (i:=9) (d:=45) (hdep ⟨9,.data⟩ (by simp) (by rfl)) rfl;have h47:a.tmps.getD 47 undef=.int .i64 s:=hI.slot (i:=11) (d:=47) (hdep ⟨11,.data⟩ (by simp) (by rfl)) rfl;have h48:a.tmps.getD 48 undef=v2:=hI.slot (i:=12) (d:=48) (hdep ⟨12,.data⟩ (by simp) (by rfl)) rfl;have hbw:=hI.below;refine bG rfl fun K hK=>?_;clear hcl hdep hI ho hi;go_simp;refine(HCY.out _ (HX4.out.keep hbw) (HY4.out.keep hbw)).mono ?_;rintro e w5 ⟨v5,rfl,hn5,hb5⟩;exact hK _ _ hb5 (fun d hd=>by cases hd; exact hn5)
       ·cases (Option.some.inj (show some _=some o from ho));have h42:aL w2 (a.tmps.getD 42 undef) (aA X'):=hI.slot (i:=6) (d:=42) (hdep ⟨6,.data⟩ (by simp) (by rfl)) rfl;obtain⟨x42,e42⟩:∃ x,a.tmps.getD 42 undef=x:=⟨_,rfl⟩
        rw[e42] at h42;refine bG rfl fun K hK=>?_;clear hcl hdep hI ho hi;go_simp;exact hK _ _ (Below.refl _ _) (fun d hd=>by cases hd; exact h42)
       ·cases (Option.some.inj (show some _=some o from ho));have h49:aL w2 (a.tmps.getD 49 undef) (aA Y'):=hI.slot (i:=13) (d:=49) (hdep ⟨13,.data⟩ (by simp) (by rfl)) rfl;obtain⟨x49,e49⟩:∃ x,a.tmps.getD 49 undef=x:=⟨_,rfl⟩
        rw[e49] at h49;refine bG rfl fun K hK=>?_;clear hcl hdep hI ho hi;go_simp;exact hK _ _ (Below.refl _ _) (fun d hd=>by cases hd; exact h49)
      ·intro L a w2 o ho;exact absurd ho (by simp)
      ·intro _ L a w2 hall hI;have h0:aL w2 (a.tmps.getD 0 undef) (aA X'):=hI.slot (i:=14) (d:=0) (hall 14 (by decide)) rfl;have h1:aL w2 (a.tmps.getD 1 undef) (aA Y'):=hI.slot (i:=15) (d:=1) (hall 15 (by decide)) rfl;have HBE:=hid (Pu.aO HB4.out hI.below);have hf:=hI.frame [36,37,38,39,40,41,42,43,44,45,46,47,48,49,0,1] (by kernel_rfl);simp only[List.foldl_cons,List.foldl_nil] at hf;clear hI hall;generalize a.tmps.getD 36 undef=y36 at *;generalize a.tmps.getD 37 undef=y37 at *;generalize a.tmps.getD 38 undef=y38 at *;generalize a.tmps.getD 39 undef=y39 at *;generalize a.tmps.getD 40 undef=y40 at *;generalize a.tmps.getD 41 undef=y41 at *;generalize a.tmps.getD 42 undef=y42 at *;generalize a.tmps.getD 43 undef=y43 at *;generalize a.tmps.getD 44 undef=y44 at *;generalize a.tmps.getD 45 undef=y45 at *;generalize a.tmps.getD 46 undef=y46 at *;generalize a.tmps.getD 47 undef=y47 at *;generalize a.tmps.getD 48 undef=y48 at *;generalize a.tmps.getD 49 undef=y49 at *;generalize a.tmps.getD 0 undef=y0 at *;generalize a.tmps.getD 1 undef=y1 at *;subst hf;have HN0:=hid h0;have HN1:=hid h1;clear h0 h1;go_simp;go_wp2
       go_roundg Y'
       case rel=>exact⟨X',HN0.out,HN1.out,HNW.out.1,HNW.out.2.1,HNW.out.2.2.1,HBE.out⟩
       case measure=>exact HNW.out.2.2.2
 ·have HG:=hid (show Nat.gcd X0 Y0=G by rw[hG]);have hyx:Y0<=X0:=by omega
  obtain⟨cc,hcc⟩:∃ cc,bA (X0:Int) (Y0:Int)=cc:=⟨_,rfl⟩
  rw[hcc] at HC hcmp;clear hG hlt ha hb hcc
  go_enter Tryz.func200,Tryz.ntmps200
  go_wp2_with fail
  refine HC.out.mono ?_;rintro e w1 ⟨rfl,hb1⟩;have HX:=hid (HA.out.keep hb1);have HY:=hid (HB.out.keep hb1);have HBL:=hid hb1;have HLX:=hid hla;clear HC HA HB hb1 hla hlb
  go_upto_region 3 with fail
  clear hcmp
  go_loopg [0,1] Y0 (fun Y v1 v2 wr=>∃ X,aL wr v1 (aA X)/\aL wr v2 (aA Y)/\Y<=X/\Nat.gcd X Y=G/\(aA X).length<=1099511627000/\Below w.heap.size w wr)
  case atStart=>exact⟨X0,HX.out,HY.out,hyx,HG.out,HLX.out,HBL.out⟩
  case round =>
   clear HX HY HG HLX HBL hyx;obtain⟨X,h1,h2,hyx,hg,hlx,hbel⟩:=hrel;have HX:=hid h1;have HY:=hid h2;have HG:=hid hg;have HBL:=hid hbel;obtain⟨xo,xc,rfl,x1,x2,-⟩:=h1;obtain⟨yo,yc,rfl,y1,y2,-⟩:=h2;have hly:(aA gk).length<=1099511627000:=Nat.le_trans (dW hyx) hlx;have hlyx:(aA gk).length<=(aA X).length:=dW hyx;unfold maxLen at x2 y2;clear hg hbel;by_cases hl2:(aA X).length<=2
   ·have hX8:=aA9 hl2;have hY8:=aA9 (Nat.le_trans hlyx hl2);have HV1:=hid (fun w1 h=>tL (.slice xo (aA X).length xc) (aA X) w1 h (bF _) (by rw[aX]; omega));have HV2:=hid (fun w1 h=>tL (.slice yo (aA gk).length yc) (aA gk) w1 h (bF _) (by rw[aX]; omega));rw[aX] at HV1 HV2;have hl2i:¬ (2<((aA X).length:Int)):=by omega
    go_wp2_with fail
    refine(HV1.out _ HX.out).mono ?_;rintro e w' ⟨rfl,rfl⟩
    go_wp2_with fail
    refine(HV2.out _ HY.out).mono ?_;rintro e w' ⟨rfl,rfl⟩;clear HV1 HV2 hl2i hl2;go_wp2
    go_loopw [8,9] (fun x y wr'=>∃ x' y':Nat,x=.int .u64 x'/\y=.int .u64 y'/\x'<1000000000000000000/\y'<1000000000000000000/\Nat.gcd x' y'=G/\Below w.heap.size w wr') (fun _ y _=>(match y with | .int _ x=>x | _=>0).toNat)
    case atStart=>exact⟨X,gk,rfl,rfl,hX8,hY8,HG.out,HBL.out⟩
    case round =>
     clear HX HY HG HBL hX8 hY8 x1 x2 y1 y2 hly hlyx hlx hyx;obtain⟨m,n,rfl,rfl,hm,hn,hg,hbel⟩:=hrel;have HG:=hid hg;have HBL:=hid hbel;clear hg hbel;rcases Nat.eq_zero_or_pos n with h0 | h0
     ·subst h0;have HGM:=hid (show m=G by have:=HG.out; rw[Nat.gcd_zero_right] at this; exact this)
      go_wp2_with fail
      refine(tM m _ (by omega)).mono ?_;rintro e w5 ⟨v5,rfl,hn5,hb5⟩;rw[HGM.out] at hn5;have HN5:=hid hn5;have HB5:=hid (Pu.aO HBL.out hb5);clear hn5 hb5;go_wp2
      go_ret
      exact⟨v5,rfl,HN5.out,HB5.out⟩
     ·have hni:(0:Int)<(n:Int):=by omega
      have hnn:¬ n=0:=by omega
      have hr:((m:Int)).tmod (n:Int)=((m%n:Nat):Int):=by
       rw[Int.tmod_eq_emod_of_nonneg (by omega),Int.natCast_emod]
      have hr2:((m:Int))%(n:Int)=((m%n:Nat):Int):=by rw[Int.natCast_emod]
      have hlt:=Nat.mod_lt m h0;have hgn:Nat.gcd n (m%n)=G:=by rw[aAu]; exact HG.out
      obtain⟨k,hk⟩:∃ k,k=m%n:=⟨_,rfl⟩
      rw[<- hk] at hr hr2 hlt hgn;clear hk hr2;go_wp2
      go_region
      have HB6:=hid (HBL.out.drew);generalize World.drew _=w6 at *;go_wp2
      go_roundw
      case rel=>exact⟨n,k,rfl,rfl,hn,by omega,hgn,HB6.out⟩
      case measure=>simp; omega
   ·have hl3:(3:Int)<=((aA X).length:Int):=by omega
    rcases Nat.eq_zero_or_pos gk with h0 | h0
    ·have hz:=aK0 h0;have HGX:=hid (show X=G by have:=HG.out; rw[h0,Nat.gcd_zero_right] at this; exact this);rw[hz];go_wp2
     go_ret
     exact⟨_,rfl,by rw[<- HGX.out]; exact HX.out,HBL.out⟩
    ·have hpos:=aMn h0;have hyz:(((aA gk).length:Int)==0)=false:=by rw[beq_eq_false_iff_ne]; omega
     have HST:=hid (aHc (.slice xo (aA X).length xc) (.slice yo (aA gk).length yc) (aA X) (aA gk) wr HX.out HY.out (bF _) (bF _) (by omega) (by omega) (aFe (by omega)) hlyx (by rw[aX,aX]; exact hyx));rw[aX,aX] at HST
     go_wp2_with fail
     refine HST.out.mono ?_;rintro e w2 ⟨p,q,r,s,rfl,hkn,hb2⟩;have HKN:=hid hkn
     go_upto_region 7 with fail
     obtain⟨W3,hW3⟩:∃ W3,W3=w2.alloc (Obj.cells #[.int .i64 p,.int .i64 q,.int .i64 r,.int .i64 s] 184):=⟨_,rfl⟩
     have hb3:Below w2.heap.size w2 W3:=by rw[hW3]; exact(Below.refl _ _).alloc (Nat.le_refl _) _
     have hr3:fR W3 w2.heap.size p q r s:=by rw[hW3]; exact heap_alloc_new w2 _
     rw[<- hW3];have HX3:=hid ((HX.out.keep hb2).keep hb3);have HY3:=hid ((HY.out.keep hb2).keep hb3);have HB3:=hid (Pu.aO (Pu.aO HBL.out hb2) hb3);have HR3:=hid hr3;generalize w2.heap.size=h at *;clear hW3 hb2 hb3 hr3 hkn HST HX HY HBL
     go_wp2_with (with_reducible refine vV rfl (.tmp 5) rfl h p q r s rfl HR3.out ?_)
     refine(aKu p q r s _).mono ?_;rintro e w4 ⟨rfl,hb4⟩;have HX4:=hid (HX3.out.keep hb4);have HY4:=hid (HY3.out.keep hb4);have HB4:=hid (Pu.aO HB3.out hb4);have HR4:=hid (HR3.out.keep hb4);clear hb4 HX3 HY3 HB3 HR3;by_cases hq:q=0
     ·have hqz:(q==0)=true:=by rw[hq]; rfl
      have hgn:Nat.gcd gk (X%gk)=G:=by rw[aAu]; exact HG.out
      have hlt:=Nat.mod_lt X h0;rw[hqz]
      go_wp2_with fail
      refine(aC6 _ _ X gk _ HX4.out HY4.out h0 (by omega)).mono ?_;rintro e w5 ⟨vq,vr,rfl,-,hr5,hb5⟩;have HY5:=hid (HY4.out.keep hb5);have HR5:=hid hr5;have HB5:=hid (Pu.aO HB4.out hb5);clear hr5 hb5;go_wp2
      go_roundg (X%gk)
      case rel=>exact⟨gk,HY5.out,HR5.out,Nat.le_of_lt hlt,hgn,hly,HB5.out⟩
      case measure=>exact hlt
     ·have hqz:(q==0)=false:=by rw[beq_eq_false_iff_ne]; exact hq
      obtain⟨⟨p1,p2,q1,q2,r1,r2,s1,s2⟩,hkk⟩:=HKN.out;obtain⟨X',Y',e1,e2,hyx',hxx',hyy',hg'⟩:=hkk hq;rw[hqz];have hxl:X'<1000000000^(max (aA X).length (aA gk).length+1):=fG.1 (Nat.le_trans (dW hxx') (by omega));have hyl:Y'<1000000000^(max (aA X).length (aA gk).length+1):=fG.1 (Nat.le_trans (dW (Nat.le_trans hyx' hxx')) (by omega));have HCX:=hid (fun w1 h1 h2=>oZ p q (.slice xo (aA X).length xc) (.slice yo (aA gk).length yc) (aA X) (aA gk) X' w1 h1 h2 (bF _) (bF _) p1 p2 q1 q2 (by rw[aX,aX]; exact e1) hxl (by omega) (by omega));have HCY:=hid (fun w1 h1 h2=>oZ r s (.slice xo (aA X).length xc) (.slice yo (aA gk).length yc) (aA X) (aA gk) Y' w1 h1 h2 (bF _) (bF _) r1 r2 s1 s2 (by rw[aX,aX]; exact e2) hyl (by omega) (by omega));have HNW:=hid (And.intro hyx' (And.intro (hg'.trans HG.out) (And.intro (Nat.le_trans (dW hxx') hlx) hyy')));clear e1 e2 hxl hyl hkk hyx' hxx' hyy' hg';generalize (Value.slice xo (aA X).length xc)=v1 at *;generalize (Value.slice yo (aA gk).length yc)=v2 at *
      go_upto_region 10 with fail
      refine Pu.aG0 16 (gN [(36,.eq (.pointer (some ⟨h,0,none⟩))),(37,.eq (.int .i64 p)),(38,.eq (v1)),(39,.eq (.pointer (some ⟨h,1,none⟩))),(40,.eq (.int .i64 q)),(41,.eq (v2)),(42,.nums (aA X')),(43,.eq (.pointer (some ⟨h,2,none⟩))),(44,.eq (.int .i64 r)),(45,.eq (v1)),(46,.eq (.pointer (some ⟨h,3,none⟩))),(47,.eq (.int .i64 s)),(48,.eq (v2)),(49,.nums (aA Y')),(0,.nums (aA X')),(1,.nums (aA Y'))]) (by kernel_rfl) (by kernel_rfl) (by kernel_rfl) (fun hfn=>absurd hfn (by decide)) (gN.keep _) ?_ ?_ ?_
      ·intro L a w2 i o ho hne2 hL hdep hcl hI;have hi:i<16:=(Array.getElem?_eq_some_iff.1 ho).1;rcases (show i=0\/i=1\/i=2\/i=3\/i=4\/i=5\/i=6\/i=7\/i=8\/i=9\/i=10\/i=11\/i=12\/i=13\/i=14\/i=15 by omega) with rfl | rfl | rfl | rfl | rfl | rfl | rfl | rfl | rfl | rfl | rfl | rfl | rfl | rfl | rfl | rfl
       ·cases (Option.some.inj (show some _=some o from ho));have h5:a.tmps.getD 5 undef=.pointer (some ⟨h,0,none⟩):=hI.free (t:=5) (by kernel_rfl);refine bG rfl fun K hK=>?_;clear hcl hdep hI ho hi;go_simp;exact hK _ _ (Below.refl _ _) (fun d hd=>by cases hd; rfl)
       ·cases (Option.some.inj (show some _=some o from ho));have h36:a.tmps.getD 36 undef=.pointer (some ⟨h,0,none⟩):=hI.slot (i:=0) (d:=36) (hdep ⟨0,.data⟩ (by simp) (by rfl)) rfl;have hc4:=(HR4.out.keep hI.below).cells.1;refine bG rfl fun K hK=>?_;clear hcl hdep hI ho hi;go_simp;exact hK _ _ (Below.refl _ _) (fun d hd=>by cases hd; rfl)
       ·cases (Option.some.inj (show some _=some o from ho));have h0:a.tmps.getD 0 undef=v1:=hI.old hcl (t:=0) (J:=14) (i:=2) (by kernel_rfl) hL (by kernel_rfl);refine bG rfl fun K hK=>?_;clear hcl hdep hI ho hi;go_simp;exact hK _ _ (Below.refl _ _) (fun d hd=>by cases hd; rfl)
       ·cases (Option.some.inj (show some _=some o from ho));have h5:a.tmps.getD 5 undef=.pointer (some ⟨h,0,none⟩):=hI.free (t:=5) (by kernel_rfl);refine bG rfl fun K hK=>?_;clear hcl hdep hI ho hi;go_simp;exact hK _ _ (Below.refl _ _) (fun d hd=>by cases hd; rfl)
       ·cases (Option.some.inj (show some _=some o from ho));have h39:a.tmps.getD 39 undef=.pointer (some ⟨h,1,none⟩):=hI.slot (i:=3) (d:=39) (hdep ⟨3,.data⟩ (by simp) (by rfl)) rfl;have hc4:=(HR4.out.keep hI.below).cells.2.1;refine bG rfl fun K hK=>?_;clear hcl hdep hI ho hi;go_simp;exact hK _ _ (Below.refl _ _) (fun d hd=>by cases hd; rfl)
       ·cases (Option.some.inj (show some _=some o from ho));have h1:a.tmps.getD 1 undef=v2:=hI.old hcl (t:=1) (J:=15) (i:=5) (by kernel_rfl) hL (by kernel_rfl);refine bG rfl fun K hK=>?_;clear hcl hdep hI ho hi;go_simp;exact hK _ _ (Below.refl _ _) (fun d hd=>by cases hd; rfl)
       ·cases (Option.some.inj (show some _=some o from ho));have h37:a.tmps.getD 37 undef=.int .i64 p:=hI.slot (i:=1) (d:=37) (hdep ⟨1,.data⟩ (by simp) (by rfl)) rfl;have h38:a.tmps.getD 38 undef=v1:=hI.slot (i:=2) (d:=38) (hdep ⟨2,.data⟩ (by simp) (by rfl)) rfl;have h40:a.tmps.getD 40 undef=.int .i64 q:=hI.slot (i:=4) (d:=40) (hdep ⟨4,.data⟩ (by simp) (by rfl)) rfl;have h41:a.tmps.getD 41 undef=v2:=hI.slot (i:=5) (d:=41) (hdep ⟨5,.data⟩ (by simp) (by rfl)) rfl;have hbw:=hI.below;refine bG rfl fun K hK=>?_;clear hcl hdep hI ho hi;go_simp;refine(HCX.out _ (HX4.out.keep hbw) (HY4.out.keep hbw)).mono ?_;rintro e w5 ⟨v5,rfl,hn5,hb5⟩;exact hK _ _ hb5 (fun d hd=>by cases hd; exact hn5)
       ·cases (Option.some.inj (show some _=some o from ho));have h5:a.tmps.getD 5 undef=.pointer (some ⟨h,0,none⟩):=hI.free (t:=5) (by kernel_rfl);refine bG rfl fun K hK=>?_;clear hcl hdep hI ho hi;go_simp;exact hK _ _ (Below.refl _ _) (fun d hd=>by cases hd; rfl)
       ·cases (Option.some.inj (show some _=some o from ho));have h43:a.tmps.getD 43 undef=.pointer (some ⟨h,2,none⟩):=hI.slot (i:=7) (d:=43) (hdep ⟨7,.data⟩ (by simp) (by rfl)) rfl;have hc4:=(HR4.out.keep hI.below).cells.2.2.1;refine bG rfl fun K hK=>?_;clear hcl hdep hI ho hi;go_simp;exact hK _ _ (Below.refl _ _) (fun d hd=>by cases hd; rfl)
       ·cases (Option.some.inj (show some _=some o from ho));have h0:a.tmps.getD 0 undef=v1:=hI.old hcl (t:=0) (J:=14) (i:=9) (by kernel_rfl) hL (by kernel_rfl);refine bG rfl fun K hK=>?_;clear hcl hdep hI ho hi;go_simp;exact hK _ _ (Below.refl _ _) (fun d hd=>by cases hd; rfl)
       ·cases (Option.some.inj (show some _=some o from ho));have h5:a.tmps.getD 5 undef=.pointer (some ⟨h,0,none⟩):=hI.free (t:=5) (by kernel_rfl);refine bG rfl fun K hK=>?_;clear hcl hdep hI ho hi;go_simp;exact hK _ _ (Below.refl _ _) (fun d hd=>by cases hd; rfl)
       ·cases (Option.some.inj (show some _=some o from ho));have h46:a.tmps.getD 46 undef=.pointer (some ⟨h,3,none⟩):=hI.slot (i:=10) (d:=46) (hdep ⟨10,.data⟩ (by simp) (by rfl)) rfl;have hc4:=(HR4.out.keep hI.below).cells.2.2.2;refine bG rfl fun K hK=>?_;clear hcl hdep hI ho hi;go_simp;exact hK _ _ (Below.refl _ _) (fun d hd=>by cases hd; rfl)
       ·cases (Option.some.inj (show some _=some o from ho));have h1:a.tmps.getD 1 undef=v2:=hI.old hcl (t:=1) (J:=15) (i:=12) (by kernel_rfl) hL (by kernel_rfl);refine bG rfl fun K hK=>?_;clear hcl hdep hI ho hi;go_simp;exact hK _ _ (Below.refl _ _) (fun d hd=>by cases hd; rfl)
       ·cases (Option.some.inj (show some _=some o from ho));have h44:a.tmps.getD 44 undef=.int .i64 r:=hI.slot (i:=8) (d:=44) (hdep ⟨8,.data⟩ (by simp) (by rfl)) rfl;have h45:a.tmps.getD 45 undef=v1:=hI.slot (i:=9) (d:=45) (hdep ⟨9,.data⟩ (by simp) (by rfl)) rfl;have h47:a.tmps.getD 47 undef=.int .i64 s:=hI.slot (i:=11) (d:=47) (hdep ⟨11,.data⟩ (by simp) (by rfl)) rfl;have h48:a.tmps.getD 48 undef=v2:=hI.slot (i:=12) (d:=48) (hdep ⟨12,.data⟩ (by simp) (by rfl)) rfl;have hbw:=hI.below;refine bG rfl fun K hK=>?_;clear hcl hdep hI ho hi;go_simp;refine(HCY.out _ (HX4.out.keep hbw) (HY4.out.keep hbw)).mono ?_;rintro e w5 ⟨v5,rfl,hn5,hb5⟩;exact hK _ _ hb5 (fun d hd=>by cases hd; exact hn5)
       ·cases (Option.some.inj (show some _=some o from ho));have h42:aL w2 (a.tmps.getD 42 undef) (aA X'):=hI.slot (i:=6) (d:=42) (hdep ⟨6,.data⟩ (by simp) (by rfl)) rfl;obtain⟨x42,e42⟩:∃ x,a.tmps.getD 42 undef=x:=⟨_,rfl⟩
        rw[e42] at h42;refine bG rfl fun K hK=>?_;clear hcl hdep hI ho hi;go_simp;exact hK _ _ (Below.refl _ _) (fun d hd=>by cases hd; exact h42)
       ·cases (Option.some.inj (show some _=some o from ho));have h49:aL w2 (a.tmps.getD 49 undef) (aA Y'):=hI.slot (i:=13) (d:=49) (hdep ⟨13,.data⟩ (by simp) (by rfl)) rfl;obtain⟨x49,e49⟩:∃ x,a.tmps.getD 49 undef=x:=⟨_,rfl⟩
        rw[e49] at h49;refine bG rfl fun K hK=>?_;clear hcl hdep hI ho hi;go_simp;exact hK _ _ (Below.refl _ _) (fun d hd=>by cases hd; exact h49)
      ·intro L a w2 o ho;exact absurd ho (by simp)
      ·intro _ L a w2 hall hI;have h0:aL w2 (a.tmps.getD 0 undef) (aA X'):=hI.slot (i:=14) (d:=0) (hall 14 (by decide)) rfl;have h1:aL w2 (a.tmps.getD 1 undef) (aA Y'):=hI.slot (i:=15) (d:=1) (hall 15 (by decide)) rfl;have HBE:=hid (Pu.aO HB4.out hI.below);have hf:=hI.frame [36,37,38,39,40,41,42,43,44,45,46,47,48,49,0,1] (by kernel_rfl);simp only[List.foldl_cons,List.foldl_nil] at hf;clear hI hall;generalize a.tmps.getD 36 undef=y36 at *;generalize a.tmps.getD 37 undef=y37 at *;generalize a.tmps.getD 38 undef=y38 at *;generalize a.tmps.getD 39 undef=y39 at *;generalize a.tmps.getD 40 undef=y40 at *;generalize a.tmps.getD 41 undef=y41 at *;generalize a.tmps.getD 42 undef=y42 at *;generalize a.tmps.getD 43 undef=y43 at *;generalize a.tmps.getD 44 undef=y44 at *;generalize a.tmps.getD 45 undef=y45 at *;generalize a.tmps.getD 46 undef=y46 at *;generalize a.tmps.getD 47 undef=y47 at *;generalize a.tmps.getD 48 undef=y48 at *;generalize a.tmps.getD 49 undef=y49 at *;generalize a.tmps.getD 0 undef=y0 at *;generalize a.tmps.getD 1 undef=y1 at *;subst hf;have HN0:=hid h0;have HN1:=hid h1;clear h0 h1;go_simp;go_wp2
       go_roundg Y'
       case rel=>exact⟨X',HN0.out,HN1.out,HNW.out.1,HNW.out.2.1,HNW.out.2.2.1,HBE.out⟩
       case measure=>exact HNW.out.2.2.2
set_option maxRecDepth 100000 in
set_option maxHeartbeats 2000000 in
theorem aYu (vx vy:Value) (x y:Int) (w:World) (hx:aW w vx x) (hy:aW w vy y) (hl1:len x<=1099511627000) (hl2:len y<=1099511627000) :
  Calls Tryz.prog 142 #[vx,vy] w (fF w ((Int.gcd x y:Nat):Int)):=by
 have HX:=hid hx;have HY:=hid hy;obtain⟨s',rfl,hs⟩:=hx;obtain⟨t',rfl,ht⟩:=hy;have hs0:=hs;have ht0:=ht;obtain⟨so,sc,rfl,-⟩:=hs0;obtain⟨ty,tc,rfl,-⟩:=ht0;have HS:=hid hs;have HT:=hid ht;have HCM:=hid (fun w1 h1 h2=>aRy (.slice so (aA x.natAbs).length sc) (.slice ty (aA y.natAbs).length tc) x.natAbs y.natAbs w1 h1 h2 hl1 hl2);have HV1:=hid (fun w1 h=>wS (.agg #[.bool (decide (x<0)),(.slice so (aA x.natAbs).length sc)]) x w1 h);have HV2:=hid (fun w1 h=>wS (.agg #[.bool (decide (y<0)),(.slice ty (aA y.natAbs).length tc)]) y w1 h);generalize decide (x<0)=bx at *;generalize decide (y<0)=by' at *
 obtain⟨W,hW⟩:∃ W,W=((w.alloc (Obj.cells #[Value.bool bx,(.slice so (aA x.natAbs).length sc)] 28)).alloc (Obj.cells #[Value.bool by',(.slice ty (aA y.natAbs).length tc)] 28)).alloc (Obj.cells #[Value.bool false,Value.slice none 0 0] 28):=⟨_,rfl⟩
 have HB:=hid (show Below w.heap.size w W by rw[hW]; exact vF w _ _ _);have hx1:W.heap[w.heap.size]?=some (.cells #[Value.bool bx,(.slice so (aA x.natAbs).length sc)] 28 (0,0)):=by rw[hW]; exact sO w _ _ _
 have hy1:W.heap[w.heap.size+1]?=some (.cells #[Value.bool by',(.slice ty (aA y.natAbs).length tc)] 28 (0,0)):=by rw[hW]; exact sG w _ _ _
 have HR:=hid (show bW W (w.heap.size+1+1) by rw[hW]; exact bW.at (by simp));have HX1:=hid hx1;have HY1:=hid hy1;have HW:=hid hW;clear hW hx1 hy1 hs ht
 go_enter Tryz.func142,Tryz.ntmps142
 go_upto_region 1 with fail
 rw[<- HW.out];obtain⟨c1,c2,-,-⟩:=bQ HX1.out
 go_wp2_with fail
 refine(HV1.out _ (HX.out.keep HB.out)).mono ?_;rintro e w1 ⟨rfl,hb1⟩;have HB1:=hid (Pu.aO HB.out hb1);have HX2:=hid (bS hb1 HX1.out);have HY2:=hid (bS hb1 HY1.out);have HR1:=hid (HR.out.keep hb1);clear hb1;clear c1 c2;obtain⟨c1,c2,-,-⟩:=bQ HY2.out
 go_wp2_with fail
 refine(HV2.out _ (HY.out.keep HB1.out)).mono ?_;rintro e w2 ⟨rfl,hb2⟩;have HB2:=hid (Pu.aO HB1.out hb2);clear c1 c2;have c1:=(bQ (bS hb2 HX2.out)).2.1;have c2:=(bQ (bS hb2 HY2.out)).2.1;have HR2:=hid (HR1.out.keep hb2);clear hb2
 go_wp2_with fail
 refine(HCM.out _ (HS.out.keep HB2.out) (HT.out.keep HB2.out)).mono ?_;rintro e w3 ⟨v3,rfl,hn3,hb3⟩;have HN3:=hid hn3;have HB3:=hid (Pu.aO HB2.out hb3);have HR3:=hid (HR2.out.keep hb3);clear hn3 hb3 c1 c2
 go_wp2_with fail
 refine(kS false v3 _ _ HN3.out (bF _)).mono ?_;rintro e w4 ⟨v4,rfl,hv4,hb4⟩;rw[aX] at hv4;have HV4:=hid (show aW w4 v4 ((Int.gcd x y:Nat):Int) from hv4);have HB4:=hid (Pu.aO HB3.out hb4);have HR4:=hid (HR3.out.keep hb4);clear hv4 hb4
 go_wp2_with (with_reducible refine eT rfl (.tmp 4) (.tmp 19) rfl (w.heap.size+1+1) v4 _ rfl rfl HV4.out HR4.out ?_)
 exact mE rfl rfl HR4.out HV4.out HB4.out (by omega)
set_option maxRecDepth 100000 in
set_option maxHeartbeats 2000000 in
theorem aWw (vx vy:Value) (x:Int) (w:World) (hx:aW w vx x) (hy:aW w vy 0) :
  Calls Tryz.prog 201 #[vx,vy] w (sM w 0 0):=by
 obtain⟨s,rfl,hs⟩:=hx;obtain⟨t,rfl,ht⟩:=hy;obtain⟨ao,ac,rfl,a1,a2,-⟩:=ht;rw[show decide ((0:Int)<0)=false by decide,show (aA (0:Int).natAbs).length=0 from rfl];clear a1 a2;generalize decide (x<0)=bx at *;have HB:=hid (aGb w (Obj.cells #[Value.bool bx,s] 28) (Obj.cells #[Value.bool false,Value.slice ao 0 ac] 28) (Obj.cells #[Value.bool false,Value.slice none 0 0] 28) (Obj.cells #[Value.bool false,Value.slice none 0 0] 28));have H2:=hid (show ((((w.alloc (Obj.cells #[Value.bool bx,s] 28)).alloc (Obj.cells #[Value.bool false,Value.slice ao 0 ac] 28)).alloc (Obj.cells #[Value.bool false,Value.slice none 0 0] 28)).alloc (Obj.cells #[Value.bool false,Value.slice none 0 0] 28)).heap[w.heap.size+1+1]?=some (.cells #[.bool false,.slice none 0 0] 28 (0,0)) by
  refine bS ((Below.refl _ _).alloc (Nat.le_refl _) _) ?_;have h:=heap_alloc_new ((w.alloc (Obj.cells #[Value.bool bx,s] 28)).alloc (Obj.cells #[Value.bool false,Value.slice ao 0 ac] 28)) (Obj.cells #[Value.bool false,Value.slice none 0 0] 28);rwa[show ((w.alloc (Obj.cells #[Value.bool bx,s] 28)).alloc (Obj.cells #[Value.bool false,Value.slice ao 0 ac] 28)).heap.size=w.heap.size+1+1 by simp] at h)
 have H3:=hid (show ((((w.alloc (Obj.cells #[Value.bool bx,s] 28)).alloc (Obj.cells #[Value.bool false,Value.slice ao 0 ac] 28)).alloc (Obj.cells #[Value.bool false,Value.slice none 0 0] 28)).alloc (Obj.cells #[Value.bool false,Value.slice none 0 0] 28)).heap[w.heap.size+1+1+1]?=some (.cells #[.bool false,.slice none 0 0] 28 (0,0)) by
  have h:=heap_alloc_new (((w.alloc (Obj.cells #[Value.bool bx,s] 28)).alloc (Obj.cells #[Value.bool false,Value.slice ao 0 ac] 28)).alloc (Obj.cells #[Value.bool false,Value.slice none 0 0] 28)) (Obj.cells #[Value.bool false,Value.slice none 0 0] 28);rwa[show (((w.alloc (Obj.cells #[Value.bool bx,s] 28)).alloc (Obj.cells #[Value.bool false,Value.slice ao 0 ac] 28)).alloc (Obj.cells #[Value.bool false,Value.slice none 0 0] 28)).heap.size=w.heap.size+1+1+1 by simp] at h)
 clear hs
 go_enter Tryz.func201,Tryz.ntmps201
 go_wp2;exact bodyPost_ret (aCi rfl _ _ (w.heap.size+1+1) (w.heap.size+1+1+1) _ _ rfl rfl H2.out H3.out rfl rfl) rfl ⟨_,_,rfl,uJ _,uJ _,HB.out⟩
end Zn
end Go.Proofs.YtbaihklbefhgdaaGreat
