/-
  
-/
import Derived.Test.YtbaihklbefhgdaaGreatSC17
import Derived.Test.YtbaihklbefhgdaaGreatSC21
import Derived.Shelf.Spec.BitsCarry
set_option linter.unusedVariables false
set_option linter.unusedSimpArgs false
set_option linter.unusedSectionVars false
namespace Go.Proofs.YtbaihklbefhgdaaGreat
open Go.RowKit
open Go.Lib (hid)
open Dg
namespace Zn
theorem getD_none {ds:List Nat} {k:Nat} (h:ds.length<=k):ds.getD k 0=0:=by
 rw[List.getD_eq_getElem?_getD,List.getElem?_eq_none h]; rfl
set_option maxRecDepth 100000 in
set_option maxHeartbeats 1000000 in
theorem tO (v:Value) (ds:List Nat) (k:Nat) (w:World) (hv:aL w v ds) (hd:aP ds) (hk:k<=4611686018427387904) :
  Calls Tryz.prog 234 #[v,.int .i64 (k:Int)] w fun e w'=>e=.returned (.int .u64 ((ds.getD k 0:Nat):Int))/\w=w':=by
 obtain⟨ao,ac,rfl,a1,a2,a3⟩:=hv;unfold maxLen at a2;by_cases h:k<ds.length
 ·obtain⟨b,off,rfl,hc⟩:=a3 (by omega);have hck:=hc k h;have hd9:=hd.getD k;generalize ds.getD k 0=d at *;clear hc a3
  go_enter Tryz.func234,Tryz.ntmps234
  go_wp2
  go_ret
  exact⟨rfl,rfl⟩
 ·rw[getD_none (by omega)];clear a3
  go_enter Tryz.func234,Tryz.ntmps234
  go_wp2
  go_ret
  exact⟨rfl,rfl⟩
def fA (ds:List Nat) (k:Nat):Nat:=(ds.getD k 0*1000000000+ds.getD (k-1) 0)*1000000000+ds.getD (k-2) 0
theorem bAe (x y:Int) (hx:0<=x) (hy:0<=y) (w:World):(callFunc 241 #[.int .u64 x,.int .u64 y,.int .u64 0]).run Tryz.prog w =
   .ok (.value (.tuple #[.int .u64 ((x+y)%18446744073709551616),.int .u64 ((x+y)/18446744073709551616)])) w:=by
 rw[run_callFunc_extern Tryz.func241 (by kernel_rfl) (by kernel_rfl) (by kernel_rfl) (e:=add64Entry) (by kernel_rfl),run_add64 x y 0 hx hy (by decide) (by decide)];simp only[Result.andThen,Int.add_zero]
def aGc (n:Nat) (w:World) (e:Ending) (w':World):Prop:=e=.returned (.tuple #[.int .u64 ((n/18446744073709551616:Nat):Int),.int .u64 ((n%18446744073709551616:Nat):Int)])/\w=w'
set_option maxRecDepth 100000 in
set_option maxHeartbeats 1000000 in
theorem aL2 (v:Value) (ds:List Nat) (k:Nat) (w:World) (hv:aL w v ds) (hd:aP ds) (hk2:2<=k) (hk:k<=4611686018427387904) :
  Calls Tryz.prog 236 #[v,.int .i64 (k:Int)] w (aGc (fA ds k) w):=by
 have H0:=hid (tO v ds k w hv hd hk);have H1:=hid (tO v ds (k-1) w hv hd (by omega));have H2:=hid (tO v ds (k-2) w hv hd (by omega));have d0:=hd.getD k;have d1:=hd.getD (k-1);have d2:=hd.getD (k-2);have hk2i:(2:Int)<=(k:Int):=by omega
 have hki:(k:Int)<=4611686018427387904:=by omega
 unfold fA;generalize ds.getD k 0=x0 at *;generalize ds.getD (k-1) 0=x1 at *;generalize ds.getD (k-2) 0=x2 at *;obtain⟨u,hu⟩:∃ u,u=x0*1000000000+x1:=⟨_,rfl⟩
 have hui:(x0:Int)*1000000000+(x1:Int)=(u:Int):=by omega
 have hub:u<1000000000000000000:=by omega
 obtain⟨m,hm⟩:∃ m,m=u*1000000000:=⟨_,rfl⟩
 have HM0:=Tryz.bits_Mul64 u 1000000000 (by omega) (by decide) w;rw[<- hm] at HM0;obtain⟨H,hH⟩:∃ H,H=m/18446744073709551616:=⟨_,rfl⟩
 obtain⟨L,hL⟩:∃ L,L=m%18446744073709551616:=⟨_,rfl⟩
 rw[<- hH,<- hL] at HM0;have HM:=hid HM0;have hHb:(H:Int)<1000000000:=by omega
 have hL1:(L:Int)<18446744073709551616:=by omega
 have hL0:(0:Int)<=(L:Int):=by omega
 have hx20:(0:Int)<=(x2:Int):=by omega
 obtain⟨S,hS⟩:∃ S,S=L+x2:=⟨_,rfl⟩
 have hSi:(L:Int)+(x2:Int)=(S:Int):=by omega
 obtain⟨C,hC⟩:∃ C,C=S/18446744073709551616:=⟨_,rfl⟩
 obtain⟨D,hD⟩:∃ D,D=S%18446744073709551616:=⟨_,rfl⟩
 have hCi:(S:Int)/18446744073709551616=(C:Int):=by omega
 have hDi:(S:Int)%18446744073709551616=(D:Int):=by omega
 have hCb:(C:Int)<=1:=by omega
 have hDb:(D:Int)<18446744073709551616:=by omega
 have F1:H+C=(u*1000000000+x2)/18446744073709551616:=by omega
 have F2:D=(u*1000000000+x2)%18446744073709551616:=by omega
 rw[hu] at F1 F2;have HF1:=hid F1;have HF2:=hid F2;clear hm hH hL HM0 hS hC hD F1 F2;rw[show ((k-1:Nat):Int)=(k:Int)-1 by omega] at H1;rw[show ((k-2:Nat):Int)=(k:Int)-2 by omega] at H2;clear hu hv
 go_enter Tryz.func236,Tryz.ntmps236
 go_wp2_with fail
 refine H0.out.mono ?_;rintro e w' ⟨rfl,rfl⟩
 go_wp2_with fail
 refine H1.out.mono ?_;rintro e w' ⟨rfl,rfl⟩
 go_wp2_with fail
 refine HM.out.mono ?_;rintro e w' ⟨rfl,rfl⟩
 go_wp2_with fail
 refine H2.out.mono ?_;rintro e w' ⟨rfl,rfl⟩
 go_wp2_with (simp only[bAe (L:Int) (x2:Int) hL0 hx20])
 go_ret2;refine⟨?_,rfl⟩;rw[<- HF1.out,<- HF2.out];rfl
theorem aIq (ds:List Nat) (k:Nat) (hk:2<=k) (hl:ds.length<=k+1):val ds=fA ds k*1000000000^(k-2)+val (ds.take (k-2)):=by
 obtain⟨j,rfl⟩:∃ j,k=j+2:=⟨k-2,by omega⟩
 have e0:=Dv.qJ ds (j+2);have e1:=Dv.qJ ds (j+1);have e2:=Dv.qJ ds j;rw[List.take_of_length_le hl] at e0;unfold fA;rw[show j+2-1=j+1 from rfl,show j+2-2=j from rfl,e0,e1,e2,Nat.pow_add 1000000000 j 2,Nat.pow_succ 1000000000 j];generalize ds.getD (j+2) 0=x0;generalize ds.getD (j+1) 0=x1;generalize ds.getD j 0=x2;generalize val (ds.take j)=V;generalize 1000000000^j=P;rw[show (1000000000:Nat)^2=1000000000*1000000000 by decide];grind
theorem aSe (ds:List Nat) (k:Nat) (hk:2<=k) (hl:ds.length<=k):val ds=(ds.getD (k-1) 0*1000000000+ds.getD (k-2) 0)*1000000000^(k-2)+val (ds.take (k-2)):=by
 obtain⟨j,rfl⟩:∃ j,k=j+2:=⟨k-2,by omega⟩
 have e1:=Dv.qJ ds (j+1);have e2:=Dv.qJ ds j;rw[List.take_of_length_le hl] at e1;rw[show j+2-1=j+1 from rfl,show j+2-2=j from rfl,e1,e2,Nat.pow_succ 1000000000 j];generalize ds.getD (j+1) 0=x1;generalize ds.getD j 0=x2;generalize val (ds.take j)=V;generalize 1000000000^j=P;grind
theorem aEu {ds:List Nat} (hd:aP ds) (j:Nat):val (ds.take j)<1000000000^j:=by
 refine Nat.lt_of_lt_of_le (mP (hd.take j)) (Nat.pow_le_pow_right (by decide) ?_);rw[List.length_take];exact Nat.min_le_left _ _
def aWo (p y:Nat) (w:World) (e:Ending) (w':World):Prop:=∃ q:Nat,e=.returned (.int .i64 (q:Int))/\p/y<=q/\q<=p/y+1/\q<=1000000000/\Below w.heap.size w w'
set_option maxRecDepth 100000 in
set_option maxHeartbeats 1000000 in
theorem aTj (vp vb:Value) (p b:List Nat) (w:World) (hp:aL w vp p) (hb:aL w vb b) (hdp:aP p) (hdb:aP b) (hn:2<=b.length) (hpl:p.length=b.length+1) (htop:b.getD (b.length-1) 0≠0) (hlt:val p<1000000000*val b) (hlb:b.length<=1099511627776) :
  Calls Tryz.prog 238 #[vp,vb] w (aWo (val p) (val b) w):=by
 obtain⟨bo,bc,rfl,b1,b2,b3⟩:=hb;have hb:aL w (.slice bo b.length bc) b:=⟨bo,bc,rfl,b1,b2,b3⟩
 unfold maxLen at b2;have HT:=hid (aL2 vp p b.length w hp hdp hn (by omega));have H1:=hid (tO _ b (b.length-1) w hb hdb (by omega));have H2:=hid (tO _ b (b.length-2) w hb hdb (by omega));have d1:=hdb.getD (b.length-1);have d2:=hdb.getD (b.length-2);have t0:=hdp.getD b.length;have t1:=hdp.getD (b.length-1);have t2:=hdp.getD (b.length-2);have eN:=aIq p b.length hn (by omega);have eY:=aSe b b.length hn (Nat.le_refl _);have lp:=aEu hdp (b.length-2);have lb:=aEu hdb (b.length-2);have hNb:fA p b.length<1000000000000000000000000000:=by unfold fA; omega
 obtain⟨Y,hY⟩:∃ Y,Y=b.getD (b.length-1) 0*1000000000+b.getD (b.length-2) 0:=⟨_,rfl⟩
 have hY9:1000000000<=Y:=by omega
 have hYb:Y<1000000000000000000:=by omega
 rw[<- hY] at eY;generalize fA p b.length=N at *;have G:=Dv.aZ8 (B:=1000000000) (by decide) eN eY lp lb hlt hY9;have HD:=hid (aJ1 (N/18446744073709551616) (N%18446744073709551616) Y w (by omega) (by omega) (Nat.mod_lt _ (by decide)));rw[show N/18446744073709551616*18446744073709551616+N%18446744073709551616=N by omega] at HD;have hki:(2:Int)<=(b.length:Int):=by omega
 have hkb:(b.length:Int)<=1099511627776:=by omega
 rw[show ((b.length-1:Nat):Int)=(b.length:Int)-1 by omega] at H1;rw[show ((b.length-2:Nat):Int)=(b.length:Int)-2 by omega] at H2;have hYi:((b.getD (b.length-1) 0:Nat):Int)*1000000000+((b.getD (b.length-2) 0:Nat):Int)=(Y:Int):=by omega
 obtain⟨q,hq⟩:∃ q,q=N/Y:=⟨_,rfl⟩
 rw[<- hq] at G;unfold xW at HD;unfold aGc at HT;rw[<- hq] at HD;have hqb:(q:Int)<=1000000000:=by omega
 have HG:=hid G;clear G eN eY lp lb hlt t0 t1 t2 hpl hp hb b3 htop hY hq hNb;generalize b.getD (b.length-1) 0=y1 at *;generalize b.getD (b.length-2) 0=y2 at *;generalize N/18446744073709551616=H at *;generalize N%18446744073709551616=L at *;generalize N%Y=R at *
 go_enter Tryz.func238,Tryz.ntmps238
 go_wp2_with fail
 refine HT.out.mono ?_;rintro e w' ⟨rfl,rfl⟩
 go_wp2_with fail
 refine H1.out.mono ?_;rintro e w' ⟨rfl,rfl⟩
 go_wp2_with fail
 refine H2.out.mono ?_;rintro e w' ⟨rfl,rfl⟩
 go_wp2_with fail
 refine HD.out.mono ?_;rintro e w' ⟨rfl,hbel⟩;have HBL:=hid hbel;clear hbel;go_wp2
 go_ret
 exact⟨q,rfl,HG.out.1,HG.out.2.1,HG.out.2.2,HBL.out⟩
structure iQ (g:Nat) (w w':World):Prop where
 below:Below g w w'
 above:∀ k,g<k->k<w.heap.size->w'.heap[k]?=w.heap[k]?
theorem iQ.refl (g:Nat) (w:World):iQ g w w:=⟨Below.refl _ _,fun _ _ _=>rfl⟩
theorem iQ.setCell {g:Nat} {w w':World} (h:iQ g w w') (i:Nat) (v:Value):iQ g w (w'.setCell ⟨g,i,none⟩ v) :=
 ⟨h.below.setCell (Nat.le_refl _) _,fun k hk hl=>by rw[heap_setCell_other _ _ _ _ (by simp; omega)]; exact h.above k hk hl⟩
theorem iQ.trans {g:Nat} {a b c:World} (h:iQ g a b) (k:iQ g b c):iQ g a c :=
 ⟨h.below.trans k.below,fun i hi hl=>(k.above i hi (Nat.lt_of_lt_of_le hl h.below.size)).trans (h.above i hi hl)⟩
theorem aQc {g:Nat} {w w':World} (h:Below w.heap.size w w') (hg:g<=w.heap.size):iQ g w w':=⟨h.mono hg,fun k _ hk=>h.block k hk⟩
theorem aW5 (pre post:List Int) (done lo:List Nat) (k:Nat) (t:Int) (h:k<lo.length) :
  pre++(done++lo.drop k).map Int.ofNat++t::post=(pre++done.map Int.ofNat)++((lo.getD k 0:Nat):Int)::((lo.drop (k+1)).map Int.ofNat++t::post):=by
 have e:lo.getD k 0=lo[k]:=by simp[List.getD_eq_getElem?_getD,h]
 rw[List.drop_eq_getElem_cons h,e,List.map_append,List.map_cons];simp only[List.append_assoc,List.cons_append];rfl
theorem aUn (pre post:List Int) (done:List Nat) (e:Nat) (lo:List Nat) (t:Int) :
  (pre++done.map Int.ofNat)++(e:Int)::(lo.map Int.ofNat++t::post)=pre++((done++[e])++lo).map Int.ofNat++t::post:=by
 simp
def pX (g _off:Nat) (pre:List Int) (lo:List Nat) (t:Int) (post:List Int) (b:List Nat) (q:Int) (w:World) (k:Nat) (C:Int) (wr:World):Prop :=
 ∃ done,done.length=k/\aP done/\bX wr g (pre++(done++lo.drop k).map Int.ofNat++t::post)/\iQ g w wr /\
  (val done:Int)+1000000000^k*C=(val (lo.take k):Int)-q*(val (b.take k):Int) /\ -1000000001<=C/\C<=1
theorem pX.cell {g off:Nat} {pre:List Int} {lo:List Nat} {t:Int} {post:List Int} {b:List Nat} {q:Int} {w:World} {k:Nat} {C:Int} {wr:World} (h:pX g off pre lo t post b q w k C wr) (hpre:pre.length=off) (hk:k<lo.length) (hdl:aP lo) (hdb:aP b) (hq1 : -1<=q) (hq2:q<=1000000000) :
  ∃ z:Nat,z<1000000000/\wr.cell? ⟨g,off+k,none⟩=some (.int .i64 (z:Int))/\wr.frozen? ⟨g,off+k,none⟩=false /\ -1000000001<=C/\C<=1/\Below g w wr /\
   ∀ s:Int,s=(z:Int)-q*((b.getD k 0:Nat):Int)+C->pX g off pre lo t post b q w (k+1) (s/1000000000) (wr.setCell ⟨g,off+k,none⟩ (.int .i64 (s%1000000000))):=by
 obtain⟨done,h1,h2,h3,h4,h5,h6,h7⟩:=h;rw[aW5 _ _ _ _ _ _ hk] at h3;have hA:(pre++done.map Int.ofNat).length=off+k:=by simp[hpre,h1]
 refine⟨lo.getD k 0,hdl.getD k,?_,mW h3 _,h6,h7,h4.below,fun s hs=>?_⟩
 ·rw[h3.cell (by simp; omega),Dv.aD9 _ _ _ _ hA]
 ·obtain⟨e,he⟩:∃ e:Nat,s%1000000000=(e:Int):=⟨(s%1000000000).toNat,by omega⟩
  obtain⟨-,-,b1,b2⟩:=Dv.aL8 hq1 hq2 (hdb.getD k) (hdl.getD k) h6 h7 hs;refine⟨done++[e],by simp[h1],h2.append (aP.cons (by omega) aP.nil),?_,h4.setCell _ _,Dv.aSi h1 h5 hs he,b1,b2⟩;have h8:=h3.store (off+k) (s%1000000000);rw[he,Dv.set_mid _ _ _ _ hA,aUn] at h8;rw[he];exact h8
theorem pX.cellOut {g off:Nat} {pre:List Int} {lo:List Nat} {t:Int} {post:List Int} {b:List Nat} {q:Int} {w:World} {C:Int} {wr:World} (h:pX g off pre lo t post b q w lo.length C wr) (hpre:pre.length=off) :
  wr.cell? ⟨g,off+lo.length,none⟩=some (.int .i64 t)/\wr.frozen? ⟨g,off+lo.length,none⟩=false /\ -1000000001<=C/\C<=1:=by
 obtain⟨done,h1,h2,h3,h4,h5,h6,h7⟩:=h;rw[List.drop_length,List.append_nil] at h3;have hA:(pre++done.map Int.ofNat).length=off+lo.length:=by simp[hpre,h1]
 exact⟨by rw[h3.cell (by simp; omega),Dv.aD9 _ _ _ _ hA],mW h3 _,h6,h7⟩
def aNg (g:Nat) (pre:List Int) (lo:List Nat) (t:Int) (post:List Int) (b:List Nat) (q:Int) (w:World) (e:Ending) (w':World):Prop :=
 e=.returned (.tuple #[])/\∃ (lo':List Nat) (c:Int),lo'.length=lo.length/\aP lo'/\(val lo':Int)+1000000000^lo.length*c=(val lo:Int)-q*(val b:Int)/\bX w' g (pre++lo'.map Int.ofNat++(t+c)::post)/\iQ g w w'
theorem pX.fin {g off:Nat} {pre:List Int} {lo:List Nat} {t:Int} {post:List Int} {b:List Nat} {q:Int} {w:World} {C:Int} {wr:World} (h:pX g off pre lo t post b q w lo.length C wr) (hpre:pre.length=off) (hb:b.length=lo.length) :
  aNg g pre lo t post b q w (.returned (.tuple #[])) (wr.setCell ⟨g,off+lo.length,none⟩ (.int .i64 (t+C))):=by
 obtain⟨done,h1,h2,h3,h4,h5,h6,h7⟩:=h;rw[List.drop_length,List.append_nil] at h3;have hA:(pre++done.map Int.ofNat).length=off+lo.length:=by simp[hpre,h1]
 have h8:=h3.store (off+lo.length) (t+C);rw[Dv.set_mid _ _ _ _ hA] at h8;rw[List.take_of_length_le (Nat.le_refl _),List.take_of_length_le (by omega)] at h5;exact⟨rfl,done,C,h1,h2,h5,h8,h4.setCell _ _⟩
set_option maxRecDepth 100000 in
set_option maxHeartbeats 2000000 in
theorem aKa (g off cap:Nat) (pre:List Int) (lo:List Nat) (t:Int) (post:List Int) (vb:Value) (b:List Nat) (q:Int) (w0 w:World) (hb:aL w0 vb b) (hw:Below w0.heap.size w0 w) (hg:w0.heap.size<=g)
  (hrow:bX w g (pre++lo.map Int.ofNat++t::post)) (hpre:pre.length=off) (hlo:lo.length=b.length) (hdl:aP lo) (hdb:aP b) (hq1 : -1<=q) (hq2:q<=1000000000) (ht1 : -1000000000<=t) (ht2:t<=1000000000) (_hcap:b.length+1<=cap) (_hcm:cap<=maxLen) (hlb:b.length<=1099511627776) :
  Calls Tryz.prog 239 #[.slice (some ⟨g,off,none⟩) (b.length+1) cap,vb,.int .i64 q] w (aNg g pre lo t post b q w):=by
 obtain⟨bo,bc,rfl,b1,b2,b3⟩:=hb;have HB:=hid b3;have HW:=hid hw;have HDL:=hid hdl;have HDB:=hid hdb;clear b3 hw hdl hdb;unfold maxLen at b2;have HC:=hid (show pX g off pre lo t post b q w 0 0 w from ⟨[],rfl,aP.nil,by simpa using hrow,iQ.refl _ _,by simp[val],by decide,by decide⟩);clear hrow
 go_enter Tryz.func239,Tryz.ntmps239
 go_wp2
 go_loopw [6,11] (fun c i wr=>∃ (k:Nat) (C:Int),k<=b.length/\i=.int .i64 k/\c=.int .i64 C/\pX g off pre lo t post b q w k C wr) (fun _ i _=>b.length-(intOf i).toNat)
 case atStart=>exact⟨0,0,by omega,rfl,rfl,HC.out⟩
 case round =>
  clear HC;obtain⟨k,C,hkb,rfl,rfl,hrel⟩:=hrel;have HR:=hid hrel;clear hrel;by_cases hk:k<b.length
  ·obtain⟨z,hz9,hcz,hfz,hC1,hC2,hbel,hnext⟩:=HR.out.cell hpre (by omega) HDL.out HDB.out hq1 hq2;obtain⟨bb,boff,rfl,hbc⟩:=HB.out (by omega);have hcb:=keepCell (HW.out.trans (hbel.mono hg)) (hbc k hk);have hd9:=HDB.out.getD k;obtain⟨d,hd⟩:∃ d,d=b.getD k 0:=⟨_,rfl⟩
   rw[<- hd] at hcb hnext hd9;obtain⟨X,hX⟩:∃ X,X=q*(d:Int):=⟨_,rfl⟩
   obtain⟨x1,x2,-,-⟩:=Dv.aL8 hq1 hq2 hd9 hz9 hC1 hC2 rfl;rw[<- hX] at x1 x2 hnext;have hXi:q*(d:Int)=X:=hX.symm;have HN:=hid hnext;clear hbc hbel hnext hX hd
   go_wp2_with (go_at_call 221; refine(wD _ _ (by omega) (by omega)).mono ?_; rintro e w' ⟨rfl,rfl⟩)
   have hT:=HN.out _ rfl
   go_roundw
   case rel=>exact⟨k+1,_,by omega,by go_num,rfl,hT⟩
   case measure=>simp[intOf]; omega
  ·obtain rfl:k=b.length:=by omega
   rw[<- hlo] at HR;obtain⟨hcz,hfz,hC1,hC2⟩:=HR.out.cellOut hpre;have HF:=hid (HR.out.fin hpre hlo.symm);rw[hlo] at hcz hfz HF;go_wp2;refine bodyPost_ret (v:=.tuple #[]) (by simp[results,Tryz.results239,go_sem]) rfl ?_;exact HF.out
end Zn
end Go.Proofs.YtbaihklbefhgdaaGreat
