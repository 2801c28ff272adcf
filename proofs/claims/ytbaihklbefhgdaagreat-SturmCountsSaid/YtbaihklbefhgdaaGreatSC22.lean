/-
  
-/
import Derived.Test.YtbaihklbefhgdaaGreatSC21
import Derived.ArgAppend
import Derived.Laws.AppendOwn
set_option linter.unusedVariables false
set_option linter.unusedSimpArgs false
set_option linter.unusedSectionVars false
namespace Go.Proofs.YtbaihklbefhgdaaGreat
open Go.RowKit
open Go.Lib (hid)
open Dg
namespace Zn
set_option maxHeartbeats 1000000 in
theorem jW (neg:Bool) (v:Value) (ds:List Nat) (w:World) (hv:aL w v ds) (hd:aP ds) :
  Calls Tryz.prog 147 #[.bool neg,v] w (fF w (mk neg (val ds))):=by
 have HD:=hid (nB hd);have HV:=hid hv;obtain⟨ao,cap,rfl,hlc,hcm,hcells⟩:=hv;have HCE:=hid hcells;clear hcells;unfold maxLen at hcm;obtain⟨W,hW⟩:∃ W,W=w.alloc (Obj.cells #[Value.bool false,Value.slice none 0 0] 28):=⟨_,rfl⟩
 have HB:=hid (show Below w.heap.size w W by rw[hW]; exact(Below.refl _ _).alloc (Nat.le_refl _) _);have HR:=hid (show bW W w.heap.size by rw[hW]; exact bW.at rfl);have HWW:=hid hW;clear hW
 go_enter Tryz.func147,Tryz.ntmps147
 go_wp2;rw[<- HWW.out]
 go_loopw [5] (fun n wr=>∃ k:Nat,k<=ds.length/\n=.int .i64 k/\dV (ds.take k)=dV ds/\W=wr) (fun n _=>(intOf n).toNat)
 case atStart=>exact⟨ds.length,Nat.le_refl _,rfl,by rw[List.take_length],rfl⟩
 case round =>
  obtain⟨k,hk,rfl,htr,rfl⟩:=hrel;have HT:=hid htr;clear htr;rcases Nat.eq_zero_or_pos k with h0 | h0
  ·subst h0;rw[show ((0:Nat):Int)=0 from rfl];have hz:val ds=0:=by
    have h:=HD.out;rw[<- HT.out,List.take_zero] at h;exact jF.1 h
   have HZ:=hid (show aW W (.agg #[.bool false,.slice none 0 0]) (mk neg (val ds)) by rw[hz,show mk neg 0=0 by cases neg<;>rfl]; exact uJ W);clear hz
   go_wp2_with (with_reducible refine eT rfl (.tmp 4) (.tmp 23) rfl w.heap.size (.agg #[.bool false,.slice none 0 0]) _ rfl rfl HZ.out HR.out ?_)
   exact mE rfl rfl HR.out HZ.out HB.out (Nat.le_refl _)
  ·obtain⟨j,rfl⟩:∃ j,k=j+1:=⟨k-1,by omega⟩
   obtain⟨b,off,rfl,hc⟩:=HCE.out (by omega);obtain⟨d,hdd⟩:∃ d,d=ds.getD j 0:=⟨_,rfl⟩
   have hcj:=keepCell HB.out (hc j (by omega));rw[<- hdd] at hcj;have HDD:=hid hdd;clear hc hdd;by_cases hz:d=0
   ·subst hz;go_wp2
    go_roundw
    case rel =>
     refine⟨j,by omega,by go_num,?_,trivial⟩;have h:=HT.out;rw[rW (by omega) hk,show j+1-1=j from rfl,<- HDD.out,yS] at h;exact h
    case measure=>simp[intOf]
   ·have hz2:((d:Int)==0)=false:=by simp; omega
    have h:=HT.out;have h2:=rW (show 0<j+1 by omega) hk;rw[show j+1-1=j from rfl,<- HDD.out] at h2;rw[h2,aCs hz,<- h2] at h;have hvz:val ds≠0:=by
     intro h0;have h3:=HD.out;rw[h0,gA,<- h,h2] at h3;simp at h3
    have HI:=hid (show aW W (.agg #[.bool neg,.slice (some ⟨b,off,none⟩) (j+1) cap]) (mk neg (val ds)) by
     refine⟨_,by rw[aFy _ _ hvz],?_⟩;rw[jL,HD.out,<- h];exact(HV.out.keep HB.out).take (j+1) hk)
    clear h h2 hvz
    go_wp2_with (with_reducible refine eT rfl (.tmp 4) (.tmp 28) rfl w.heap.size (.agg #[.bool neg,.slice (some ⟨b,off,none⟩) (j+1) cap]) _ rfl rfl HI.out HR.out ?_)
    exact mE rfl rfl HR.out HI.out HB.out (Nat.le_refl _)
set_option maxHeartbeats 400000 in
theorem tY (v:Value) (ds:List Nat) (i:Nat) (w:World) (hv:aL w v ds) :
  Calls Tryz.prog 214 #[v,.int .i64 (i:Int)] w fun e w'=>e=.returned (.int .i64 ((ds.getD i 0:Nat):Int))/\w=w':=by
 obtain⟨ao,cap,rfl,hlc,hcm,hcells⟩:=hv;unfold maxLen at hcm;by_cases hi:i<ds.length
 ·obtain⟨b,off,rfl,hc⟩:=hcells (by omega);have hci:=hc i hi;generalize ds.getD i 0=d at *;clear hcells hc
  go_enter Tryz.func214,Tryz.ntmps214
  go_wp2
  go_ret
  exact⟨rfl,rfl⟩
 ·have h0:ds.getD i 0=0:=by rw[List.getD_eq_getElem?_getD,List.getElem?_eq_none (by omega)]; rfl
  rw[h0];clear hcells h0
  go_enter Tryz.func214,Tryz.ntmps214
  go_wp2
  go_ret
  exact⟨rfl,rfl⟩
def fL (w:World) (base:Nat) (v:Value) (ds:List Nat):Prop:=w.ownsRow base 3 1 v ds.length (ds.map fun d:Nat=>Value.int .i64 (d:Int))
theorem fL.start (w:World) (base:Nat):fL w base (.slice none 0 0) []:=⟨rfl,.inl ⟨rfl,rfl⟩⟩
theorem fL.heap {w w':World} {base:Nat} {v:Value} {ds:List Nat} (h:fL w base v ds) (he:w'.heap=w.heap):fL w' base v ds:=by
 unfold fL World.ownsRow at *;rw[he];exact h
theorem fL.nums {w:World} {base:Nat} {v:Value} {ds:List Nat} (h:fL w base v ds):aL w v ds:=by
 have h0:=h;rcases h.2 with ⟨rfl,hl⟩ | ⟨g,cap,cur,rfl,hg,hh,hn,hm,hs,ht⟩
 ·rw[List.eq_nil_of_length_eq_zero hl];exact aL.nil (by decide)
 ·refine aEr rfl hn hm fun i hi=>?_;have:=World.ownsRow.cells (g:=g) h0 rfl i (.int .i64 ((ds.getD i 0:Nat):Int)) (by
   rw[List.getElem?_map,List.getD_eq_getElem?_getD,List.getElem?_eq_getElem hi];rfl)
  rwa[Addr.add_lit] at this
theorem fL.alloc {w:World} {base:Nat} {v:Value} {ds:List Nat} (h:fL w base v ds) (o:Obj):fL (w.alloc o) base v ds:=World.ownsRow.alloc h o
theorem rO {w:World} {ops:Array Oper} {rest:List Oper} {o:Oper} {a:Act} {Q:Exit->Act->World->Prop} (hgd:o.guard=none) (s x:Operand)
  (ho:o.op=.call { callee:=.builtin .append,args:=#[s,x],argTypes:=#[22,22] }) (i:TypeInfo)
  (hi:Tryz.prog.info? 3=some i) (hz0:i.zero=some (.int .i64 0)) (hz1:i.size=1) (hz2:i.bytes=8) (hu:Tryz.prog.underlying 22=some (.slice 3))
  (w0:World) (v:Value) (ds:List Nat) (hs:a.eval s=v) (hown:fL w w0.heap.size v ds) (g d:Nat) (hx:a.eval x=.slice (some ⟨g,0,none⟩) 1 1) (hc:w.cell? ⟨g,0,none⟩=some (.int .i64 (d:Int)))
  (hlen:ds.length<=1099511627776) (hbel:Below w0.heap.size w0 w)
  (h:∀ v' w',fL w' w0.heap.size v' (ds++[d])->Below w0.heap.size w0 w'->wpList Tryz.prog ops Q rest (a.put o.dst v') w'):wpList Tryz.prog ops Q (o::rest) a w:=by
 refine wpList_append_own w hgd s x 22 ho w0.heap.size 3 i (.int .i64 0) 1 8 hu hi hz0 hz1 hz2 rfl (by decide) v ds.length _ hs hown ⟨g,0,none⟩ 1 1 [.int .i64 (d:Int)] hx rfl ?_ ?_ (by unfold maxLen; omega) (by omega) hbel.size ?_
 ·intro j u hj;cases j with
  | zero=>cases hj; rw[Addr.add_lit]; exact hc
  | succ j=>cases hj
 ·intro u hu;cases List.mem_singleton.1 hu;rfl
 ·intro v' w' hown' hgrow _;refine h v' w' ?_ (hbel.grown hgrow hbel.size (fun k hk=>(World.ownsRow.lt hown k hk).1));unfold fL;rw[List.length_append,List.map_append];exact hown'
def aOq (w:World) (n:Nat) (e:Ending) (w':World):Prop:=∃ v ds,e=.returned v/\aL w' v ds/\aP ds/\val ds=n/\Below w.heap.size w w'
theorem aZg (neg:Bool) (q:Nat):(mk neg q).tmod 1000000000=mk neg (q%1000000000)/\(mk neg q).tdiv 1000000000=mk neg (q/1000000000):=by
 cases neg
 ·obtain⟨e1,e2⟩:=aNm (s:=(q:Int)) (by omega);simp only[mk,Bool.false_eq_true,if_false];rw[e1,e2];omega
 ·rcases Nat.eq_zero_or_pos q with rfl | h
  ·simp[mk]
  ·obtain⟨e1,e2⟩:=aNn (s := -(q:Int)) (by omega);simp only[mk,if_true];rw[e1,e2];omega
set_option maxRecDepth 100000 in
set_option maxHeartbeats 2000000 in
theorem wL (n:Int) (w:World) (h1 : -9223372036854775808<=n) (h2:n<=9223372036854775807) :
  Calls Tryz.prog 100 #[.int .i64 n] w (fF w n):=by
 obtain⟨i0,hi,hz0,hz1,hz2⟩:=info_parts kR;obtain⟨W,hW⟩:∃ W,W=w.alloc (Obj.cells #[Value.bool false,Value.slice none 0 0] 28):=⟨_,rfl⟩
 have HB:=hid (show Below w.heap.size w W by rw[hW]; exact(Below.refl _ _).alloc (Nat.le_refl _) _);have HR:=hid (show bW W w.heap.size by rw[hW]; exact bW.at rfl);have HWW:=hid hW;rw[show fF w n=fF w (mk (decide (n<0)) n.natAbs) by rw[sI]];have hself:=sI n;have hN:n.natAbs<=9223372036854775808:=by omega
 obtain⟨neg,hneg⟩:∃ b,b=decide (n<0):=⟨_,rfl⟩
 obtain⟨N,hNN⟩:∃ N,N=n.natAbs:=⟨_,rfl⟩
 rw[<- hneg,<- hNN] at hself |-;rw[<- hNN] at hN;have HSF:=hid hself;have HNG:=hid hneg;have HN8:=hid hN;clear hW hself hneg hNN hN
 go_enter Tryz.func100,Tryz.ntmps100
 go_wp2;rw[<- HWW.out];rw[<- HNG.out]
 go_loopw [0,3] (fun n d wr=>∃ (q:Nat) (m:Int) (ds:List Nat),n=.int .i64 m/\m=mk neg q/\q<=N /\ -9223372036854775808<=m/\m<=9223372036854775807/\aA N=ds++aA q/\fL wr W.heap.size d ds/\Below W.heap.size W wr) (fun n _ _=>(match n with | .int _ x=>x | _=>0).natAbs)
 case atStart=>exact⟨N,n,[],rfl,HSF.out.symm,Nat.le_refl _,h1,h2,rfl,fL.start _ _,Below.refl _ _⟩
 case round =>
  obtain⟨q,m,ds,rfl,hm,hqN,hm1,hm2,hdig,hown,hbel⟩:=hrel;have HM:=hid hm;have HDG:=hid hdig;have HO:=hid hown;have HBL:=hid hbel;clear hm hdig hown hbel;by_cases hq:q=0
  ·subst hq;have hm0:m=0:=by rw[HM.out]; cases neg<;>rfl
   subst hm0;have hbne:((0:Int) != 0)=false:=rfl;have hds:ds=aA N:=by have h:=HDG.out; rw[gA,List.append_nil] at h; exact h.symm
   subst hds;clear hqN h1 h2
   go_wp2_with fail
   refine(jW neg _ (aA N) _ HO.out.nums (bF _)).mono ?_;rintro e w2 ⟨v2,rfl,hv2,hb2⟩;rw[aX] at hv2;have HV2:=hid hv2;have HB2:=hid (Pu.aO HB.out (Pu.aO HBL.out hb2));have HR2:=hid ((HR.out.keep HBL.out).keep hb2);clear hv2 hb2
   go_wp2_with (with_reducible refine eT rfl (.tmp 2) (.tmp 24) rfl w.heap.size v2 _ rfl rfl HV2.out HR2.out ?_)
   exact mE rfl rfl HR2.out HV2.out HB2.out (Nat.le_refl _)
  ·obtain⟨e1,e2⟩:=aZg neg q;rw[<- HM.out] at e1 e2;have hbne:(m != 0)=true:=by
    rw[bne_iff_ne,HM.out];cases neg<;>simp[mk]<;>omega
   obtain⟨m1,hm1'⟩:∃ m1,m1=mk neg (q%1000000000):=⟨_,rfl⟩
   obtain⟨m2,hm2'⟩:∃ m2,m2=mk neg (q/1000000000):=⟨_,rfl⟩
   rw[<- hm1'] at e1;rw[<- hm2'] at e2;obtain⟨d,hd⟩:∃ d,d=q%1000000000:=⟨_,rfl⟩
   have hd9:d<1000000000:=by omega
   have hcase:(m1<0 /\ -m1=(d:Int))\/(¬ m1<0/\m1=(d:Int)):=by
    rw[hm1',<- hd];cases neg<;>simp[mk]<;>omega
   have hb1 : -1000000000<=m1/\m1<=1000000000:=by rcases hcase with ⟨_,h⟩ | ⟨_,h⟩<;>omega
   have hb2 : -9223372036854775808<=m2/\m2<=9223372036854775807:=by
    have:=HN8.out;rw[hm2'];cases neg<;>simp[mk]<;>omega
   obtain⟨hb1a,hb1b⟩:=hb1;obtain⟨hb2a,hb2b⟩:=hb2;have hlen:ds.length<=1099511627776:=by
    have h3:(aA N).length<=3:=fG.2 (by have:=HN8.out; omega);rw[HDG.out,List.length_append] at h3;omega
   have HD2:=hid (show aA N=(ds++[d])++aA (q/1000000000) by rw[HDG.out,nC (by omega),hd,List.append_assoc]; rfl);have HM2:=hid hm2';have hqd:q/1000000000<q:=by omega
   clear hm1' hm2' hd h1 h2;rcases hcase with ⟨hneg1,hd1⟩ | ⟨hneg1,rfl⟩
   ·obtain⟨m1',rfl⟩:∃ k,m1 = -k:=⟨-m1,by omega⟩
    rw[Int.neg_neg] at hd1;subst hd1
    go_wp2_with (at_builtin; refine rO rfl (.tmp 16) (.tmp 18) rfl i0 hi hz0 hz1 hz2 fN W _ ds rfl (HO.out.alloc _) wr.heap.size d rfl (by exact cell_of_row _ _ 0 _ _ _ (heap_alloc_new wr _)) hlen (HBL.out.alloc HBL.out.size _) ?_)
    intro v' w' hown' hbel';have HO2:=hid hown';have HB2:=hid hbel';clear hown' hbel';go_wp2
    go_roundw
    case rel=>exact⟨q/1000000000,m2,ds++[d],rfl,HM2.out,by omega,by omega,by omega,HD2.out,HO2.out,HB2.out⟩
    case measure =>
     show m2.natAbs<m.natAbs;rw[HM2.out,HM.out,jL,jL];exact hqd
   ·go_wp2_with (at_builtin; refine rO rfl (.tmp 16) (.tmp 18) rfl i0 hi hz0 hz1 hz2 fN W _ ds rfl (HO.out.alloc _) wr.heap.size d rfl (by exact cell_of_row _ _ 0 _ _ _ (heap_alloc_new wr _)) hlen (HBL.out.alloc HBL.out.size _) ?_)
    intro v' w' hown' hbel';have HO2:=hid hown';have HB2:=hid hbel';clear hown' hbel';go_wp2
    go_roundw
    case rel=>exact⟨q/1000000000,m2,ds++[d],rfl,HM2.out,by omega,by omega,by omega,HD2.out,HO2.out,HB2.out⟩
    case measure =>
     show m2.natAbs<m.natAbs;rw[HM2.out,HM.out,jL,jL];exact hqd
set_option maxHeartbeats 1000000 in
theorem lD (va vb:Value) (m n:Nat) (w:World) (ha:aL w va (aA m)) (hb:aL w vb (aA n)) :
  Calls Tryz.prog 146 #[va,vb] w (yI w (bA m n)):=by
 obtain⟨ao,ac,rfl,a1,a2,a3⟩:=ha;obtain⟨bo,bc,rfl,b1,b2,b3⟩:=hb;have HA:=hid a3;have HB:=hid b3;clear a3 b3;unfold maxLen at a2 b2;obtain⟨x,hx⟩:∃ x,x=aA m:=⟨_,rfl⟩
 obtain⟨y,hy⟩:∃ y,y=aA n:=⟨_,rfl⟩
 rw[<- hx] at HA a1 |-;rw[<- hy] at HB b1 |-;have HX:=hid hx;have HY:=hid hy;clear hx hy;rcases Nat.lt_trichotomy x.length y.length with hl | hl | hl
 ·have e:bA m n = -1:=tI (vY (by rw[<- HX.out,<- HY.out]; exact hl));rw[e];clear e
  go_enter Tryz.func146,Tryz.ntmps146
  go_wp2
  go_ret
  exact⟨rfl,Below.refl _ _⟩
 ·have HL:=hid hl;have hl1:¬ x.length<y.length:=by omega
  have hl2:¬ y.length<x.length:=by omega
  have hl3:x.length<=y.length:=by omega
  clear hl
  go_enter Tryz.func146,Tryz.ntmps146
  go_wp2
  go_loopw [5] (fun i wr=>∃ k:Nat,k<=x.length/\i=.int .i64 ((k:Int)-1)/\x.drop k=y.drop k/\Below w.heap.size w wr) (fun i _=>(intOf i+1).toNat)
  case atStart=>exact⟨x.length,Nat.le_refl _,rfl,by rw[List.drop_length,HL.out,List.drop_length],Below.refl _ _⟩
  case round =>
   obtain⟨k,hk,rfl,hdr,hbel⟩:=hrel;have HD:=hid hdr;have HBL:=hid hbel;clear hdr hbel;rcases Nat.eq_zero_or_pos k with h0 | h0
   ·subst h0;go_wp2
    go_ret
    have h:=HD.out;rw[List.drop_zero,List.drop_zero,HX.out,HY.out] at h;exact⟨sH (by rw[aAx h,aLm]),HBL.out⟩
   ·obtain⟨j,rfl⟩:∃ j,k=j+1:=⟨k-1,by omega⟩
    obtain⟨p,po,rfl,hp⟩:=HA.out (by omega);obtain⟨q,qo,rfl,hq⟩:=HB.out (by omega);have hpj:_:=keepCell HBL.out (hp j (by omega));have hqj:_:=keepCell HBL.out (hq j (by omega));obtain⟨dx,hdx⟩:∃ d,d=x.getD j 0:=⟨_,rfl⟩
    obtain⟨dy,hdy⟩:∃ d,d=y.getD j 0:=⟨_,rfl⟩
    rw[<- hdx] at hpj;rw[<- hdy] at hqj;have HDX:=hid hdx;have HDY:=hid hdy;have e1:((j+1:Nat):Int)-1=(j:Int):=by omega
    rw[e1];clear hp hq hdx hdy e1;have hcmp:dx≠dy->bA ((dx:Nat):Int) ((dy:Nat):Int)=bA m n:=by
     intro hd;rw[HDX.out,HDY.out,aOl (by rw[HX.out]; exact bF _) (by rw[HY.out]; exact bF _) (by omega) (by omega) HD.out (by rw[<- HDX.out,<- HDY.out]; exact hd),HX.out,HY.out,aX,aX]
    have HCM:=hid hcmp;clear hcmp;rcases Nat.lt_trichotomy dx dy with hd | hd | hd
    ·go_wp2
     go_quiet (fail)
     go_wp2
     go_ret
     refine⟨sH ?_,below_drewN HBL.out _⟩;rw[<- HCM.out (by omega),tI hd]
    ·subst hd;go_wp2
     go_quiet (fail)
     obtain⟨w2,hw2⟩:∃ w2,w2=wr.drewN nq:=⟨_,rfl⟩
     have hpj2:w2.cell? ⟨p,po+j,none⟩=some (.int .i64 (dx:Int)):=by rw[hw2]; exact hpj
     have hqj2:w2.cell? ⟨q,qo+j,none⟩=some (.int .i64 (dx:Int)):=by rw[hw2]; exact hqj
     have HN:=hid (show Below w.heap.size w w2 by rw[hw2]; exact below_drewN HBL.out nq);rw[<- hw2];clear hw2 hpj hqj;go_wp2
     go_quiet (fail)
     go_wp2
     go_roundw
     case rel =>
      refine⟨j,by omega,rfl,?_,below_drewN HN.out _⟩;rw[List.drop_eq_getElem_cons (show j<x.length by omega),List.drop_eq_getElem_cons (show j<y.length by omega),HD.out];congr 1;have e1:=HDX.out;have e2:=HDY.out;simp only[List.getD_eq_getElem?_getD,List.getElem?_eq_getElem (show j<x.length by omega),List.getElem?_eq_getElem (show j<y.length by omega),Option.getD_some] at e1 e2;rw[<- e1,<- e2]
     case measure=>simp[intOf]
    ·go_wp2
     go_quiet (fail)
     obtain⟨w2,hw2⟩:∃ w2,w2=wr.drewN nq:=⟨_,rfl⟩
     have hpj2:w2.cell? ⟨p,po+j,none⟩=some (.int .i64 (dx:Int)):=by rw[hw2]; exact hpj
     have hqj2:w2.cell? ⟨q,qo+j,none⟩=some (.int .i64 (dy:Int)):=by rw[hw2]; exact hqj
     have HN:=hid (show Below w.heap.size w w2 by rw[hw2]; exact below_drewN HBL.out nq);rw[<- hw2];clear hw2 hpj hqj;go_wp2
     go_quiet (fail)
     go_wp2
     go_ret
     refine⟨sH ?_,below_drewN HN.out _⟩;rw[<- HCM.out (by omega),tJ hd]
 ·have e:bA m n=1:=tJ (vY (by rw[<- HX.out,<- HY.out]; exact hl));rw[e];clear e
  go_enter Tryz.func146,Tryz.ntmps146
  go_wp2
  go_ret
  exact⟨rfl,Below.refl _ _⟩
def bAp (a b:List Nat) (w:World) (k c:Nat) (v:Value) (wr:World):Prop :=
 ∃ ds,ds.length=k/\aP ds/\fL wr w.heap.size v ds/\Below w.heap.size w wr/\c<=1/\val ds+1000000000^k*c=val (a.take k)+val (b.take k)
theorem aS4 {a b ds:List Nat} {k c s:Nat} (ha:aP a) (hb:aP b) (h1:ds.length=k) (h2:aP ds) (h5:c<=1) (h6:val ds+1000000000^k*c=val (a.take k)+val (b.take k)) (hs:s=a.getD k 0+b.getD k 0+c) :
  (ds++[s%1000000000]).length=k+1/\aP (ds++[s%1000000000])/\s/1000000000<=1/\val (ds++[s%1000000000])+1000000000^(k+1)*(s/1000000000)=val (a.take (k+1))+val (b.take (k+1)):=by
 have ha9:=ha.getD k;have hb9:=hb.getD k;refine⟨by simp[h1],h2.append (aP.cons (by omega) aP.nil),by omega,?_⟩;rw[val_append,h1,nT a,nT b];simp only[val,Nat.mul_zero,Nat.add_zero];rw[Nat.pow_succ,Nat.mul_assoc];have e:s%1000000000+1000000000*(s/1000000000)=a.getD k 0+b.getD k 0+c:=by omega
 have e2:=congrArg (fun x=>1000000000^k*x) e;simp only[Nat.mul_add] at e2;generalize 1000000000^k*(s%1000000000)=e3 at *;generalize 1000000000^k*(1000000000*(s/1000000000))=e4 at *;generalize 1000000000^k*c=e5 at *;generalize 1000000000^k*a.getD k 0=e6 at *;generalize 1000000000^k*b.getD k 0=e7 at *;omega
set_option maxRecDepth 100000 in
set_option maxHeartbeats 2000000 in
theorem aQk (va vb:Value) (a b:List Nat) (w:World) (ha:aL w va a) (hb:aL w vb b) (hda:aP a) (hdb:aP b) (hla:a.length<=1099511627000) (hlb:b.length<=1099511627000) :
  Calls Tryz.prog 170 #[va,vb] w (aOq w (val a+val b)):=by
 obtain⟨i0,hi,hz0,hz1,hz2⟩:=info_parts kR;have HA:=hid ha;have HB:=hid hb;obtain⟨ao,ac,rfl,a1,a2,-⟩:=ha;obtain⟨bo,bc,rfl,b1,b2,-⟩:=hb;unfold maxLen at a2 b2
 go_enter Tryz.func170,Tryz.ntmps170
 go_wp2
 go_loopw [5,6,7] (fun d c i wr=>∃ k c':Nat,k<=max a.length b.length+1/\(c'=0\/k<=max a.length b.length)/\i=.int .i64 k/\c=.int .i64 c'/\bAp a b w k c' d wr) (fun _ _ i _=>max a.length b.length+1-(intOf i).toNat)
 case atStart=>exact⟨0,0,by omega,by omega,rfl,rfl,[],rfl,aP.nil,fL.start _ _,Below.refl _ _,by omega,by simp[val]⟩
 case round =>
  obtain⟨k,c,hk,hkc,rfl,rfl,ds,hlen,hdg,hown,hbel,hc1,hval⟩:=hrel;have HO:=hid hown;have HBL:=hid hbel;have HA2:=hid (HA.out.keep hbel);have HB2:=hid (HB.out.keep hbel);obtain⟨x,hx⟩:∃ x,x=a.getD k 0:=⟨_,rfl⟩
  obtain⟨y,hy⟩:∃ y,y=b.getD k 0:=⟨_,rfl⟩
  have hx9:x<1000000000:=by rw[hx]; exact hda.getD k
  have hy9:y<1000000000:=by rw[hy]; exact hdb.getD k
  have HX:=hid hx;have HY:=hid hy;have HDA:=hid (tY _ a k wr HA2.out);have HDB:=hid (tY _ b k wr HB2.out);rw[<- hx] at HDA;rw[<- hy] at HDB;have hmx:max a.length b.length<=1099511627000:=by omega
  have hdl:ds.length<=1099511627776:=by omega
  have HST:=hid (aS4 hda hdb hlen hdg hc1 hval (s:=x+y+c) (by rw[hx,hy]));have HLN:=hid hlen;have HVL:=hid hval;clear hx hy hown hbel hlen hval;by_cases hgo:k<a.length\/(¬ k<a.length/\k<b.length)\/(¬ k<a.length/\¬ k<b.length/\0<c)
  ·have hnext:(x+y+c)/1000000000=0\/k+1<=max a.length b.length:=by
    by_cases hh:k<max a.length b.length
    ·exact .inr hh
    ·refine .inl ?_;have e1:x=0:=by rw[HX.out,List.getD_eq_getElem?_getD,List.getElem?_eq_none (by omega)]; rfl
     have e2:y=0:=by rw[HY.out,List.getD_eq_getElem?_getD,List.getElem?_eq_none (by omega)]; rfl
     omega
   have HNX:=hid hnext;have HKM:=hid (show k+1<=max a.length b.length+1 by omega);have hk40:k<=1099511627001:=by omega
   clear hnext hmx hk hkc;rcases hgo with hgo | ⟨hgo,hgo2⟩ | ⟨hgo,hgo2,hgo3⟩
   all_goals
    go_wp2_with fail
    refine HDA.out.mono ?_;rintro e w' ⟨rfl,rfl⟩
    go_wp2_with fail
    refine HDB.out.mono ?_;rintro e w' ⟨rfl,rfl⟩
    go_wp2_with (at_builtin; refine rO rfl (.tmp 34) (.tmp 37) rfl i0 hi hz0 hz1 hz2 fN w _ ds rfl (HO.out.alloc _) wr.heap.size ((x+y+c)%1000000000) rfl (by exact cell_of_row _ _ 0 _ _ _ (heap_alloc_new wr _)) hdl (HBL.out.alloc HBL.out.size _) ?_)
    intro v' w' hown' hbel';have HO2:=hid hown';have HB2:=hid hbel';clear hown' hbel';go_wp2
    go_roundw
    case rel=>exact⟨k+1,(x+y+c)/1000000000,HKM.out,HNX.out,by go_num,by congr 1,_,HST.out.1,HST.out.2.1,HO2.out,HB2.out,HST.out.2.2.1,HST.out.2.2.2⟩
    case measure=>have:=HKM.out; simp[intOf]; omega
  ·have hge:¬ k<a.length:=by omega
   have hge2:¬ k<b.length:=by omega
   obtain rfl:c=0:=by omega
   have hge3:max a.length b.length<=k:=by omega
   rw[show ((0:Nat):Int)=0 from rfl];clear hgo;go_wp2
   go_ret
   refine⟨_,ds,rfl,HO.out.nums,hdg,?_,HBL.out⟩;have h:=HVL.out;rw[Nat.mul_zero,Nat.add_zero,List.take_of_length_le (by omega),List.take_of_length_le (by omega)] at h;exact h
theorem aRt {X Y A P d x y c c':Nat} (h6:X+Y=A+P*c) (e:d+y+c=x+1000000000*c'):(X+P*d)+(Y+P*y)=(A+P*x)+P*1000000000*c':=by
 have e2:P*(d+y+c)=P*(x+1000000000*c'):=by rw[e]
 rw[Nat.mul_add,Nat.mul_add,Nat.mul_add] at e2;rw[Nat.mul_assoc];generalize P*(1000000000*c')=q1 at *;generalize P*d=q2 at *;generalize P*x=q3 at *;generalize P*y=q4 at *;generalize P*c=q5 at *;omega
theorem aH2 {a b ds:List Nat} {k c:Nat} {v:Int} (h1:ds.length=k) (h6:val ds+val (b.take k)=val (a.take k)+1000000000^k*c)
  (hv:v=((a.getD k 0:Nat):Int)-((b.getD k 0:Nat):Int)-(c:Int)) (d c':Nat) (hd:(d:Int)=v+1000000000*(c':Int)) :
  val (ds++[d])+val (b.take (k+1))=val (a.take (k+1))+1000000000^(k+1)*c':=by
 rw[val_append,h1,nT a,nT b,Nat.pow_succ];have e:val [d]=d:=by simp[val]
 rw[e];exact aRt h6 (by omega)
set_option maxRecDepth 100000 in
set_option maxHeartbeats 2000000 in
theorem aCc (va vb:Value) (a b:List Nat) (w:World) (ha:aL w va a) (hb:aL w vb b) (hda:aP a) (hdb:aP b) (hla:a.length<=1099511627000) (hlb:b.length<=a.length) (hle:val b<=val a) :
  Calls Tryz.prog 171 #[va,vb] w (aOq w (val a-val b)):=by
 obtain⟨i0,hi,hz0,hz1,hz2⟩:=info_parts kR;have HA:=hid ha;have HB:=hid hb;obtain⟨ao,ac,rfl,a1,a2,a3⟩:=ha;obtain⟨bo,bc,rfl,b1,b2,-⟩:=hb;have HA3:=hid a3;unfold maxLen at a2 b2;clear a3
 go_enter Tryz.func171,Tryz.ntmps171
 go_wp2
 go_loopw [5,6,7] (fun d c i wr=>∃ k c':Nat,k<=a.length/\i=.int .i64 k/\c=.int .i64 c'/\∃ ds,ds.length=k/\aP ds/\fL wr w.heap.size d ds/\Below w.heap.size w wr/\c'<=1/\val ds+val (b.take k)=val (a.take k)+1000000000^k*c') (fun _ _ i _=>a.length-(intOf i).toNat)
 case atStart=>exact⟨0,0,by omega,rfl,rfl,[],rfl,aP.nil,fL.start _ _,Below.refl _ _,by omega,by simp[val]⟩
 case round =>
  obtain⟨k,c,hk,rfl,rfl,ds,hlen,hdg,hown,hbel,hc1,hval⟩:=hrel;have HO:=hid hown;have HBL:=hid hbel;have HB2:=hid (HB.out.keep hbel);by_cases hka:k<a.length
  ·obtain⟨p,po,rfl,hp⟩:=HA3.out (by omega);have hpk:=keepCell hbel (hp k hka);obtain⟨x,hx⟩:∃ x,x=a.getD k 0:=⟨_,rfl⟩
   obtain⟨y,hy⟩:∃ y,y=b.getD k 0:=⟨_,rfl⟩
   have hx9:x<1000000000:=by rw[hx]; exact hda.getD k
   have hy9:y<1000000000:=by rw[hy]; exact hdb.getD k
   rw[<- hx] at hpk;have HDQ:Hid (∀ n,Calls Tryz.prog 214 #[.slice bo b.length bc,.int .i64 (k:Int)] (wr.drewN n) fun e w''=>e=.returned (.int .i64 (y:Int))/\∃ n,w''=wr.drewN n) :=
    hid fun n=>(tY _ b k (wr.drewN n) (HB.out.keep (below_drewN hbel n))).mono fun e w'' h=>⟨by rw[h.1,<- hy],n,h.2.symm⟩
   have HST:=hid (aH2 hlen hval (v:=(x:Int)-(y:Int)-(c:Int)) (by rw[hx,hy]));have HLN:=hid hlen;have HDG:=hid hdg;have hdl:ds.length<=1099511627776:=by omega
   clear hx hy hown hbel hlen hval hp hdg;obtain⟨v,hv⟩:∃ v,v=(x:Int)-(y:Int)-(c:Int):=⟨_,rfl⟩
   have hv1 : -1000000000<=v/\v<1000000000:=by omega
   rw[<- hv] at HST;by_cases hneg:(x:Int)-(y:Int)-(c:Int)<0
   ·obtain⟨d,hd⟩:∃ d:Nat,(d:Int)=v+1000000000:=⟨(v+1000000000).toNat,by omega⟩
    have hd9:d<1000000000:=by omega
    have HV:=hid (HST.out d 1 (by omega));have hdx:(x:Int)-(y:Int)-(c:Int)+1000000000=(d:Int):=by omega
    clear hv hd;go_wp2
    go_quiet ((go_at_call 214; exact HDQ.out _))
    have HB3:=hid (below_drewN HBL.out nq);have HO3:=hid (HO.out.heap (w':=wr.drewN nq) rfl);generalize wr.drewN nq=w2 at *
    go_wp2_with (at_builtin; refine rO rfl (.tmp 29) (.tmp 31) rfl i0 hi hz0 hz1 hz2 fN w _ ds rfl (HO3.out.alloc _) w2.heap.size d rfl (by exact cell_of_row _ _ 0 _ _ _ (heap_alloc_new w2 _)) hdl (HB3.out.alloc HB3.out.size _) ?_)
    intro v' w' hown' hbel';have HO2:=hid hown';have HB4:=hid hbel';clear hown' hbel';go_wp2
    go_roundw
    case rel=>exact⟨k+1,1,by omega,by go_num,rfl,ds++[d],by simp[HLN.out],HDG.out.append (aP.cons hd9 aP.nil),HO2.out,HB4.out,by omega,HV.out⟩
    case measure=>simp[intOf]; omega
   ·obtain⟨d,hd⟩:∃ d:Nat,(d:Int)=v:=⟨v.toNat,by omega⟩
    have hd9:d<1000000000:=by omega
    have HV:=hid (HST.out d 0 (by omega));have hdx:(x:Int)-(y:Int)-(c:Int)=(d:Int):=by omega
    rw[hdx] at hneg;clear hv hd;go_wp2
    go_quiet ((go_at_call 214; exact HDQ.out _))
    have HB3:=hid (below_drewN HBL.out nq);have HO3:=hid (HO.out.heap (w':=wr.drewN nq) rfl);generalize wr.drewN nq=w2 at *
    go_wp2_with (at_builtin; refine rO rfl (.tmp 29) (.tmp 31) rfl i0 hi hz0 hz1 hz2 fN w _ ds rfl (HO3.out.alloc _) w2.heap.size d rfl (by exact cell_of_row _ _ 0 _ _ _ (heap_alloc_new w2 _)) hdl (HB3.out.alloc HB3.out.size _) ?_)
    intro v' w' hown' hbel';have HO2:=hid hown';have HB4:=hid hbel';clear hown' hbel';go_wp2
    go_roundw
    case rel=>exact⟨k+1,0,by omega,by go_num,rfl,ds++[d],by simp[HLN.out],HDG.out.append (aP.cons hd9 aP.nil),HO2.out,HB4.out,by omega,HV.out⟩
    case measure=>simp[intOf]; omega
  ·obtain rfl:k=a.length:=by omega
   rw[List.take_of_length_le hlb,List.take_length] at hval;have hc0:c=0:=by
    rcases Nat.eq_zero_or_pos c with h | h
    ·exact h
    ·exfalso;obtain rfl:c=1:=by omega
     have:=mP hdg;rw[hlen] at this;omega
   have hv2:val ds=val a-val b:=by rw[hc0] at hval; omega
   have HV2:=hid hv2;clear hval hlen hown hbel hc0 hv2;go_wp2
   go_ret
   exact⟨_,ds,rfl,HO.out.nums,hdg,HV2.out,HBL.out⟩
theorem aZh {x y:Int} (h:decide (x<0)=decide (y<0)):mk (decide (x<0)) (x.natAbs+y.natAbs)=x+y:=by
 unfold mk;rcases Int.lt_or_le x 0 with h1 | h1
 ·have h2:y<0:=by simpa[h1] using h.symm
  simp only[h1,decide_true,if_true]; omega
 ·have h2:¬ y<0:=by simpa[show ¬ x<0 by omega] using h.symm
  simp only[show ¬ x<0 by omega,decide_false,Bool.false_eq_true,if_false]; omega
set_option maxRecDepth 100000 in
set_option maxHeartbeats 2000000 in
theorem aHt (vx vy:Value) (x y:Int) (w:World) (hx:aW w vx x) (hy:aW w vy y) (hl1:len x<=1099511627000) (hl2:len y<=1099511627000) :
  Calls Tryz.prog 99 #[vx,vy] w (fF w (x+y)):=by
 obtain⟨s,rfl,hs⟩:=hx;obtain⟨t,rfl,ht⟩:=hy;have HS:=hid hs;have HT:=hid ht;have HBq:Hid (∀ bx by',Below w.heap.size w (((w.alloc (Obj.cells #[Value.bool bx,s] 28)).alloc (Obj.cells #[Value.bool by',t] 28)).alloc (Obj.cells #[Value.bool false,Value.slice none 0 0] 28))):=hid fun _ _=>vF w _ _ _;have HRq:Hid (∀ bx by',bW (((w.alloc (Obj.cells #[Value.bool bx,s] 28)).alloc (Obj.cells #[Value.bool by',t] 28)).alloc (Obj.cells #[Value.bool false,Value.slice none 0 0] 28)) (w.heap.size+1+1)):=hid fun _ _=>bW.at (by simp);have HXq:Hid (∀ bx by',(((w.alloc (Obj.cells #[Value.bool bx,s] 28)).alloc (Obj.cells #[Value.bool by',t] 28)).alloc (Obj.cells #[Value.bool false,Value.slice none 0 0] 28)).heap[w.heap.size]?=some (.cells #[.bool bx,s] 28 (0,0))):=hid fun _ _=>sO w _ _ _;have HYq:Hid (∀ bx by',(((w.alloc (Obj.cells #[Value.bool bx,s] 28)).alloc (Obj.cells #[Value.bool by',t] 28)).alloc (Obj.cells #[Value.bool false,Value.slice none 0 0] 28)).heap[w.heap.size+1]?=some (.cells #[.bool by',t] 28 (0,0))):=hid fun _ _=>sG w _ _ _;clear hs ht;by_cases hsg:decide (x<0)=decide (y<0)
 ·rw[<- aZh hsg];have HP:=hid (aQk s t _ _ · · · (bF x.natAbs) (bF y.natAbs) hl1 hl2);rw[aX,aX] at HP;rw[<- hsg];generalize decide (x<0)=bx at *;clear hsg;have hbb:(bx==bx)=true:=by simp
  have HB:=hid (HBq.out bx bx);have HR:=hid (HRq.out bx bx);have HX:=hid (HXq.out bx bx);have HY:=hid (HYq.out bx bx);clear HBq HRq HXq HYq
  go_enter Tryz.func99,Tryz.ntmps99
  go_upto_region 2 with fail
  rename_i hret;refine Pu.rP 8 (gN [(10,.eq (.pointer (some ⟨w.heap.size,0,none⟩))),(11,.eq (.bool bx)),(12,.eq (.pointer (some ⟨w.heap.size,1,none⟩))),(13,.eq (s)),(14,.eq (.pointer (some ⟨w.heap.size+1,1,none⟩))),(15,.eq (t)),(16,.vals (x.natAbs+y.natAbs)),(17,.int (mk bx (x.natAbs+y.natAbs)))]) (by kernel_rfl) (by kernel_rfl) (by kernel_rfl) (fun hfn=>by kernel_rfl) (gN.keep _) ?_ ?_ ?_
  ·intro L a w2 i o ho hne2 hL hdep hI;have hi:i<9:=(Array.getElem?_eq_some_iff.1 ho).1;rcases (show i=0\/i=1\/i=2\/i=3\/i=4\/i=5\/i=6\/i=7 by omega) with rfl | rfl | rfl | rfl | rfl | rfl | rfl | rfl
   ·cases (Option.some.inj (show some _=some o from ho));have h2:a.tmps.getD 2 undef=.pointer (some ⟨w.heap.size,0,none⟩):=hI.free (t:=2) (by kernel_rfl);refine bG rfl fun K hK=>?_;clear hdep hI ho hi;go_simp;exact hK _ _ (Below.refl _ _) (fun d hd=>by cases hd; rfl)
   ·cases (Option.some.inj (show some _=some o from ho));have h10:a.tmps.getD 10 undef=.pointer (some ⟨w.heap.size,0,none⟩):=hI.slot (i:=0) (d:=10) (hdep ⟨0,.data⟩ (by simp) (by rfl)) rfl;have hc2:=(bQ (bS hI.below HX.out)).1;refine bG rfl fun K hK=>?_;clear hdep hI ho hi;go_simp;exact hK _ _ (Below.refl _ _) (fun d hd=>by cases hd; rfl)
   ·cases (Option.some.inj (show some _=some o from ho));have h2:a.tmps.getD 2 undef=.pointer (some ⟨w.heap.size,0,none⟩):=hI.free (t:=2) (by kernel_rfl);refine bG rfl fun K hK=>?_;clear hdep hI ho hi;go_simp;exact hK _ _ (Below.refl _ _) (fun d hd=>by cases hd; rfl)
   ·cases (Option.some.inj (show some _=some o from ho));have h12:a.tmps.getD 12 undef=.pointer (some ⟨w.heap.size,1,none⟩):=hI.slot (i:=2) (d:=12) (hdep ⟨2,.data⟩ (by simp) (by rfl)) rfl;have hc2:=(bQ (bS hI.below HX.out)).2.1;refine bG rfl fun K hK=>?_;clear hdep hI ho hi;go_simp;exact hK _ _ (Below.refl _ _) (fun d hd=>by cases hd; rfl)
   ·cases (Option.some.inj (show some _=some o from ho));have h3:a.tmps.getD 3 undef=.pointer (some ⟨w.heap.size+1,0,none⟩):=hI.free (t:=3) (by kernel_rfl);refine bG rfl fun K hK=>?_;clear hdep hI ho hi;go_simp;exact hK _ _ (Below.refl _ _) (fun d hd=>by cases hd; rfl)
   ·cases (Option.some.inj (show some _=some o from ho));have h14:a.tmps.getD 14 undef=.pointer (some ⟨w.heap.size+1,1,none⟩):=hI.slot (i:=4) (d:=14) (hdep ⟨4,.data⟩ (by simp) (by rfl)) rfl;have hc2:=(bQ (bS hI.below HY.out)).2.1;refine bG rfl fun K hK=>?_;clear hdep hI ho hi;go_simp;exact hK _ _ (Below.refl _ _) (fun d hd=>by cases hd; rfl)
   ·cases (Option.some.inj (show some _=some o from ho));have h13:a.tmps.getD 13 undef=s:=hI.slot (i:=3) (d:=13) (hdep ⟨3,.data⟩ (by simp) (by rfl)) rfl;have h15:a.tmps.getD 15 undef=t:=hI.slot (i:=5) (d:=15) (hdep ⟨5,.data⟩ (by simp) (by rfl)) rfl;have hbw:=Pu.aO HB.out hI.below;refine bG rfl fun K hK=>?_;clear hdep hI ho hi;go_simp;refine(HP.out _ (HS.out.keep hbw) (HT.out.keep hbw)).mono ?_;rintro e w3 ⟨v3,ds,rfl,hn3,hd3,hv3,hb3⟩;exact hK _ _ hb3 (fun d hd=>by cases hd; exact⟨ds,hn3,hd3,hv3⟩)
   ·cases (Option.some.inj (show some _=some o from ho));have h11:a.tmps.getD 11 undef=.bool bx:=hI.slot (i:=1) (d:=11) (hdep ⟨1,.data⟩ (by simp) (by rfl)) rfl;have h16:Sp.is (.vals (x.natAbs+y.natAbs)) w2 (a.tmps.getD 16 undef):=hI.slot (i:=6) (d:=16) (hdep ⟨6,.data⟩ (by simp) (by rfl)) rfl;obtain⟨x16,e16⟩:∃ x,a.tmps.getD 16 undef=x:=⟨_,rfl⟩
    rw[e16] at h16;refine bG rfl fun K hK=>?_;clear hdep hI ho hi;go_simp;obtain⟨ds,hn,hdg,hv⟩:=h16;refine(jW bx x16 ds _ hn hdg).mono ?_;rintro e w3 ⟨v3,rfl,hn3,hb3⟩;rw[hv] at hn3;exact hK _ _ hb3 (fun d hd=>by cases hd; exact hn3)
  ·intro L a w2 o ho hL hoth hI;cases (Option.some.inj (show some _=some o from ho));have h4:a.tmps.getD 4 undef=.pointer (some ⟨w.heap.size+1+1,0,none⟩):=hI.free (t:=4) (by kernel_rfl);have h17:aW w2 (a.tmps.getD 17 undef) (mk bx (x.natAbs+y.natAbs)):=hI.slot (i:=7) (d:=17) (hoth 7 (by decide) (by decide)) rfl;obtain⟨x17,e17⟩:∃ x,a.tmps.getD 17 undef=x:=⟨_,rfl⟩
   rw[e17] at h17;refine⟨rfl,?_⟩;refine sV (.tmp 4) (.tmp 17) rfl (w.heap.size+1+1) x17 _ h4 e17 h17 (HR.out.keep hI.below) ?_;refine hret _ _ (wp_ret ?_);exact qG rfl hI.defers h4 (HR.out.keep hI.below) h17 (Pu.aO HB.out hI.below) (by omega)
  ·intro hfn;exact absurd hfn (by decide)
 ·have hne:(decide (x<0)==decide (y<0))=false:=by simpa using hsg
  have HC:=hid (lD s t x.natAbs y.natAbs · · ·);rcases Nat.lt_or_ge x.natAbs y.natAbs with hlt | hge
  ·have e0:mk (decide (y<0)) (y.natAbs-x.natAbs)=x+y:=by rw[aMl (fun h=>hsg h.symm) hlt,sI]
   rw[<- e0];have hc:bA x.natAbs y.natAbs = -1:=by unfold bA; rw[if_pos (by omega)]
   have HM:=hid (aCc t s _ _ · · · (bF y.natAbs) (bF x.natAbs) hl2 (dW (Nat.le_of_lt hlt)) (by rw[aX,aX]; omega));rw[aX,aX] at HM;rw[hc] at HC;generalize decide (x<0)=bx at *;generalize decide (y<0)=by' at *
   have HB:=hid (HBq.out bx by');have HR:=hid (HRq.out bx by');have HX:=hid (HXq.out bx by');have HY:=hid (HYq.out bx by');clear HBq HRq HXq HYq hsg e0 hc
   go_enter Tryz.func99,Tryz.ntmps99
   go_upto_region 4 with ((go_at_call 146; refine(HC.out _ (HS.out.keep HB.out) (HT.out.keep HB.out)).mono ?_; rintro e w1 ⟨rfl,hb1⟩))
   have HB1:=hid (Pu.aO HB.out hb1);have HX1:=hid (bS hb1 HX.out);have HY1:=hid (bS hb1 HY.out);have HR1:=hid (HR.out.keep hb1);clear hb1;rename_i hret;refine Pu.rP 8 (gN [(24,.eq (.pointer (some ⟨w.heap.size+1,0,none⟩))),(25,.eq (.bool by')),(26,.eq (.pointer (some ⟨w.heap.size+1,1,none⟩))),(27,.eq (t)),(28,.eq (.pointer (some ⟨w.heap.size,1,none⟩))),(29,.eq (s)),(30,.vals (y.natAbs-x.natAbs)),(31,.int (mk by' (y.natAbs-x.natAbs)))]) (by kernel_rfl) (by kernel_rfl) (by kernel_rfl) (fun hfn=>by kernel_rfl) (gN.keep _) ?_ ?_ ?_
   ·intro L a w2 i o ho hne2 hL hdep hI;have hi:i<9:=(Array.getElem?_eq_some_iff.1 ho).1;rcases (show i=0\/i=1\/i=2\/i=3\/i=4\/i=5\/i=6\/i=7 by omega) with rfl | rfl | rfl | rfl | rfl | rfl | rfl | rfl
    ·cases (Option.some.inj (show some _=some o from ho));have h3:a.tmps.getD 3 undef=.pointer (some ⟨w.heap.size+1,0,none⟩):=hI.free (t:=3) (by kernel_rfl);refine bG rfl fun K hK=>?_;clear hdep hI ho hi;go_simp;exact hK _ _ (Below.refl _ _) (fun d hd=>by cases hd; rfl)
    ·cases (Option.some.inj (show some _=some o from ho));have h24:a.tmps.getD 24 undef=.pointer (some ⟨w.heap.size+1,0,none⟩):=hI.slot (i:=0) (d:=24) (hdep ⟨0,.data⟩ (by simp) (by rfl)) rfl;have hc2:=(bQ (bS hI.below HY1.out)).1;refine bG rfl fun K hK=>?_;clear hdep hI ho hi;go_simp;exact hK _ _ (Below.refl _ _) (fun d hd=>by cases hd; rfl)
    ·cases (Option.some.inj (show some _=some o from ho));have h3:a.tmps.getD 3 undef=.pointer (some ⟨w.heap.size+1,0,none⟩):=hI.free (t:=3) (by kernel_rfl);refine bG rfl fun K hK=>?_;clear hdep hI ho hi;go_simp;exact hK _ _ (Below.refl _ _) (fun d hd=>by cases hd; rfl)
    ·cases (Option.some.inj (show some _=some o from ho));have h26:a.tmps.getD 26 undef=.pointer (some ⟨w.heap.size+1,1,none⟩):=hI.slot (i:=2) (d:=26) (hdep ⟨2,.data⟩ (by simp) (by rfl)) rfl;have hc2:=(bQ (bS hI.below HY1.out)).2.1;refine bG rfl fun K hK=>?_;clear hdep hI ho hi;go_simp;exact hK _ _ (Below.refl _ _) (fun d hd=>by cases hd; rfl)
    ·cases (Option.some.inj (show some _=some o from ho));have h2:a.tmps.getD 2 undef=.pointer (some ⟨w.heap.size,0,none⟩):=hI.free (t:=2) (by kernel_rfl);refine bG rfl fun K hK=>?_;clear hdep hI ho hi;go_simp;exact hK _ _ (Below.refl _ _) (fun d hd=>by cases hd; rfl)
    ·cases (Option.some.inj (show some _=some o from ho));have h28:a.tmps.getD 28 undef=.pointer (some ⟨w.heap.size,1,none⟩):=hI.slot (i:=4) (d:=28) (hdep ⟨4,.data⟩ (by simp) (by rfl)) rfl;have hc2:=(bQ (bS hI.below HX1.out)).2.1;refine bG rfl fun K hK=>?_;clear hdep hI ho hi;go_simp;exact hK _ _ (Below.refl _ _) (fun d hd=>by cases hd; rfl)
    ·cases (Option.some.inj (show some _=some o from ho));have h27:a.tmps.getD 27 undef=t:=hI.slot (i:=3) (d:=27) (hdep ⟨3,.data⟩ (by simp) (by rfl)) rfl;have h29:a.tmps.getD 29 undef=s:=hI.slot (i:=5) (d:=29) (hdep ⟨5,.data⟩ (by simp) (by rfl)) rfl;have hbw:=Pu.aO HB1.out hI.below;refine bG rfl fun K hK=>?_;clear hdep hI ho hi;go_simp;refine(HM.out _ (HT.out.keep hbw) (HS.out.keep hbw)).mono ?_;rintro e w3 ⟨v3,ds,rfl,hn3,hd3,hv3,hb3⟩;exact hK _ _ hb3 (fun d hd=>by cases hd; exact⟨ds,hn3,hd3,hv3⟩)
    ·cases (Option.some.inj (show some _=some o from ho));have h25:a.tmps.getD 25 undef=.bool by':=hI.slot (i:=1) (d:=25) (hdep ⟨1,.data⟩ (by simp) (by rfl)) rfl
     have h30:Sp.is (.vals (y.natAbs-x.natAbs)) w2 (a.tmps.getD 30 undef):=hI.slot (i:=6) (d:=30) (hdep ⟨6,.data⟩ (by simp) (by rfl)) rfl;obtain⟨x30,e30⟩:∃ x,a.tmps.getD 30 undef=x:=⟨_,rfl⟩
     rw[e30] at h30;refine bG rfl fun K hK=>?_;clear hdep hI ho hi;go_simp;obtain⟨ds,hn,hdg,hv⟩:=h30;refine(jW by' x30 ds _ hn hdg).mono ?_;rintro e w3 ⟨v3,rfl,hn3,hb3⟩;rw[hv] at hn3;exact hK _ _ hb3 (fun d hd=>by cases hd; exact hn3)
   ·intro L a w2 o ho hL hoth hI;cases (Option.some.inj (show some _=some o from ho));have h4:a.tmps.getD 4 undef=.pointer (some ⟨w.heap.size+1+1,0,none⟩):=hI.free (t:=4) (by kernel_rfl);have h31:aW w2 (a.tmps.getD 31 undef) (mk by' (y.natAbs-x.natAbs)):=hI.slot (i:=7) (d:=31) (hoth 7 (by decide) (by decide)) rfl;obtain⟨x31,e31⟩:∃ x,a.tmps.getD 31 undef=x:=⟨_,rfl⟩
    rw[e31] at h31;refine⟨rfl,?_⟩;refine sV (.tmp 4) (.tmp 31) rfl (w.heap.size+1+1) x31 _ h4 e31 h31 (HR1.out.keep hI.below) ?_;refine hret _ _ (wp_ret ?_);exact qG rfl hI.defers h4 (HR1.out.keep hI.below) h31 (Pu.aO HB1.out hI.below) (by omega)
   ·intro hfn;exact absurd hfn (by decide)
  ·have e0:mk (decide (x<0)) (x.natAbs-y.natAbs)=x+y:=by rw[aN4 (fun h=>hsg h.symm) hge,sI]
   rw[<- e0];have hc:decide (bA x.natAbs y.natAbs<0)=false:=by unfold bA; rw[if_neg (by omega)]; split<;>rfl
   have HM:=hid (aCc s t _ _ · · · (bF x.natAbs) (bF y.natAbs) hl1 (dW hge) (by rw[aX,aX]; omega));rw[aX,aX] at HM;generalize decide (x<0)=bx at *;generalize decide (y<0)=by' at *
   have HB:=hid (HBq.out bx by');have HR:=hid (HRq.out bx by');have HX:=hid (HXq.out bx by');have HY:=hid (HYq.out bx by');clear HBq HRq HXq HYq hsg e0
   go_enter Tryz.func99,Tryz.ntmps99
   go_upto_region 5 with ((go_at_call 146; refine(HC.out _ (HS.out.keep HB.out) (HT.out.keep HB.out)).mono ?_; rintro e w1 ⟨rfl,hb1⟩))
   have HB1:=hid (Pu.aO HB.out hb1);have HX1:=hid (bS hb1 HX.out);have HY1:=hid (bS hb1 HY.out);have HR1:=hid (HR.out.keep hb1);clear hb1;rename_i hret;refine Pu.rP 8 (gN [(32,.eq (.pointer (some ⟨w.heap.size,0,none⟩))),(33,.eq (.bool bx)),(34,.eq (.pointer (some ⟨w.heap.size,1,none⟩))),(35,.eq (s)),(36,.eq (.pointer (some ⟨w.heap.size+1,1,none⟩))),(37,.eq (t)),(38,.vals (x.natAbs-y.natAbs)),(39,.int (mk bx (x.natAbs-y.natAbs)))]) (by kernel_rfl) (by kernel_rfl) (by kernel_rfl) (fun hfn=>by kernel_rfl) (gN.keep _) ?_ ?_ ?_
   ·intro L a w2 i o ho hne2 hL hdep hI;have hi:i<9:=(Array.getElem?_eq_some_iff.1 ho).1;rcases (show i=0\/i=1\/i=2\/i=3\/i=4\/i=5\/i=6\/i=7 by omega) with rfl | rfl | rfl | rfl | rfl | rfl | rfl | rfl
    ·cases (Option.some.inj (show some _=some o from ho));have h2:a.tmps.getD 2 undef=.pointer (some ⟨w.heap.size,0,none⟩):=hI.free (t:=2) (by kernel_rfl);refine bG rfl fun K hK=>?_;clear hdep hI ho hi;go_simp;exact hK _ _ (Below.refl _ _) (fun d hd=>by cases hd; rfl)
    ·cases (Option.some.inj (show some _=some o from ho));have h32:a.tmps.getD 32 undef=.pointer (some ⟨w.heap.size,0,none⟩):=hI.slot (i:=0) (d:=32) (hdep ⟨0,.data⟩ (by simp) (by rfl)) rfl;have hc2:=(bQ (bS hI.below HX1.out)).1;refine bG rfl fun K hK=>?_;clear hdep hI ho hi;go_simp;exact hK _ _ (Below.refl _ _) (fun d hd=>by cases hd; rfl)
    ·cases (Option.some.inj (show some _=some o from ho));have h2:a.tmps.getD 2 undef=.pointer (some ⟨w.heap.size,0,none⟩):=hI.free (t:=2) (by kernel_rfl);refine bG rfl fun K hK=>?_;clear hdep hI ho hi;go_simp;exact hK _ _ (Below.refl _ _) (fun d hd=>by cases hd; rfl)
    ·cases (Option.some.inj (show some _=some o from ho));have h34:a.tmps.getD 34 undef=.pointer (some ⟨w.heap.size,1,none⟩):=hI.slot (i:=2) (d:=34) (hdep ⟨2,.data⟩ (by simp) (by rfl)) rfl;have hc2:=(bQ (bS hI.below HX1.out)).2.1;refine bG rfl fun K hK=>?_;clear hdep hI ho hi;go_simp;exact hK _ _ (Below.refl _ _) (fun d hd=>by cases hd; rfl)
    ·cases (Option.some.inj (show some _=some o from ho));have h3:a.tmps.getD 3 undef=.pointer (some ⟨w.heap.size+1,0,none⟩):=hI.free (t:=3) (by kernel_rfl);refine bG rfl fun K hK=>?_;clear hdep hI ho hi;go_simp;exact hK _ _ (Below.refl _ _) (fun d hd=>by cases hd; rfl)
    ·cases (Option.some.inj (show some _=some o from ho));have h36:a.tmps.getD 36 undef=.pointer (some ⟨w.heap.size+1,1,none⟩):=hI.slot (i:=4) (d:=36) (hdep ⟨4,.data⟩ (by simp) (by rfl)) rfl;have hc2:=(bQ (bS hI.below HY1.out)).2.1;refine bG rfl fun K hK=>?_;clear hdep hI ho hi;go_simp;exact hK _ _ (Below.refl _ _) (fun d hd=>by cases hd; rfl)
    ·cases (Option.some.inj (show some _=some o from ho));have h35:a.tmps.getD 35 undef=s:=hI.slot (i:=3) (d:=35) (hdep ⟨3,.data⟩ (by simp) (by rfl)) rfl;have h37:a.tmps.getD 37 undef=t:=hI.slot (i:=5) (d:=37) (hdep ⟨5,.data⟩ (by simp) (by rfl)) rfl;have hbw:=Pu.aO HB1.out hI.below;refine bG rfl fun K hK=>?_;clear hdep hI ho hi;go_simp;refine(HM.out _ (HS.out.keep hbw) (HT.out.keep hbw)).mono ?_;rintro e w3 ⟨v3,ds,rfl,hn3,hd3,hv3,hb3⟩;exact hK _ _ hb3 (fun d hd=>by cases hd; exact⟨ds,hn3,hd3,hv3⟩)
    ·cases (Option.some.inj (show some _=some o from ho));have h33:a.tmps.getD 33 undef=.bool bx:=hI.slot (i:=1) (d:=33) (hdep ⟨1,.data⟩ (by simp) (by rfl)) rfl;have h38:Sp.is (.vals (x.natAbs-y.natAbs)) w2 (a.tmps.getD 38 undef):=hI.slot (i:=6) (d:=38) (hdep ⟨6,.data⟩ (by simp) (by rfl)) rfl;obtain⟨x38,e38⟩:∃ x,a.tmps.getD 38 undef=x:=⟨_,rfl⟩
     rw[e38] at h38;refine bG rfl fun K hK=>?_;clear hdep hI ho hi;go_simp;obtain⟨ds,hn,hdg,hv⟩:=h38;refine(jW bx x38 ds _ hn hdg).mono ?_;rintro e w3 ⟨v3,rfl,hn3,hb3⟩;rw[hv] at hn3;exact hK _ _ hb3 (fun d hd=>by cases hd; exact hn3)
   ·intro L a w2 o ho hL hoth hI;cases (Option.some.inj (show some _=some o from ho));have h4:a.tmps.getD 4 undef=.pointer (some ⟨w.heap.size+1+1,0,none⟩):=hI.free (t:=4) (by kernel_rfl);have h39:aW w2 (a.tmps.getD 39 undef) (mk bx (x.natAbs-y.natAbs)):=hI.slot (i:=7) (d:=39) (hoth 7 (by decide) (by decide)) rfl;obtain⟨x39,e39⟩:∃ x,a.tmps.getD 39 undef=x:=⟨_,rfl⟩
    rw[e39] at h39;refine⟨rfl,?_⟩;refine sV (.tmp 4) (.tmp 39) rfl (w.heap.size+1+1) x39 _ h4 e39 h39 (HR1.out.keep hI.below) ?_;refine hret _ _ (wp_ret ?_);exact qG rfl hI.defers h4 (HR1.out.keep hI.below) h39 (Pu.aO HB1.out hI.below) (by omega)
   ·intro hfn;exact absurd hfn (by decide)
def dT (n m:Int):Int:=(if n<0 then -(n+1) else n)%m
theorem aIk (n m:Int) (h:1<=m):0<=dT n m/\dT n m<m:=⟨Int.emod_nonneg _ (by omega),Int.emod_lt_of_pos _ (by omega)⟩
set_option maxHeartbeats 400000 in
theorem aSb (n m:Int) (w:World) (h1 : -9223372036854775808<=n) (h2:n<=9223372036854775807) (hm:1<=m) (hm2:m<=9223372036854775807) :
  Calls Tryz.prog 15 #[.int .i64 n,.int .i64 m] w fun e w'=>e=.returned (.int .i64 (dT n m))/\w=w':=by
 unfold dT;rcases Int.lt_or_le n 0 with h | h
 ·rw[if_pos h];have hm0:(m==0)=false:=by rw[beq_eq_false_iff_ne]; omega
  go_enter Tryz.func15,Tryz.ntmps15
  go_wp2
  go_ret
  refine⟨sH ?_,rfl⟩;obtain⟨k,hk⟩:∃ k,n+1 = -k:=⟨-(n+1),by omega⟩
  rw[hk,Int.neg_tmod,Int.neg_neg,Int.neg_neg,Int.tmod_eq_emod_of_nonneg (by omega)]
 ·rw[if_neg (by omega)];have hm0:(m==0)=false:=by rw[beq_eq_false_iff_ne]; omega
  go_enter Tryz.func15,Tryz.ntmps15
  go_wp2
  go_ret
  exact⟨rfl,rfl⟩
def aGm (w:World) (v:Value) (zs:List Int):Prop :=
 (∀ z∈zs,-9223372036854775808<=z/\z<=9223372036854775807) /\
 ∃ ao cap,v=.slice ao zs.length cap/\zs.length<=cap/\cap<=maxLen/\(0<zs.length->∃ b off,ao=some ⟨b,off,none⟩/\∀ i,i<zs.length->w.cell? ⟨b,off+i,none⟩=some (.int .i64 (zs.getD i 0)))
theorem kN.drewN {a b:List Nat} {w wr:World} {i k c:Nat} (h:kN a b w i k c wr) (n:Nat):kN a b w i k c (wr.drewN n):=by
 obtain⟨zs,h1,h2,h3,h4,h5,h6⟩:=h;exact⟨zs,h1,h2,h3,below_drewN h4 n,h5,h6⟩
set_option maxRecDepth 100000 in
set_option maxHeartbeats 4000000 in
theorem aHr (vx vy:Value) (x y:Int) (w:World) (hx:aW w vx x) (hy:aW w vy y) (hl1:len x<=1099511627776) (hl2:len y<=1099511627776) :
  Calls Tryz.prog 76 #[vx,vy] w (fF w (x*y)):=by
 obtain⟨i0,hi,hz0,hz1,hz2⟩:=info_parts kR;obtain⟨s,rfl,hs⟩:=hx;obtain⟨t,rfl,ht⟩:=hy;rw[<- aN6];generalize decide (x<0)=bx at *;generalize decide (y<0)=by' at *
 obtain⟨a,ha⟩:∃ a,a=aA x.natAbs:=⟨_,rfl⟩
 obtain⟨b,hb⟩:∃ b,b=aA y.natAbs:=⟨_,rfl⟩
 have hda:aP a:=by rw[ha]; exact bF _
 have hdb:aP b:=by rw[hb]; exact bF _
 have hva:val a=x.natAbs:=by rw[ha,aX]
 have hvb:val b=y.natAbs:=by rw[hb,aX]
 unfold len at hl1 hl2;rw[<- ha] at hs hl1;rw[<- hb] at ht hl2;rw[<- hva,<- hvb];clear ha hb hva hvb;obtain⟨ao,ac,rfl,a1,a2,a3⟩:=hs;obtain⟨bo,bc,rfl,b1,b2,b3⟩:=ht;have HA:=hid a3;have HB:=hid b3;clear a3 b3;unfold maxLen at a2 b2;obtain⟨W,hW⟩:∃ W,W=(((w.alloc (Obj.cells #[Value.bool bx,.slice ao a.length ac] 28)).alloc (Obj.cells #[Value.bool by',.slice bo b.length bc] 28)).alloc (Obj.cells #[Value.bool false,Value.slice none 0 0] 28)):=⟨_,rfl⟩
 have HBW:=hid (show Below w.heap.size w W by rw[hW]; exact vF w _ _ _);have HR:=hid (show bW W (w.heap.size+1+1) by rw[hW]; exact bW.at (by simp));have HX:=hid (show W.heap[w.heap.size]?=some (.cells #[.bool bx,.slice ao a.length ac] 28 (0,0)) by rw[hW]; exact sO w _ _ _);have HY:=hid (show W.heap[w.heap.size+1]?=some (.cells #[.bool by',.slice bo b.length bc] 28 (0,0)) by rw[hW]; exact sG w _ _ _);have HWW:=hid hW;obtain⟨c1,c2,-,-⟩:=bQ HX.out;obtain⟨d1,d2,-,-⟩:=bQ HY.out;clear hW
 go_enter Tryz.func76,Tryz.ntmps76
 go_upto_region 1 with fail
 rw[<- HWW.out]
 go_wp2_with (at_make; refine oX rfl (.tmp 16) (.tmp 16) rfl i0 hi hz0 hz1 hz2 fN _ _ (a.length+b.length) rfl rfl (by omega) (by omega) (by omega) ?_)
 intro w1 hrow hbel hsz;have HC:=hid (lV.start hrow hbel hsz);clear hrow hbel hsz c1 c2 d1 d2;go_wp2
 go_loopw [6] (fun i wr=>∃ k:Nat,k<=a.length/\i=.int .i64 k/\lV a b W k wr) (fun i _=>a.length-(intOf i).toNat)
 case atStart=>exact⟨0,by omega,rfl,HC.out⟩
 case round =>
  obtain⟨i,hik,rfl,hrel⟩:=hrel;have HR1:=hid hrel;obtain⟨c1,c2,-,-⟩:=bQ (bS hrel.bel HX.out);obtain⟨d1,d2,-,-⟩:=bQ (bS hrel.bel HY.out);clear hrel;by_cases hia:i<a.length
  ·obtain⟨ab,aoff,rfl,hac⟩:=HA.out (by omega);have hca0:=hac i hia;obtain⟨x',hx⟩:∃ x,x=a.getD i 0:=⟨_,rfl⟩
   have hx9:x'<1000000000:=by rw[hx]; exact hda.getD i
   rw[<- hx] at hca0;have HX':=hid hx;have HI:=hid HR1.out.inner;have HCA:=hid hca0;clear hac hx hca0;go_wp2
   go_loopw [7,8] (fun c j wr=>∃ k c':Nat,k<=b.length/\j=.int .i64 k/\c=.int .i64 c'/\kN a b W i k c' wr) (fun _ j _=>b.length-(intOf j).toNat)
   case atStart=>exact⟨0,0,by omega,rfl,rfl,HI.out⟩
   case round =>
    obtain⟨k,c,hkb,rfl,rfl,hrel⟩:=hrel;have HT:=hid hrel;have hc9:=hrel.bel.2;obtain⟨c1',c2',-,-⟩:=bQ (bS hrel.bel.1 HX.out);obtain⟨d1',d2',-,-⟩:=bQ (bS hrel.bel.1 HY.out);have hca:=keepCell hrel.bel.1 (keepCell HBW.out HCA.out);clear hrel c1 c2 d1 d2;by_cases hk:k<b.length
    ·obtain⟨bb,boff,rfl,hbc⟩:=HB.out (by omega);have hcb:=keepCell HT.out.bel.1 (keepCell HBW.out (hbc k hk));obtain⟨y',hy⟩:∃ y,y=b.getD k 0:=⟨_,rfl⟩
     have hy9:y'<1000000000:=by rw[hy]; exact hdb.getD k
     rw[<- hy] at hcb;obtain⟨xy1,xy2⟩:=aMe hx9 hy9;obtain⟨z,hz9,hcz,hfz,hnext⟩:=HT.out.cell (show i+k<a.length+b.length by omega);have HCZ:=hid hcz;have HFZ:=hid hfz;have HZ9:=hid hz9;have HYY:=hid hy;clear hbc hy hnext hfz;have hwrap1:IntKind.i64.wrap ((i:Int)+(k:Int))=(i:Int)+(k:Int):=IntWalk.i64_in _ (by omega);have hwrap2:IntKind.i64.wrap ((x':Int)*(y':Int))=(x':Int)*(y':Int):=IntWalk.i64_in _ (by omega);have hwrap3:IntKind.i64.wrap ((z:Int)+(x':Int)*(y':Int))=(z:Int)+(x':Int)*(y':Int):=IntWalk.i64_in _ (by omega);have hwrap4:IntKind.i64.wrap ((z:Int)+(x':Int)*(y':Int)+(c:Int))=(z:Int)+(x':Int)*(y':Int)+(c:Int):=IntWalk.i64_in _ (by omega);have hton:((i:Int)+(k:Int)).toNat=i+k:=by omega
     go_wp2
     go_quiet (fail)
     clear hwrap1 hwrap2 hwrap3 hwrap4 hton;have hTn:=HT.out.drewN nq;obtain⟨z2,hz92,hcz2,hfz2,hnext2⟩:=hTn.cell (show i+k<a.length+b.length by omega);obtain rfl:z2=z:=by
      have h:some (Value.int .i64 (z:Int))=some (Value.int .i64 (z2:Int)):=HCZ.out.symm.trans hcz2;injection h with h;injection h with _ h;omega
     rw[<- HX'.out,<- HYY.out] at hnext2;have HN:Hid (∀ s:Int,s=(z2:Int)+(x':Int)*(y':Int)+(c:Int)->∃ c':Nat,s/1000000000=(c':Int)/\kN a b W i (k+1) c' ((wr.drewN nq).setCell ⟨W.heap.size,i+k,none⟩ (.int .i64 (s%1000000000)))):=by
      refine hid fun s hs=>?_;have e:s=((z2+x'*y'+c:Nat):Int):=by rw[hs,Int.natCast_add,Int.natCast_add,Int.natCast_mul]
      refine⟨(z2+x'*y'+c)/1000000000,by rw[e]; omega,?_⟩;rw[e];have hxy:((x'*y':Nat):Int)<=999999998000000001:=by rw[Int.natCast_mul]; exact xy2
      exact hnext2 _ rfl hk (by omega)
     clear hnext2 hTn hcz HCZ;generalize wr.drewN nq=w2 at *;go_wp2;obtain⟨c',hc',hT⟩:=HN.out _ rfl
     go_roundw
     case rel=>exact⟨k+1,c',by omega,by go_num,by rw[hc'],hT⟩
     case measure=>simp[intOf]; omega
    ·obtain rfl:k=b.length:=by omega
     obtain⟨⟨v0,hc⟩,hfz,hO⟩:=HT.out.cellOut hia;have HO:=hid hO;clear hO;go_wp2
     go_roundw
     case rel=>exact⟨i+1,by omega,by go_num,HO.out⟩
     case measure=>simp[intOf]; omega
  ·obtain rfl:i=a.length:=by omega
   obtain⟨zs,hz1',hz2',hz3',hz4'⟩:=HR1.out.fin (by unfold maxLen; omega);have HZ1:=hid hz1';have HZ3:=hid hz3';have HZ4:=hid hz4';have HV:Hid (val zs=val a*val b):=hid (aAx (by rw[hz2',nB hz1']));clear hz2' hz3' hz4'
   go_wp2_with fail
   refine(jW _ _ zs _ HZ3.out HZ1.out).mono ?_;rintro e w2 ⟨v2,rfl,hv2,hb2⟩;rw[HV.out,show (!bx==by')=(bx != by') from rfl] at hv2;have HV2:=hid hv2;have HB2:=hid (Pu.aO HBW.out (Pu.aO HZ4.out hb2));have HR2:=hid ((HR.out.keep HZ4.out).keep hb2);clear hv2 hb2
   go_wp2_with (with_reducible refine eT rfl (.tmp 4) (.tmp 75) rfl (w.heap.size+1+1) v2 _ rfl rfl HV2.out HR2.out ?_)
   exact mE rfl rfl HR2.out HV2.out HB2.out (by omega)
def cY (w:World) (g:Nat) (z:Int):Prop:=∃ v,aW w v z/\w.heap[g]?=some (.cells v.cells 28 (0,0))
theorem cY.keep {w w':World} {g:Nat} {z:Int} (h:cY w g z) (hb:Below w.heap.size w w'):cY w' g z:=by
 obtain⟨v,h1,h2⟩:=h;exact⟨v,h1.keep hb,bS hb h2⟩
theorem cY.res {w:World} {g:Nat} {z:Int} (h:cY w g z):bW w g:=by
 obtain⟨v,h1,h2⟩:=h;obtain⟨so,n,sc,rfl,_⟩:=h1.form;exact⟨_,_,_,_,h2⟩
theorem cY.set {w:World} {g:Nat} {v:Value} {z:Int} (hr:bW w g) (hv:aW w v z):cY (w.setRow g v.cells) g z:=by
 refine⟨v,hv.apart hr _,?_⟩;obtain⟨_,_,_,_,h⟩:=hr;exact setRow_heap w g _ _ _ _ h
theorem cY.apart {w:World} {g:Nat} {z:Int} (h:cY w g z) {r:Nat} (hr:bW w r) (hne:g≠r) (cs:Array Value):cY (w.setRow r cs) g z:=by
 obtain⟨v,h1,h2⟩:=h;exact⟨v,h1.apart hr cs,(setRow_other w r g cs hne).trans h2⟩
theorem bW.apart {w:World} {g:Nat} (h:bW w g) {r:Nat} (hne:g≠r) (cs:Array Value):bW (w.setRow r cs) g:=by
 obtain⟨x,y,z,n,h⟩:=h;exact⟨x,y,z,n,(setRow_other w r g cs hne).trans h⟩
theorem aW.open {w:World} {v:Value} {z:Int} (h:aW w v z):∃ b so n sc,v=.agg #[.bool b,.slice so n sc]:=by
 obtain⟨so,n,sc,rfl,_⟩:=h.form;exact⟨_,so,n,sc,rfl⟩
theorem cY.new {w:World} {b:Bool} {so:Option Addr} {n sc:Nat} {z:Int} (h:aW w (.agg #[.bool b,.slice so n sc]) z):cY (w.alloc (.cells #[.bool b,.slice so n sc] 28)) w.heap.size z :=
 ⟨_,h.keep ((Below.refl _ _).alloc (Nat.le_refl _) _),heap_alloc_new w _⟩
theorem aQd {o:Oper} {a:Act} {w:World} {K:Act->World->Prop} {Q:Exit->Act->World->Prop} (x:Operand) (ho:o.op=.load 28 x)
  (g:Nat) (z:Int) (hx:a.eval x=.pointer (some ⟨g,0,none⟩)) (hc:cY w g z)
  (h:∀ v,aW w v z->w.heap[g]?=some (.cells v.cells 28 (0,0))->K (a.put o.dst v) w):o.wp Tryz.prog a w K Q:=by
 obtain⟨d,hd1,hd2⟩:=rX vU;obtain⟨v,hv,hh⟩:=hc;obtain⟨so,n,sc,rfl,_⟩:=hv.form;exact wp_load_row 28 x ho g hx 28 _ (0,0) d hh hd1 (by cases d<;>first | rfl | cases hd2) qE (h _ hv hh)
theorem vT {ops:Array Oper} {rest:List Oper} {o:Oper} {a:Act} {w:World} {Q:Exit->Act->World->Prop} (hgd:o.guard=none) (x:Operand) (ho:o.op=.load 28 x)
  (g:Nat) (v:Value) (z:Int) (hx:a.eval x=.pointer (some ⟨g,0,none⟩)) (hv:aW w v z) (hh:w.heap[g]?=some (.cells v.cells 28 (0,0)))
  (h:wpList Tryz.prog ops Q rest (a.put o.dst v) w):wpList Tryz.prog ops Q (o::rest) a w:=by
 obtain⟨d,hd1,hd2⟩:=rX vU;obtain⟨so,n,sc,rfl,_⟩:=hv.form;exact wpList_load_row hgd 28 x ho g hx 28 _ (0,0) d hh hd1 (by cases d<;>first | rfl | cases hd2) qE h
theorem aAs (x y:Int):len (x+y)<=max (len x) (len y)+1:=by
 unfold len;refine Nat.le_trans (dW (Int.natAbs_add_le x y)) (wH _ _)
theorem aAr (x:Int):len (-x)=len x:=by unfold len; rw[Int.natAbs_neg]
theorem qT (x y:Int):len (x*y)<=len x+len y:=by
 unfold len;rw[Int.natAbs_mul];exact aC2 _ _
set_option maxRecDepth 100000 in
set_option maxHeartbeats 1000000 in
theorem wS (vx:Value) (x:Int) (w:World) (hx:aW w vx x) :
  Calls Tryz.prog 199 #[vx] w (aB0 w true):=by
 obtain⟨s,rfl,hs⟩:=hx;obtain⟨ao,ac,rfl,a1,a2,a3⟩:=hs;have HA:=hid a3;have hnz:0<(aA x.natAbs).length->(aA x.natAbs).getD ((aA x.natAbs).length-1) 0≠0:=by
  intro h;refine aEg (Nat.pos_of_ne_zero fun e=>?_);rw[e] at h;exact absurd h (by decide)
 have hz:(aA x.natAbs).length=0->decide (x<0)=false:=by
  intro h;have h2:=jF.1 (List.eq_nil_of_length_eq_zero h);simp; omega
 have HNZ:=hid hnz;have HZ:=hid hz;have hdg:aP (aA x.natAbs):=bF _;clear a3 hnz hz;unfold maxLen at a2;generalize decide (x<0)=bx at *;obtain⟨a,ha⟩:∃ a,a=aA x.natAbs:=⟨_,rfl⟩
 rw[<- ha] at HA HNZ HZ a1 hdg |-;clear ha;obtain⟨W,hW⟩:∃ W,W=w.alloc (Obj.cells #[Value.bool bx,.slice ao a.length ac] 28):=⟨_,rfl⟩
 have HB:=hid (show Below w.heap.size w W by rw[hW]; exact(Below.refl _ _).alloc (Nat.le_refl _) _);have hrow:W.heap[w.heap.size]?=some (.cells #[.bool bx,.slice ao a.length ac] 28 (0,0)):=by rw[hW]; exact heap_alloc_new w _
 obtain⟨c1,c2,-,-⟩:=bQ hrow;have HWW:=hid hW;have HDG:=hid hdg;clear hW hrow hdg
 go_enter Tryz.func199,Tryz.ntmps199
 go_upto_region 1 with fail
 rw[<- HWW.out];go_wp2
 go_loopw [8] (fun i wr=>∃ k:Nat,k<=a.length/\i=.int .i64 k/\W=wr) (fun i _=>a.length-(intOf i).toNat)
 case atStart=>exact⟨0,Nat.zero_le _,rfl,rfl⟩
 case round =>
  obtain⟨k,hk,rfl,rfl⟩:=hrel;by_cases hka:k<a.length
  ·obtain⟨b,off,rfl,hc⟩:=HA.out (by omega);have hck:=keepCell HB.out (hc k hka);have hd9:=HDG.out.getD k;generalize a.getD k 0=d at *;have hnn:¬ ((d:Int)<0):=by omega
   have hn9:¬ (1000000000<=(d:Int)):=by omega
   clear hc;go_wp2
   go_roundw
   case rel=>exact⟨k+1,by omega,by go_num,trivial⟩
   case measure=>simp[intOf]; omega
  ·obtain rfl:k=a.length:=by omega
   rcases Nat.eq_zero_or_pos a.length with h0 | h0
   ·have hb:=HZ.out h0;subst hb;have hll:(((a.length:Nat):Int)==0)=true:=by rw[h0]; rfl
    clear h0;go_wp2
    go_ret
    exact⟨rfl,HB.out⟩
   ·have hll:(((a.length:Nat):Int)==0)=false:=by rw[beq_eq_false_iff_ne]; omega
    obtain⟨b,off,rfl,hc⟩:=HA.out h0;have hck:=keepCell HB.out (hc (a.length-1) (by omega));have hne:=HNZ.out h0;generalize a.getD (a.length-1) 0=d at *;have hdn:((d:Int) != 0)=true:=by rw[bne_iff_ne]; omega
    clear hc;go_wp2
    go_ret
    exact⟨rfl,HB.out⟩
theorem rZ {m:Nat} (h:(aA m).length<=2):m<1000000000000000000:=by
 have h1:m<1000000000^2:=fG.1 h;rw[show (1000000000:Nat)^2=1000000000000000000 by decide +kernel] at h1;exact h1
def vH (w:World) (q r:Nat) (e:Ending) (w':World):Prop:=∃ s t,e=.returned (.tuple #[s,t])/\aL w' s (aA q)/\aL w' t (aA r)/\Below w.heap.size w w'
set_option maxRecDepth 100000 in
set_option maxHeartbeats 1000000 in
theorem aQw (va vb:Value) (m n:Nat) (w:World) (ha:aL w va (aA m)) (hb:aL w vb (aA n)) (hlt:(aA m).length<(aA n).length) :
  Calls Tryz.prog 225 #[va,vb] w (vH w (m/n) (m%n)):=by
 have hmn:=vY hlt;rw[Nat.div_eq_of_lt hmn,Nat.mod_eq_of_lt hmn];have HA:=hid ha;obtain⟨ao,ac,rfl,a1,a2,-⟩:=ha;obtain⟨bo,bc,rfl,b1,b2,-⟩:=hb;clear hmn
 go_enter Tryz.func225,Tryz.ntmps225
 go_wp2;go_ret2;exact⟨_,_,rfl,aL.nil (by decide),HA.out,Below.refl _ _⟩
set_option maxRecDepth 100000 in
set_option maxHeartbeats 1000000 in
theorem aRx (va vb:Value) (m n:Nat) (w:World) (ha:aL w va (aA m)) (hb:aL w vb (aA n)) (hge:¬ (aA m).length<(aA n).length) (h2:(aA m).length<=2) (hn:0<n) :
  Calls Tryz.prog 225 #[va,vb] w (vH w (m/n) (m%n)):=by
 have hm:=rZ h2;have hn8:=rZ (show (aA n).length<=2 by omega);have HA:=hid ha;have HB:=hid hb;obtain⟨ao,ac,rfl,a1,a2,-⟩:=ha;obtain⟨bo,bc,rfl,b1,b2,-⟩:=hb;unfold maxLen at a2 b2;have HV1:=hid (tL _ (aA m) w HA.out (bF _) (by rw[aX]; omega));have HV2:=hid (tL _ (aA n) w HB.out (bF _) (by rw[aX]; omega));rw[aX] at HV1 HV2;have HS1:=hid (fun w1=>tM (m/n) w1 (by have:=Nat.div_le_self m n; omega));have HS2:=hid (fun w1=>tM (m%n) w1 (by have:=Nat.mod_le m n; omega));have hm1:(m:Int)<=1000000000000000000:=by omega
 have hn1:(n:Int)<=1000000000000000000:=by omega
 have hn0:(1:Int)<=(n:Int):=by omega
 have hnz:((n:Int)==0)=false:=by rw[beq_eq_false_iff_ne]; omega
 have hnn:¬ n=0:=by omega
 have hq:IntKind.u64.wrap ((m:Int)/(n:Int))=((m/n:Nat):Int):=by
  have:=Nat.div_le_self m n;rw[<- Int.natCast_ediv];generalize m/n=q at *;exact IntWalk.u64_in _ (by omega)
 have hr:((m:Int)).tmod (n:Int)=((m%n:Nat):Int):=by
  rw[Int.tmod_eq_emod_of_nonneg (by omega),Int.natCast_emod]
 have HQ:=hid hq;have HRR:=hid hr;clear hm hn8 hq hr
 go_enter Tryz.func225,Tryz.ntmps225
 go_wp2_with fail
 refine HV1.out.mono ?_;rintro e w' ⟨rfl,rfl⟩
 go_upto_region 5 with ((go_at_call 226; refine HV2.out.mono ?_; rintro e w' ⟨rfl,rfl⟩))
 rename_i hret;refine Pu.rP 10 (gN [(23,.eq (.int .u64 (m:Int))),(24,.eq (.int .u64 (n:Int))),(25,.eq (.int .u64 ((m/n:Nat):Int))),(26,.nums (aA (m/n))),(27,.eq (.int .u64 (m:Int))),(28,.eq (.int .u64 (n:Int))),(29,.eq (.int .u64 ((m%n:Nat):Int))),(30,.nums (aA (m%n))),(4,.nums (aA (m/n))),(5,.nums (aA (m%n)))]) (by kernel_rfl) (by kernel_rfl) (by kernel_rfl) (fun hfn=>absurd hfn (by decide)) (gN.keep _) ?_ ?_ ?_
 ·intro L a w2 i o ho hne2 hL hdep hI;have hi:i<10:=(Array.getElem?_eq_some_iff.1 ho).1;rcases (show i=0\/i=1\/i=2\/i=3\/i=4\/i=5\/i=6\/i=7\/i=8\/i=9 by omega) with rfl | rfl | rfl | rfl | rfl | rfl | rfl | rfl | rfl | rfl
  ·cases (Option.some.inj (show some _=some o from ho));have h6:a.tmps.getD 6 undef=.int .u64 (m:Int):=hI.free (t:=6) (by kernel_rfl);refine bG rfl fun K hK=>?_;clear hdep hI ho hi;go_simp;exact hK _ _ (Below.refl _ _) (fun d hd=>by cases hd; rfl)
  ·cases (Option.some.inj (show some _=some o from ho));have h7:a.tmps.getD 7 undef=.int .u64 (n:Int):=hI.free (t:=7) (by kernel_rfl);refine bG rfl fun K hK=>?_;clear hdep hI ho hi;go_simp;exact hK _ _ (Below.refl _ _) (fun d hd=>by cases hd; rfl)
  ·cases (Option.some.inj (show some _=some o from ho));have h23:a.tmps.getD 23 undef=.int .u64 (m:Int):=hI.slot (i:=0) (d:=23) (hdep ⟨0,.data⟩ (by simp) (by rfl)) rfl;have h24:a.tmps.getD 24 undef=.int .u64 (n:Int):=hI.slot (i:=1) (d:=24) (hdep ⟨1,.data⟩ (by simp) (by rfl)) rfl;have hq:=HQ.out;refine bG rfl fun K hK=>?_;clear hdep hI ho hi;go_simp;exact hK _ _ (Below.refl _ _) (fun d hd=>by cases hd; rfl)
  ·cases (Option.some.inj (show some _=some o from ho));have h25:a.tmps.getD 25 undef=.int .u64 ((m/n:Nat):Int):=hI.slot (i:=2) (d:=25) (hdep ⟨2,.data⟩ (by simp) (by rfl)) rfl;refine bG rfl fun K hK=>?_;clear hdep hI ho hi;go_simp;refine(HS1.out _).mono ?_;rintro e w3 ⟨v3,rfl,hn3,hb3⟩;exact hK _ _ hb3 (fun d hd=>by cases hd; exact hn3)
  ·cases (Option.some.inj (show some _=some o from ho));have h6:a.tmps.getD 6 undef=.int .u64 (m:Int):=hI.free (t:=6) (by kernel_rfl);refine bG rfl fun K hK=>?_;clear hdep hI ho hi;go_simp;exact hK _ _ (Below.refl _ _) (fun d hd=>by cases hd; rfl)
  ·cases (Option.some.inj (show some _=some o from ho));have h7:a.tmps.getD 7 undef=.int .u64 (n:Int):=hI.free (t:=7) (by kernel_rfl);refine bG rfl fun K hK=>?_;clear hdep hI ho hi;go_simp;exact hK _ _ (Below.refl _ _) (fun d hd=>by cases hd; rfl)
  ·cases (Option.some.inj (show some _=some o from ho));have h27:a.tmps.getD 27 undef=.int .u64 (m:Int):=hI.slot (i:=4) (d:=27) (hdep ⟨4,.data⟩ (by simp) (by rfl)) rfl;have h28:a.tmps.getD 28 undef=.int .u64 (n:Int):=hI.slot (i:=5) (d:=28) (hdep ⟨5,.data⟩ (by simp) (by rfl)) rfl;have hr:=HRR.out;refine bG rfl fun K hK=>?_;clear hdep hI ho hi;go_simp;exact hK _ _ (Below.refl _ _) (fun d hd=>by cases hd; rfl)
  ·cases (Option.some.inj (show some _=some o from ho));have h29:a.tmps.getD 29 undef=.int .u64 ((m%n:Nat):Int):=hI.slot (i:=6) (d:=29) (hdep ⟨6,.data⟩ (by simp) (by rfl)) rfl;refine bG rfl fun K hK=>?_;clear hdep hI ho hi;go_simp;refine(HS2.out _).mono ?_;rintro e w3 ⟨v3,rfl,hn3,hb3⟩;exact hK _ _ hb3 (fun d hd=>by cases hd; exact hn3)
  ·cases (Option.some.inj (show some _=some o from ho));have h26:aL w2 (a.tmps.getD 26 undef) (aA (m/n)):=hI.slot (i:=3) (d:=26) (hdep ⟨3,.data⟩ (by simp) (by rfl)) rfl;obtain⟨x26,e26⟩:∃ x,a.tmps.getD 26 undef=x:=⟨_,rfl⟩
   rw[e26] at h26;refine bG rfl fun K hK=>?_;clear hdep hI ho hi;go_simp;exact hK _ _ (Below.refl _ _) (fun d hd=>by cases hd; exact h26)
  ·cases (Option.some.inj (show some _=some o from ho));have h30:aL w2 (a.tmps.getD 30 undef) (aA (m%n)):=hI.slot (i:=7) (d:=30) (hdep ⟨7,.data⟩ (by simp) (by rfl)) rfl;obtain⟨x30,e30⟩:∃ x,a.tmps.getD 30 undef=x:=⟨_,rfl⟩
   rw[e30] at h30;refine bG rfl fun K hK=>?_;clear hdep hI ho hi;go_simp;exact hK _ _ (Below.refl _ _) (fun d hd=>by cases hd; exact h30)
 ·intro L a w2 o ho;exact absurd ho (by simp)
 ·intro _ L a w2 hall hI;have h4:aL w2 (a.tmps.getD 4 undef) (aA (m/n)):=hI.slot (i:=8) (d:=4) (hall 8 (by decide)) rfl;have h5:aL w2 (a.tmps.getD 5 undef) (aA (m%n)):=hI.slot (i:=9) (d:=5) (hall 9 (by decide)) rfl;have HBL:=hid hI.below;refine hret _ _ ?_;have hf:=hI.frame [23,24,25,26,27,28,29,30,4,5] (by kernel_rfl);simp only[List.foldl_cons,List.foldl_nil] at hf;clear hI hall;generalize a.tmps.getD 23 undef=y23 at *;generalize a.tmps.getD 24 undef=y24 at *;generalize a.tmps.getD 25 undef=y25 at *;generalize a.tmps.getD 26 undef=y26 at *;generalize a.tmps.getD 27 undef=y27 at *;generalize a.tmps.getD 28 undef=y28 at *;generalize a.tmps.getD 29 undef=y29 at *;generalize a.tmps.getD 30 undef=y30 at *;generalize a.tmps.getD 4 undef=y4 at *;generalize a.tmps.getD 5 undef=y5 at *;subst hf;go_wp2;go_simp;go_ret2;exact⟨y4,y5,rfl,h4,h5,HBL.out⟩
def sM (w:World) (q r:Int) (e:Ending) (w':World):Prop:=∃ s t,e=.returned (.tuple #[s,t])/\aW w' s q/\aW w' t r/\Below w.heap.size w w'
theorem aCi {fn:Func} {p q:Tmp} (h:fn.results=#[.cell p 28,.cell q 28]) (tmps:Array Value) (w:World) (g1 g2:Nat) (c1 c2:Array Value)
  (hp:tmps.getD p undef=.pointer (some ⟨g1,0,none⟩)) (hq:tmps.getD q undef=.pointer (some ⟨g2,0,none⟩)) (h1:w.heap[g1]?=some (.cells c1 28 (0,0))) (h2:w.heap[g2]?=some (.cells c2 28 (0,0))) (l1:c1.size=2) (l2:c2.size=2) :
  (results fn tmps).run Tryz.prog w=.ok (.tuple #[.agg c1,.agg c2]) w:=by
 obtain⟨d,hd1,hd2⟩:=rX vU;have hp':tmps[p]?.getD undef=.pointer (some ⟨g1,0,none⟩):=by simpa using hp
 have hq':tmps[q]?.getD undef=.pointer (some ⟨g2,0,none⟩):=by simpa using hq
 have hr1:=run_loadVar_row (P:=Tryz.prog) w g1 28 28 c1 (0,0) d h1 hd1 (by cases d<;>first | rfl | cases hd2) (by rw[l1]; exact qE);have hr2:=run_loadVar_row (P:=Tryz.prog) w g2 28 28 c2 (0,0) d h2 hd1 (by cases d<;>first | rfl | cases hd2) (by rw[l2]; exact qE);simp[results,h,hp',hq',asAddr,hr1,hr2]
theorem aB9 {fn:Func} {p q:Tmp} (h:fn.results=#[.cell p 28,.cell q 28]) {tmps:Array Value} {w0 w:World} {g1 g2:Nat} {v1 v2:Value} {y z:Int} (hp:tmps.getD p undef=.pointer (some ⟨g1,0,none⟩)) (hq:tmps.getD q undef=.pointer (some ⟨g2,0,none⟩))
  (hg1:bW w g1) (hg2:bW w g2) (hne:g1≠g2) (hv1:aW w v1 y) (hv2:aW w v2 z) (hb:Below w0.heap.size w0 w) (hB1:w0.heap.size<=g1) (hB2:w0.heap.size<=g2) :
  bodyPost Tryz.prog fn (sM w0 y z) .ret ⟨tmps,[]⟩ ((w.setRow g1 v1.cells).setRow g2 v2.cells):=by
 have hg2':=bW.apart hg2 (Ne.symm hne) v1.cells;have a1:=(hv1.apart hg1 v1.cells).apart hg2' v2.cells;have a2:=(hv2.apart hg1 v1.cells).apart hg2' v2.cells;obtain⟨b1,so1,n1,sc1,rfl⟩:=hv1.open;obtain⟨b2,so2,n2,sc2,rfl⟩:=hv2.open;have e1:((w.setRow g1 (Value.agg #[.bool b1,.slice so1 n1 sc1]).cells).setRow g2 (Value.agg #[.bool b2,.slice so2 n2 sc2]).cells).heap[g1]?=some (.cells #[.bool b1,.slice so1 n1 sc1] 28 (0,0)):=by
  rw[setRow_other _ g2 g1 _ hne];obtain⟨_,_,_,_,hg⟩:=hg1;exact setRow_heap _ _ _ _ _ _ hg
 have e2:((w.setRow g1 (Value.agg #[.bool b1,.slice so1 n1 sc1]).cells).setRow g2 (Value.agg #[.bool b2,.slice so2 n2 sc2]).cells).heap[g2]?=some (.cells #[.bool b2,.slice so2 n2 sc2] 28 (0,0)):=by
  obtain⟨_,_,_,_,hg⟩:=hg2';exact setRow_heap _ _ _ _ _ _ hg
 exact bodyPost_ret (aCi h _ _ g1 g2 _ _ hp hq e1 e2 rfl rfl) rfl ⟨_,_,rfl,a1,a2,mH (mH hb hB1 _) hB2 _⟩
theorem aLe {x y:Int} (hy:y≠0) (h:0<=x\/x.natAbs%y.natAbs=0):mk (decide (x<0) != decide (y<0)) (x.natAbs/y.natAbs)=x/y/\((x.natAbs%y.natAbs:Nat):Int)=x%y:=by
 have key:∀ x y:Int,0<y->(0<=x\/x.natAbs%y.natAbs=0)->mk (decide (x<0)) (x.natAbs/y.natAbs)=x/y/\((x.natAbs%y.natAbs:Nat):Int)=x%y:=by
  intro x y hy h;obtain⟨n,rfl⟩:=Int.eq_ofNat_of_zero_le (Int.le_of_lt hy);rw[show ((n:Nat):Int).natAbs=n from rfl] at *;rcases Int.lt_or_le x 0 with hx | hx
  ·obtain⟨m,rfl⟩:∃ m:Nat,x = -(m:Int):=⟨x.natAbs,by omega⟩
   rw[show (-((m:Nat):Int)).natAbs=m by omega] at *;have hm:m%n=0:=by rcases h with h | h<;>omega
   simp only[hx,decide_true,mk,if_true];have hd:(n:Int) ∣ (m:Int):=Int.natCast_dvd_natCast.2 (Nat.dvd_of_mod_eq_zero hm);rw[hm,Int.neg_ediv_of_dvd hd,Int.natCast_ediv];exact⟨rfl,(Int.emod_eq_zero_of_dvd ((Int.dvd_neg).2 hd)).symm⟩
  ·obtain⟨m,rfl⟩:=Int.eq_ofNat_of_zero_le hx;rw[show ((m:Nat):Int).natAbs=m from rfl];simp only[show ¬ ((m:Nat):Int)<0 by omega,decide_false,mk,Bool.false_eq_true,if_false];exact⟨by rw[Int.natCast_ediv],by rw[Int.natCast_emod]⟩
 rcases Int.lt_trichotomy y 0 with h1 | h1 | h1
 ·obtain⟨h2,h3⟩:=key x (-y) (by omega) (by rwa[Int.natAbs_neg]);rw[Int.natAbs_neg] at h2 h3;rw[Int.ediv_neg] at h2;rw[Int.emod_neg] at h3;refine⟨?_,h3⟩;have e:(decide (x<0) != decide (y<0)) = !decide (x<0):=by simp[h1]
  rw[e];have hm:∀ (b:Bool) (n:Nat),mk (!b) n = -(mk b n):=by intro b n; cases b<;>simp[mk]
  rw[hm,h2,Int.neg_neg]
 ·exact absurd h1 hy
 ·have e:(decide (x<0) != decide (y<0))=decide (x<0):=by simp[show ¬ y<0 by omega]
  rw[e];exact key x y h1 h
theorem aM3 {x y:Int} (hy:y≠0) (hx:x<0) (hr:x.natAbs%y.natAbs≠0):mk (decide (x<0) != decide (y<0)) (x.natAbs/y.natAbs+1)=x/y/\((y.natAbs-x.natAbs%y.natAbs:Nat):Int)=x%y:=by
 have key:∀ y:Int,0<y->x.natAbs%y.natAbs≠0->mk true (x.natAbs/y.natAbs+1)=x/y/\((y.natAbs-x.natAbs%y.natAbs:Nat):Int)=x%y:=by
  intro y hy hr;obtain⟨n,rfl⟩:=Int.eq_ofNat_of_zero_le (Int.le_of_lt hy);rw[show ((n:Nat):Int).natAbs=n from rfl] at *;obtain⟨m,rfl⟩:∃ m:Nat,x = -(m:Int):=⟨x.natAbs,by omega⟩
  rw[show (-((m:Nat):Int)).natAbs=m by omega] at *;have hlt:=Nat.mod_lt m (show 0<n by omega);have hdm:=Nat.div_add_mod m n;have hu:=(@Int.ediv_emod_unique (-(m:Int)) (n:Int) ((n-m%n:Nat):Int) (-((m/n+1:Nat):Int)) (by omega)).2 ⟨?_,by omega,by omega⟩
  ·simp only[mk,if_true];exact⟨hu.1.symm,hu.2.symm⟩
  ·rw[Int.mul_neg,<- Int.natCast_mul,Nat.mul_add,Nat.mul_one];omega
 rcases Int.lt_trichotomy y 0 with h1 | h1 | h1
 ·obtain⟨h2,h3⟩:=key (-y) (by omega) (by rwa[Int.natAbs_neg]);rw[Int.natAbs_neg] at h2 h3;rw[Int.ediv_neg] at h2;rw[Int.emod_neg] at h3;refine⟨?_,h3⟩;have e:(decide (x<0) != decide (y<0))=false:=by simp[h1,hx]
  rw[e];simp only[mk,Bool.false_eq_true,if_false];simp only[mk,if_true] at h2;omega
 ·exact absurd h1 hy
 ·have e:(decide (x<0) != decide (y<0))=true:=by simp[show ¬ y<0 by omega,hx]
  rw[e];exact key y h1 hr
theorem aKp (w:World):aL (w.alloc (.cells #[.int .i64 1] 3)) (.slice (some ⟨w.heap.size,0,none⟩) 1 1) [1] :=
 aEr rfl (by decide) (by decide) fun i hi=>by
  obtain rfl:i=0:=by omega
  exact cell_of_row _ _ 0 _ _ _ (heap_alloc_new w _)
theorem aGb (w:World) (a b c d:Obj):Below w.heap.size w ((((w.alloc a).alloc b).alloc c).alloc d) :=
 (vF w a b c).alloc (by simp; omega) _
set_option maxRecDepth 100000 in
set_option maxHeartbeats 4000000 in
theorem aZz (vx vy:Value) (x y:Int) (w:World) (hx:aW w vx x) (hy:aW w vy y) (hy0:y≠0) (hl1:len x<=1099511627000) (hl2:len y<=1099511627000)
  (hdiv:∀ w va vb,aL w va (aA x.natAbs)->aL w vb (aA y.natAbs)->Calls Tryz.prog 225 #[va,vb] w (vH w (x.natAbs/y.natAbs) (x.natAbs%y.natAbs))) :
  Calls Tryz.prog 201 #[vx,vy] w (sM w (x/y) (x%y)):=by
 have HXI:=hid hx;have HYI:=hid hy;obtain⟨s,rfl,hs⟩:=hx;obtain⟨t,rfl,ht⟩:=hy;have HS:=hid hs;have HT:=hid ht;have HDV:=hid hdiv;have hyl:0<(aA y.natAbs).length:=by
  rcases Nat.eq_zero_or_pos (aA y.natAbs).length with h | h
  ·have:=jF.1 (List.eq_nil_of_length_eq_zero h); omega
  ·exact h
 have hylb:((((aA y.natAbs).length:Nat):Int)==0)=false:=by rw[beq_eq_false_iff_ne]; omega
 obtain⟨ao,ac,rfl,a1,a2,-⟩:=hs;obtain⟨bo,bc,rfl,b1,b2,-⟩:=ht;unfold maxLen at a2 b2;obtain⟨W,hW⟩:∃ W,W=((((w.alloc (Obj.cells #[Value.bool (decide (x<0)),.slice ao (aA x.natAbs).length ac] 28)).alloc (Obj.cells #[Value.bool (decide (y<0)),.slice bo (aA y.natAbs).length bc] 28)).alloc (Obj.cells #[Value.bool false,Value.slice none 0 0] 28)).alloc (Obj.cells #[Value.bool false,Value.slice none 0 0] 28)):=⟨_,rfl⟩
 have hlast:∀ (w3:World) (o:Obj),Below w3.heap.size w3 (w3.alloc o):=fun w3 o=>(Below.refl _ _).alloc (Nat.le_refl _) _;have hBW:Below w.heap.size w W:=by rw[hW]; exact aGb w _ _ _ _
 have hX:W.heap[w.heap.size]?=some (.cells #[Value.bool (decide (x<0)),.slice ao (aA x.natAbs).length ac] 28 (0,0)):=by rw[hW]; exact bS (hlast _ _) (sO w _ _ _)
 have hY:W.heap[w.heap.size+1]?=some (.cells #[Value.bool (decide (y<0)),.slice bo (aA y.natAbs).length bc] 28 (0,0)):=by rw[hW]; exact bS (hlast _ _) (sG w _ _ _)
 have hR4:bW W (w.heap.size+1+1):=by rw[hW]; exact(bW.at (by simp)).keep (hlast _ _)
 have hR5:bW W (w.heap.size+1+1+1):=by rw[hW]; exact bW.at (by simp)
 have HWW:=hid hW;have HBW:=hid hBW;have HX:=hid hX;have HY:=hid hY;have HR4:=hid hR4;have HR5:=hid hR5;obtain⟨c1,c2,-,-⟩:=bQ hX;obtain⟨d1,d2,-,-⟩:=bQ hY;clear hW hBW hX hY hR4 hR5 hlast hdiv
 go_enter Tryz.func201,Tryz.ntmps201
 go_upto_region 1 with fail
 rw[<- HWW.out]
 go_wp2_with fail
 refine(wS _ x _ (HXI.out.keep HBW.out)).mono ?_;rintro e w1 ⟨rfl,hb1⟩;have HB1:=hid (Pu.aO HBW.out hb1);have HK1:=hid hb1;obtain⟨e1,e2,-,-⟩:=bQ (bS hb1 HX.out);obtain⟨f1,f2,-,-⟩:=bQ (bS hb1 HY.out);clear hb1 c1 c2 d1 d2
 go_wp2_with fail
 refine(wS _ y _ (HYI.out.keep HB1.out)).mono ?_;rintro e w2 ⟨rfl,hb2⟩;have HB2:=hid (Pu.aO HB1.out hb2);have HK2:=hid (Pu.aO HK1.out hb2);obtain⟨c1,c2,-,-⟩:=bQ (bS HK2.out HX.out);obtain⟨d1,d2,-,-⟩:=bQ (bS HK2.out HY.out);clear hb2 e1 e2 f1 f2
 go_wp2_with fail
 refine(HDV.out _ _ _ (HS.out.keep HB2.out) (HT.out.keep HB2.out)).mono ?_;rintro e w3 ⟨vq,vr,rfl,hq,hr,hb3⟩;have HQ:=hid hq;have HRM:=hid hr;obtain⟨qo,qc,rfl,q1,q2,-⟩:=hq;obtain⟨ro,rc,rfl,r1,r2,-⟩:=hr;unfold maxLen at q2 r2;have HB3:=hid (Pu.aO HB2.out hb3);have HK3:=hid (Pu.aO HK2.out hb3);obtain⟨e1,e2,-,-⟩:=bQ (bS HK3.out HX.out);obtain⟨f1,f2,-,-⟩:=bQ (bS HK3.out HY.out);clear hb3 c1 c2 d1 d2;have hql:(aA (x.natAbs/y.natAbs)).length<=1099511627000:=Nat.le_trans (dW (Nat.div_le_self _ _)) hl1;have hrl:(aA (x.natAbs%y.natAbs)).length<=1099511627000:=Nat.le_trans (dW (Nat.mod_le _ _)) hl1;by_cases hcase:0<=x\/x.natAbs%y.natAbs=0
 ·obtain⟨p1,p2⟩:=aLe hy0 hcase;have HP1:=hid p1;have HP2:=hid p2;have hgo:decide (x<0)=false\/(decide (x<0)=true/\(aA (x.natAbs%y.natAbs)).length=0):=by
   rcases Int.lt_or_le x 0 with h | h
   ·refine .inr ⟨by simp[h],?_⟩;rcases hcase with h2 | h2
    ·omega
    ·rw[h2]; rfl
   ·exact .inl (by simp[h])
  clear p1 p2 hcase;generalize x.natAbs/y.natAbs=Q at *;generalize x.natAbs%y.natAbs=R at *;generalize hbx:decide (x<0)=bx at *;generalize hby:decide (y<0)=by' at *
  clear hbx hby;rcases hgo with rfl | ⟨rfl,hr0⟩
  ·clear hrl
   go_wp2_with fail
   refine(kS _ _ _ _ HQ.out (bF _)).mono ?_;rintro e w4 ⟨v4,rfl,hv4,hb4⟩;rw[aX] at hv4;have hv4':aW w4 v4 (x/y):=by rw[<- HP1.out]; cases by'<;>exact hv4
   have HV4:=hid hv4';have HB4:=hid hb4;clear hv4 hv4' hb4
   go_wp2_with fail
   refine(kS false _ _ _ (HRM.out.keep HB4.out) (bF _)).mono ?_;rintro e w5 ⟨v5,rfl,hv5,hb5⟩;rw[aX] at hv5;have hv5':aW w5 v5 (x%y):=by rw[<- HP2.out]; exact hv5
   have HV5:=hid hv5';have HV45:=hid (HV4.out.keep hb5);have HR45:=hid ((HR4.out.keep HK3.out).keep (Pu.aO HB4.out hb5));have HR55:=hid ((HR5.out.keep HK3.out).keep (Pu.aO HB4.out hb5));have HB5:=hid (Pu.aO HB3.out (Pu.aO HB4.out hb5));have HV5b:=hid (hv5'.apart HR45.out v4.cells);have HR5b:=hid (bW.apart HR55.out (show w.heap.size+1+1+1≠w.heap.size+1+1 by omega) v4.cells);clear hv5 hv5' hb5
   go_wp2_with (first | (with_reducible refine eT rfl (.tmp 4) (.tmp 52) rfl (w.heap.size+1+1) v4 _ rfl rfl HV45.out HR45.out ?_) | (with_reducible refine eT rfl (.tmp 5) (.tmp 54) rfl (w.heap.size+1+1+1) v5 _ rfl rfl HV5b.out HR5b.out ?_))
   exact aB9 rfl rfl rfl HR45.out HR55.out (by omega) HV45.out HV5.out HB5.out (by omega) (by omega)
  ·rw[hr0] at r1 |-;have HR0:=hid hr0;have HRM0:=hid (show aL w3 (.slice ro 0 rc) (aA R) by rw[<- hr0]; exact HRM.out);clear hrl hr0
   go_wp2_with fail
   refine(kS _ _ _ _ HQ.out (bF _)).mono ?_;rintro e w4 ⟨v4,rfl,hv4,hb4⟩;rw[aX] at hv4;have hv4':aW w4 v4 (x/y):=by rw[<- HP1.out]; cases by'<;>exact hv4
   have HV4:=hid hv4';have HB4:=hid hb4;clear hv4 hv4' hb4
   go_wp2_with fail
   refine(kS false _ _ _ (HRM0.out.keep HB4.out) (bF _)).mono ?_;rintro e w5 ⟨v5,rfl,hv5,hb5⟩;rw[aX] at hv5;have hv5':aW w5 v5 (x%y):=by rw[<- HP2.out]; exact hv5
   have HV5:=hid hv5';have HV45:=hid (HV4.out.keep hb5);have HR45:=hid ((HR4.out.keep HK3.out).keep (Pu.aO HB4.out hb5));have HR55:=hid ((HR5.out.keep HK3.out).keep (Pu.aO HB4.out hb5));have HB5:=hid (Pu.aO HB3.out (Pu.aO HB4.out hb5));have HV5b:=hid (hv5'.apart HR45.out v4.cells);have HR5b:=hid (bW.apart HR55.out (show w.heap.size+1+1+1≠w.heap.size+1+1 by omega) v4.cells);clear hv5 hv5' hb5
   go_wp2_with (first | (with_reducible refine eT rfl (.tmp 4) (.tmp 52) rfl (w.heap.size+1+1) v4 _ rfl rfl HV45.out HR45.out ?_) | (with_reducible refine eT rfl (.tmp 5) (.tmp 54) rfl (w.heap.size+1+1+1) v5 _ rfl rfl HV5b.out HR5b.out ?_))
   exact aB9 rfl rfl rfl HR45.out HR55.out (by omega) HV45.out HV5.out HB5.out (by omega) (by omega)
 ·have hx0:x<0:=by omega
  have hr0:x.natAbs%y.natAbs≠0:=by omega
  obtain⟨p1,p2⟩:=aM3 hy0 hx0 hr0;have HP1:=hid p1;have HP2:=hid p2;have hl2':(aA y.natAbs).length<=1099511627000:=hl2;have hrn:=Nat.mod_lt x.natAbs (show 0<y.natAbs by omega);have hrpos:0<(aA (x.natAbs%y.natAbs)).length:=by
   rcases Nat.eq_zero_or_pos (aA (x.natAbs%y.natAbs)).length with h | h
   ·have:=jF.1 (List.eq_nil_of_length_eq_zero h); omega
   ·exact h
  have hbx:decide (x<0)=true:=by simp[hx0]
  clear p1 p2 hcase hx0 hr0;obtain⟨Q0,hQ0⟩:∃ Q,Q=x.natAbs/y.natAbs:=⟨_,rfl⟩
  obtain⟨R0,hR0⟩:∃ R,R=x.natAbs%y.natAbs:=⟨_,rfl⟩
  rw[<- hQ0] at hql HQ q1 HP1 |-;rw[<- hR0] at hrl HRM r1 hrn hrpos HP2 |-;clear HDV hQ0 hR0;generalize hby:decide (y<0)=by' at *
  generalize decide (x<0)=bx at *;subst hbx;clear hby;have hN1:((Q0+1:Nat):Int)=1*(val (aA Q0):Int)+1*(val [1]:Int):=by rw[aX]; simp[val]
  have hlt1:Q0+1<1000000000^(max (aA Q0).length [1].length+1):=by
   have h:=wH Q0 1;rw[zN (n:=1) (by decide) (by decide)] at h;exact fG.1 h
  have HC1:=hid (oZ 1 1 (.slice qo (aA Q0).length qc) (.slice (some ⟨w3.heap.size,0,none⟩) 1 1) (aA Q0) [1] (Q0+1) · · · (bF _) (aP.cons (by decide) aP.nil) (by decide) (by decide) (by decide) (by decide) hN1 hlt1 (by omega) (by decide));have hN2:((y.natAbs-R0:Nat):Int)=1*(val (aA y.natAbs):Int)+(-1)*(val (aA R0):Int):=by rw[aX,aX]; omega
  have hlt2:y.natAbs-R0<1000000000^(max (aA y.natAbs).length (aA R0).length+1) :=
   fG.1 (Nat.le_trans (dW (Nat.sub_le _ _)) (by omega))
  have HC2:=hid (oZ 1 (-1) (.slice bo (aA y.natAbs).length bc) (.slice ro (aA R0).length rc) (aA y.natAbs) (aA R0) (y.natAbs-R0) · · · (bF _) (bF _) (by decide) (by decide) (by decide) (by decide) hN2 hlt2 (by omega) (by omega));have HON:=hid (aKp w3);have HAL:=hid (show Below w3.heap.size w3 (w3.alloc (.cells #[.int .i64 1] 3)) from (Below.refl _ _).alloc (Nat.le_refl _) _);clear hN1 hlt1 hN2 hlt2
  go_wp2_with fail
  refine(HC1.out _ (HQ.out.keep HAL.out) HON.out).mono ?_;rintro e wa ⟨vq,rfl,hq,hba⟩;have HQa:=hid hq;have HBa:=hid (Pu.aO HB3.out (Pu.aO HAL.out hba));have HKa:=hid (Pu.aO HK3.out (Pu.aO HAL.out hba));have HLa:=hid (Pu.aO HAL.out hba);obtain⟨c1,c2,-,-⟩:=bQ (bS HKa.out HX.out);obtain⟨d1,d2,-,-⟩:=bQ (bS HKa.out HY.out);clear hq hba e1 e2 f1 f2
  go_wp2_with fail
  refine(HC2.out _ (HT.out.keep HBa.out) (HRM.out.keep HLa.out)).mono ?_;rintro e wb ⟨vr,rfl,hr,hbb⟩;have HRMb:=hid hr;have HQb:=hid (HQa.out.keep hbb);have HBb:=hid (Pu.aO HBa.out hbb);have HKb:=hid (Pu.aO HKa.out hbb);obtain⟨e1,e2,-,-⟩:=bQ (bS HKb.out HX.out);obtain⟨f1,f2,-,-⟩:=bQ (bS HKb.out HY.out);clear hr hbb c1 c2 d1 d2 HRM HQ HC1 HC2 HB3 HK3 HBa HKa HLa HAL HON HQa;have HRM:=HRMb;have HQ:=HQb;have HB3:=HBb;have HK3:=HKb;clear HRMb HQb HBb HKb;generalize Q0+1=Q at *;generalize y.natAbs-R0=R at *
  go_wp2_with fail
  refine(kS _ _ _ _ HQ.out (bF _)).mono ?_;rintro e w4 ⟨v4,rfl,hv4,hb4⟩;rw[aX] at hv4;have hv4':aW w4 v4 (x/y):=by rw[<- HP1.out]; cases by'<;>exact hv4
  have HV4:=hid hv4';have HB4:=hid hb4;clear hv4 hv4' hb4
  go_wp2_with fail
  refine(kS false _ _ _ (HRM.out.keep HB4.out) (bF _)).mono ?_;rintro e w5 ⟨v5,rfl,hv5,hb5⟩;rw[aX] at hv5;have hv5':aW w5 v5 (x%y):=by rw[<- HP2.out]; exact hv5
  have HV5:=hid hv5';have HV45:=hid (HV4.out.keep hb5);have HR45:=hid ((HR4.out.keep HK3.out).keep (Pu.aO HB4.out hb5));have HR55:=hid ((HR5.out.keep HK3.out).keep (Pu.aO HB4.out hb5));have HB5:=hid (Pu.aO HB3.out (Pu.aO HB4.out hb5));have HV5b:=hid (hv5'.apart HR45.out v4.cells);have HR5b:=hid (bW.apart HR55.out (show w.heap.size+1+1+1≠w.heap.size+1+1 by omega) v4.cells);clear hv5 hv5' hb5
  go_wp2_with (first | (with_reducible refine eT rfl (.tmp 4) (.tmp 52) rfl (w.heap.size+1+1) v4 _ rfl rfl HV45.out HR45.out ?_) | (with_reducible refine eT rfl (.tmp 5) (.tmp 54) rfl (w.heap.size+1+1+1) v5 _ rfl rfl HV5b.out HR5b.out ?_))
  exact aB9 rfl rfl rfl HR45.out HR55.out (by omega) HV45.out HV5.out HB5.out (by omega) (by omega)
end Zn
end Go.Proofs.YtbaihklbefhgdaaGreat
