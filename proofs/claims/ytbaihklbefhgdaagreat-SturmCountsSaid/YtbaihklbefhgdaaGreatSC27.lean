/-
  
-/
import Derived.Test.YtbaihklbefhgdaaGreatSC26
import Derived.Test.YtbaihklbefhgdaaGreatSC16
import Derived.ArgAppend
import Derived.Test.YtbaihklbefhgdaaGreatSC1
import Derived.RegionTactic
import Derived.BigRegion
import Derived.Test.YtbaihklbefhgdaaGreatSC22
set_option linter.unusedVariables false
set_option linter.unusedSimpArgs false
set_option linter.unusedSectionVars false
namespace Go.Proofs.YtbaihklbefhgdaaGreat
open Go.RowKit
open Go.Lib (hid)
open Dg
namespace Zn
theorem aQz {k:IntKind} {w:World} {v:Value} {zs:List Int} (h:aBz w v 1 zs.length (zs.map (Value.int k))):Row k w v zs:=by
 obtain⟨_,ao,cap,rfl,h1,h2,h3⟩:=h;refine⟨ao,cap,rfl,h1,h2,fun hl=>?_⟩;obtain⟨b,off,h4,h5⟩:=h3 hl;refine⟨b,off,h4,fun i hi=>h5 i _ ?_⟩;rw[List.getElem?_map,List.getElem?_eq_getElem hi,List.getD_eq_getElem?_getD,List.getElem?_eq_getElem hi];rfl
theorem Row.of_owns {k:IntKind} {w:World} {base:Nat} {E:TypeId} {v:Value} {zs:List Int} (h:w.ownsRow base E 1 v zs.length (zs.map (Value.int k))):Row k w v zs:=aQz (aBz.of_owns h)
theorem aPo (w:World) (ty:TypeId) (b:Addr) (n cap c:Nat) (ao:Option Addr) (hn:n<=cap) :
  (Builtin.append_ #[22,22] ty #[.slice (some b) n cap,.slice ao 0 c]).run Tryz.prog w=.ok (.slice (some b) n cap) w:=by
 obtain⟨i0,hi,hz0,hz1,hz2⟩:=info_parts kR;cases ao with
 | none=>simp[Builtin.append_,run_underlying fN,sizeOf,typeInfo,hi,Builtin.lenOf,Builtin.firstCells,hn,storeCells]
 | some a=>simp[Builtin.append_,run_underlying fN,sizeOf,typeInfo,hi,Builtin.lenOf,Builtin.firstCells,hn,storeCells,loadCells,loadCellsFrom]
theorem aPj {o:Oper} {a:Act} {w:World} {K:Act->World->Prop} {Q:Exit->Act->World->Prop} (s x:Operand)
  (ho:o.op=.call { callee:=.builtin .append,args:=#[s,x],argTypes:=#[22,22] })
  (g:Nat) (z:Int) (hs:a.eval s=.slice (some ⟨g,0,none⟩) 1 1) (hc:w.cell? ⟨g,0,none⟩=some (.int .i64 z)) (v:Value) (ds:List Nat) (hx:a.eval x=v) (hv:aL w v ds) (hl:ds.length<=1099511627776)
  (h:∀ v' w',Row .i64 w' v' (z::ds.map Int.ofNat)->Below w.heap.size w w'->K (a.put o.dst v') w'):o.wp Tryz.prog a w K Q:=by
 obtain⟨i0,hi,hz0,hz1,hz2⟩:=info_parts kR;obtain⟨ao,cap,rfl,h1,h2,h3⟩:=hv;rcases Nat.eq_zero_or_pos ds.length with h0 | h0
 ·obtain rfl:=List.eq_nil_of_length_eq_zero h0;have hrun:=aPo w o.type ⟨g,0,none⟩ 1 1 cap ao (Nat.le_refl _);unfold Oper.wp;simp[execOp,ho,resolve,invoke,builtin,hs,hx,hrun,Result.andThen];refine h _ _ ⟨_,1,rfl,by simp,by decide,fun _=>⟨g,0,rfl,fun i hi=>?_⟩⟩ (Below.refl _ _);obtain rfl:i=0:=by simpa using hi
  exact hc
 ·obtain⟨b,off,rfl,hcell⟩:=h3 h0;obtain⟨v',w',hrun,r1,r2⟩:=run_append_arg_grows (P:=Tryz.prog) w 22 o.type 3 i0 (.int .i64 0) 1 8 fN hi hz0 hz1 hz2 rfl (by decide) ⟨g,0,none⟩ 1 1 [.int .i64 z] rfl
   (by intro j u hj; cases j with | zero=>cases hj; rw[Addr.add_lit]; exact hc | succ j=>cases hj)
   ⟨b,off,none⟩ ds.length cap (ds.map fun d:Nat=>Value.int .i64 (d:Int)) (by simp)
   (by intro j u hj
       rw[List.getElem?_map] at hj;obtain⟨d,hd,rfl⟩:=Option.map_eq_some_iff.1 hj;rw[Addr.add_lit,hcell j (List.getElem?_eq_some_iff.1 hd).1,List.getD_eq_getElem?_getD,hd];rfl) (by omega) (by unfold maxLen; omega) (by omega)
  unfold Oper.wp;simp[execOp,ho,resolve,invoke,builtin,hs,hx,hrun,Result.andThen];refine h v' w' (Row.of_owns (base:=w.heap.size) (E:=3) ?_) ((Below.refl _ _).grown r2 (Nat.le_refl _) (fun k hk=>by cases hk));have e:((z::ds.map Int.ofNat).map (Value.int .i64))=[Value.int .i64 z]++(ds.map fun d:Nat=>Value.int .i64 (d:Int)):=by simp
  rw[e,show (z::ds.map Int.ofNat).length=1+ds.length by simp; omega];exact r1
set_option maxHeartbeats 1000000 in
theorem aPt (vx vy:Value) (x y:Int) (w:World) (hx:aW w vx x) (hy:aW w vy y) :
  Calls Tryz.prog 75 #[vx,vy] w (yI w (bA x y)):=by
 obtain⟨s,rfl,hs⟩:=hx;obtain⟨t,rfl,ht⟩:=hy;have HS:=hid hs;have HT:=hid ht;have HB:Hid (∀ bx by':Bool,Below w.heap.size w ((w.alloc (Obj.cells #[Value.bool bx,s] 28)).alloc (Obj.cells #[Value.bool by',t] 28))):=hid fun _ _=>vG w _ _;clear hs ht;rcases Int.lt_or_le x 0 with h | h
 ·have hd:decide (x<0)=true:=by simp[h]
  rw[hd];rcases Int.lt_or_le y 0 with k | k
  ·have kd:decide (y<0)=true:=by simp[k]
   rw[kd];have e:bA x y=bA y.natAbs x.natAbs:=by
    rw[<- aM8]; congr 1<;>omega
   rw[e];have HC:=hid (lD t s y.natAbs x.natAbs · · ·);clear h k hd kd e
   go_enter Tryz.func75,Tryz.ntmps75
   go_wp2_with fail
   refine(HC.out _ (HT.out.keep (HB.out _ _)) (HS.out.keep (HB.out _ _))).mono ?_;rintro e w1 ⟨rfl,hb1⟩;have HB1:=hid (Pu.aO (HB.out _ _) hb1);clear hb1;go_wp2
   go_ret
   exact⟨rfl,HB1.out⟩
  ·have kd:decide (y<0)=false:=by simp[k]
   rw[kd];have e:(-1:Int)=bA x y:=by unfold bA; rw[if_pos (by omega)]
   rw[<- e];clear h k hd kd e
   go_enter Tryz.func75,Tryz.ntmps75
   go_wp2
   go_ret
   exact⟨rfl,HB.out _ _⟩
 ·have hd:decide (x<0)=false:=by simp[h]
  rw[hd];rcases Int.lt_or_le y 0 with k | k
  ·have kd:decide (y<0)=true:=by simp[k]
   rw[kd];have e:(1:Int)=bA x y:=by unfold bA; rw[if_neg (by omega),if_pos (by omega)]
   rw[<- e];clear h k hd kd e
   go_enter Tryz.func75,Tryz.ntmps75
   go_wp2
   go_ret
   exact⟨rfl,HB.out _ _⟩
  ·have kd:decide (y<0)=false:=by simp[k]
   rw[kd];have e:bA x y=bA x.natAbs y.natAbs:=by congr 1<;>omega
   rw[e];have HC:=hid (lD s t x.natAbs y.natAbs · · ·);clear h k hd kd e
   go_enter Tryz.func75,Tryz.ntmps75
   go_wp2_with fail
   refine(HC.out _ (HS.out.keep (HB.out _ _)) (HT.out.keep (HB.out _ _))).mono ?_;rintro e w1 ⟨rfl,hb1⟩;have HB1:=hid (Pu.aO (HB.out _ _) hb1);clear hb1;go_wp2
   go_ret
   exact⟨rfl,HB1.out⟩
set_option maxHeartbeats 1000000 in
theorem aYs (vx:Value) (x:Int) (w:World) (hx:aW w vx x) :
  Calls Tryz.prog 186 #[vx] w (fF w (-x)):=by
 obtain⟨s,rfl,hs⟩:=hx;have HP:=hid (fun w1 h=>kS (!decide (x<0)) s (aA x.natAbs) w1 h (bF _));simp only[aX,aN5] at HP;generalize decide (x<0)=bx at *;have HS:=hid hs;have HB:=hid (vG w (Obj.cells #[Value.bool bx,s] 28) (Obj.cells #[Value.bool false,Value.slice none 0 0] 28));have HR:=hid (bW.at (W:=(w.alloc (Obj.cells #[Value.bool bx,s] 28))) (g:=w.heap.size+1) (by simp));clear hs
 go_enter Tryz.func186,Tryz.ntmps186
 go_wp2_with fail
 refine(HP.out _ (HS.out.keep HB.out)).mono ?_;rintro e w1 ⟨v1,rfl,hv1,hb1⟩;have HV1:=hid hv1;have HB1:=hid (Pu.aO HB.out hb1);have HR1:=hid (HR.out.keep hb1);clear hv1 hb1
 go_wp2_with (with_reducible refine eT rfl (.tmp 2) (.tmp 8) rfl (w.heap.size+1) v1 _ rfl rfl HV1.out HR1.out ?_)
 exact mE rfl rfl HR1.out HV1.out HB1.out (by omega)
set_option maxHeartbeats 1000000 in
theorem aRg (vx:Value) (x:Int) (w:World) (hx:aW w vx x) :
  Calls Tryz.prog 78 #[vx] w (fF w (-x)):=by
 obtain⟨s,rfl,hs⟩:=hx;have HP:=hid (fun w1 h=>jW (!decide (x<0)) s (aA x.natAbs) w1 h (bF _));simp only[aX,aN5] at HP;generalize decide (x<0)=bx at *;have HS:=hid hs;have HB:=hid (vG w (Obj.cells #[Value.bool bx,s] 28) (Obj.cells #[Value.bool false,Value.slice none 0 0] 28));have HR:=hid (bW.at (W:=(w.alloc (Obj.cells #[Value.bool bx,s] 28))) (g:=w.heap.size+1) (by simp));clear hs
 go_enter Tryz.func78,Tryz.ntmps78
 go_wp2_with fail
 refine(HP.out _ (HS.out.keep HB.out)).mono ?_;rintro e w1 ⟨v1,rfl,hv1,hb1⟩;have HV1:=hid hv1;have HB1:=hid (Pu.aO HB.out hb1);have HR1:=hid (HR.out.keep hb1);clear hv1 hb1
 go_wp2_with (with_reducible refine eT rfl (.tmp 2) (.tmp 8) rfl (w.heap.size+1) v1 _ rfl rfl HV1.out HR1.out ?_)
 exact mE rfl rfl HR1.out HV1.out HB1.out (by omega)
def Off (B:Nat) (v:Value):Prop:=∀ a n c,v=.slice (some a) n c->B<=a.block
theorem aD2 (B:Nat) {n c:Nat}:Off B (.slice none n c):=fun _ _ _ h=>by cases h
theorem aKs {B b off n c:Nat} (h:B<=b):Off B (.slice (some ⟨b,off,none⟩) n c):=fun _ _ _ e=>by cases e; exact h
theorem fL.off {w:World} {base:Nat} {v:Value} {ds:List Nat} (h:fL w base v ds):Off base v:=by
 rcases h.2 with ⟨rfl,_⟩ | ⟨g,cap,cur,rfl,hb,_⟩
 ·exact aD2 _
 ·exact aKs hb
theorem aL.aside {w:World} {v:Value} {ds:List Nat} {B g:Nat} (h:aL w v ds) (ho:Off B v) (hg:g<B) (i:Nat) (x:Value):aL (w.setCell ⟨g,i,none⟩ x) v ds:=by
 obtain⟨ao,cap,rfl,h1,h2,h3⟩:=h;refine⟨ao,cap,rfl,h1,h2,fun hl=>?_⟩;obtain⟨b,off,rfl,hc⟩:=h3 hl;have hb:=ho _ _ _ rfl;refine⟨b,off,rfl,fun j hj=>?_⟩;rw[World.cell?_of_block (w:=w) (heap_setCell_other _ _ _ _ (by simp at hb |-; omega))];exact hc j hj
def aYp (w:World) (n:Nat) (e:Ending) (w':World):Prop:=∃ v ds,e=.returned v/\aL w' v ds/\aP ds/\val ds=n/\Off w.heap.size v/\Below w.heap.size w w'
def aNh (w:World) (B:Nat) (z:Int) (e:Ending) (w':World):Prop:=∃ b s,e=.returned (.agg #[b,s])/\aW w' (.agg #[b,s]) z/\Off B s/\Below w.heap.size w w'
theorem aHe {fn:Func} {p:Tmp} (h:fn.results=#[.cell p 28]) {tmps:Array Value} {w0 w:World} {g B:Nat} {b:Bool} {so:Option Addr} {n c:Nat} {z:Int} (hp:tmps.getD p undef=.pointer (some ⟨g,0,none⟩))
  (hg:bW w g) (hv:aW w (.agg #[.bool b,.slice so n c]) z) (ho:Off B (.slice so n c)) (hb:Below w0.heap.size w0 w) (hB:w0.heap.size<=g):bodyPost Tryz.prog fn (aNh w0 B z) .ret ⟨tmps,[]⟩ (w.setRow g (Value.agg #[.bool b,.slice so n c]).cells):=by
 obtain⟨d,hd1,hd2⟩:=rX vU;have hv2:=hv.apart hg (Value.agg #[.bool b,.slice so n c]).cells;obtain⟨_,_,_,_,hg⟩:=hg;refine bodyPost_ret (results_cell_row h _ _ g 28 _ (0,0) d hp (setRow_heap _ _ _ _ _ _ hg) hd1 (by cases d<;>first | rfl | cases hd2) qE) rfl ?_;exact⟨_,_,rfl,hv2,ho,mH hb hB _⟩
set_option maxRecDepth 100000 in
set_option maxHeartbeats 2000000 in
theorem yT (va vb:Value) (a b:List Nat) (w:World) (ha:aL w va a) (hb:aL w vb b) (hda:aP a) (hdb:aP b) (hla:a.length<=1099511627000) (hlb:b.length<=a.length) (hle:val b<=val a) :
  Calls Tryz.prog 171 #[va,vb] w (aYp w (val a-val b)):=by
 obtain⟨i0,hi,hz0,hz1,hz2⟩:=info_parts kR;have HA:=hid ha;have HB:=hid hb;obtain⟨ao,ac,rfl,a1,a2,a3⟩:=ha;obtain⟨bo,bc,rfl,b1,b2,-⟩:=hb;have HA3:=hid a3;unfold maxLen at a2 b2;clear a3
 go_enter Tryz.func171,Tryz.ntmps171
 go_wp2
 go_loopw [5,6,7] (fun d c i wr=>∃ k c':Nat,k<=a.length/\i=.int .i64 k/\c=.int .i64 c'/\∃ ds,ds.length=k/\aP ds/\fL wr w.heap.size d ds/\Below w.heap.size w wr/\c'<=1/\val ds+val (b.take k)=val (a.take k)+1000000000^k*c') (fun _ _ i _=>a.length-(intOf i).toNat)
 case atStart=>exact⟨0,0,by omega,rfl,rfl,[],rfl,aP.nil,fL.start _ _,Below.refl _ _,by omega,by simp[val]⟩
 case round =>
  obtain⟨k,c,hk,rfl,rfl,ds,hlen,hdg,hown,hbel,hc1,hval⟩:=hrel;have HO:=hid hown;have HBL:=hid hbel;have HB2:=hid (HB.out.keep hbel);by_cases hka:k<a.length
  ·obtain⟨p,po,rfl,hp⟩:=HA3.out (by omega);have hpk:=keepCell hbel (hp k hka);obtain⟨x,hx⟩:∃ x,x=a.getD k 0:=⟨_,rfl⟩
   obtain⟨y,hy⟩:∃ y,y=b.getD k 0:=⟨_,rfl⟩
   have hx9:x<1000000000:=by rw[hx]; exact hda.getD k
   have hy9:y<1000000000:=by rw[hy]; exact hdb.getD k
   rw[<- hx] at hpk;have HDQ:Hid (∀ n,Calls Tryz.prog 214 #[.slice bo b.length bc,.int .i64 (k:Int)] (wr.drewN n) fun e w''=>e=.returned (.int .i64 (y:Int))/\∃ n,w''=wr.drewN n) :=
    hid fun n=>(tY _ b k (wr.drewN n) (HB.out.keep (below_drewN hbel n))).mono fun e w'' h=>⟨by rw[h.1,<- hy],n,h.2.symm⟩
   have HST:=hid (aH2 hlen hval (v:=(x:Int)-(y:Int)-(c:Int)) (by rw[hx,hy]));have HLN:=hid hlen;have HDG:=hid hdg;have hdl:ds.length<=1099511627776:=by omega
   clear hx hy hown hbel hlen hval hp hdg;obtain⟨v,hv⟩:∃ v,v=(x:Int)-(y:Int)-(c:Int):=⟨_,rfl⟩
   have hv1 : -1000000000<=v/\v<1000000000:=by omega
   rw[<- hv] at HST;by_cases hneg:(x:Int)-(y:Int)-(c:Int)<0
   ·obtain⟨d,hd⟩:∃ d:Nat,(d:Int)=v+1000000000:=⟨(v+1000000000).toNat,by omega⟩
    have hd9:d<1000000000:=by omega
    have HV:=hid (HST.out d 1 (by omega));have hdx:(x:Int)-(y:Int)-(c:Int)+1000000000=(d:Int):=by omega
    clear hv hd;go_wp2
    go_quiet ((go_at_call 214; exact HDQ.out _))
    have HB3:=hid (below_drewN HBL.out nq);have HO3:=hid (HO.out.heap (w':=wr.drewN nq) rfl);generalize wr.drewN nq=w2 at *
    go_wp2_with (at_builtin; refine rO rfl (.tmp 29) (.tmp 31) rfl i0 hi hz0 hz1 hz2 fN w _ ds rfl (HO3.out.alloc _) w2.heap.size d rfl (by exact cell_of_row _ _ 0 _ _ _ (heap_alloc_new w2 _)) hdl (HB3.out.alloc HB3.out.size _) ?_)
    intro v' w' hown' hbel';have HO2:=hid hown';have HB4:=hid hbel';clear hown' hbel';go_wp2
    go_roundw
    case rel=>exact⟨k+1,1,by omega,by go_num,rfl,ds++[d],by simp[HLN.out],HDG.out.append (aP.cons hd9 aP.nil),HO2.out,HB4.out,by omega,HV.out⟩
    case measure=>simp[intOf]; omega
   ·obtain⟨d,hd⟩:∃ d:Nat,(d:Int)=v:=⟨v.toNat,by omega⟩
    have hd9:d<1000000000:=by omega
    have HV:=hid (HST.out d 0 (by omega));have hdx:(x:Int)-(y:Int)-(c:Int)=(d:Int):=by omega
    rw[hdx] at hneg;clear hv hd;go_wp2
    go_quiet ((go_at_call 214; exact HDQ.out _))
    have HB3:=hid (below_drewN HBL.out nq);have HO3:=hid (HO.out.heap (w':=wr.drewN nq) rfl);generalize wr.drewN nq=w2 at *
    go_wp2_with (at_builtin; refine rO rfl (.tmp 29) (.tmp 31) rfl i0 hi hz0 hz1 hz2 fN w _ ds rfl (HO3.out.alloc _) w2.heap.size d rfl (by exact cell_of_row _ _ 0 _ _ _ (heap_alloc_new w2 _)) hdl (HB3.out.alloc HB3.out.size _) ?_)
    intro v' w' hown' hbel';have HO2:=hid hown';have HB4:=hid hbel';clear hown' hbel';go_wp2
    go_roundw
    case rel=>exact⟨k+1,0,by omega,by go_num,rfl,ds++[d],by simp[HLN.out],HDG.out.append (aP.cons hd9 aP.nil),HO2.out,HB4.out,by omega,HV.out⟩
    case measure=>simp[intOf]; omega
  ·obtain rfl:k=a.length:=by omega
   rw[List.take_of_length_le hlb,List.take_length] at hval;have hc0:c=0:=by
    rcases Nat.eq_zero_or_pos c with h | h
    ·exact h
    ·exfalso;obtain rfl:c=1:=by omega
     have:=mP hdg;rw[hlen] at this;omega
   have hv2:val ds=val a-val b:=by rw[hc0] at hval; omega
   have HV2:=hid hv2;clear hval hlen hown hbel hc0 hv2;go_wp2
   go_ret
   exact⟨_,ds,rfl,HO.out.nums,hdg,HV2.out,HO.out.off,HBL.out⟩
set_option maxHeartbeats 1000000 in
theorem yV (neg:Bool) (v:Value) (ds:List Nat) (w:World) (B:Nat) (hof:Off B v) (hv:aL w v ds) (hd:aP ds) :
  Calls Tryz.prog 147 #[.bool neg,v] w (aNh w B (mk neg (val ds))):=by
 have HD:=hid (nB hd);have HV:=hid hv;have HOF:=hid hof;clear hof;obtain⟨ao,cap,rfl,hlc,hcm,hcells⟩:=hv;have HCE:=hid hcells;clear hcells;unfold maxLen at hcm;obtain⟨W,hW⟩:∃ W,W=w.alloc (Obj.cells #[Value.bool false,Value.slice none 0 0] 28):=⟨_,rfl⟩
 have HB:=hid (show Below w.heap.size w W by rw[hW]; exact(Below.refl _ _).alloc (Nat.le_refl _) _);have HR:=hid (show bW W w.heap.size by rw[hW]; exact bW.at rfl);have HWW:=hid hW;clear hW
 go_enter Tryz.func147,Tryz.ntmps147
 go_wp2;rw[<- HWW.out]
 go_loopw [5] (fun n wr=>∃ k:Nat,k<=ds.length/\n=.int .i64 k/\dV (ds.take k)=dV ds/\W=wr) (fun n _=>(intOf n).toNat)
 case atStart=>exact⟨ds.length,Nat.le_refl _,rfl,by rw[List.take_length],rfl⟩
 case round =>
  obtain⟨k,hk,rfl,htr,rfl⟩:=hrel;have HT:=hid htr;clear htr;rcases Nat.eq_zero_or_pos k with h0 | h0
  ·subst h0;rw[show ((0:Nat):Int)=0 from rfl];have hz:val ds=0:=by
    have h:=HD.out;rw[<- HT.out,List.take_zero] at h;exact jF.1 h
   have HZ:=hid (show aW W (.agg #[.bool false,.slice none 0 0]) (mk neg (val ds)) by rw[hz,show mk neg 0=0 by cases neg<;>rfl]; exact uJ W);clear hz
   go_wp2_with (with_reducible refine eT rfl (.tmp 4) (.tmp 23) rfl w.heap.size (.agg #[.bool false,.slice none 0 0]) _ rfl rfl HZ.out HR.out ?_)
   exact aHe rfl rfl HR.out HZ.out (aD2 B) HB.out (Nat.le_refl _)
  ·obtain⟨j,rfl⟩:∃ j,k=j+1:=⟨k-1,by omega⟩
   obtain⟨b,off,rfl,hc⟩:=HCE.out (by omega);obtain⟨d,hdd⟩:∃ d,d=ds.getD j 0:=⟨_,rfl⟩
   have hcj:=keepCell HB.out (hc j (by omega));rw[<- hdd] at hcj;have HDD:=hid hdd;clear hc hdd;by_cases hz:d=0
   ·subst hz;go_wp2
    go_roundw
    case rel =>
     refine⟨j,by omega,by go_num,?_,trivial⟩;have h:=HT.out;rw[rW (by omega) hk,show j+1-1=j from rfl,<- HDD.out,yS] at h;exact h
    case measure=>simp[intOf]
   ·have hz2:((d:Int)==0)=false:=by simp; omega
    have h:=HT.out;have h2:=rW (show 0<j+1 by omega) hk;rw[show j+1-1=j from rfl,<- HDD.out] at h2;rw[h2,aCs hz,<- h2] at h;have hvz:val ds≠0:=by
     intro h0;have h3:=HD.out;rw[h0,gA,<- h,h2] at h3;simp at h3
    have HI:=hid (show aW W (.agg #[.bool neg,.slice (some ⟨b,off,none⟩) (j+1) cap]) (mk neg (val ds)) by
     refine⟨_,by rw[aFy _ _ hvz],?_⟩;rw[jL,HD.out,<- h];exact(HV.out.keep HB.out).take (j+1) hk)
    clear h h2 hvz
    go_wp2_with (with_reducible refine eT rfl (.tmp 4) (.tmp 28) rfl w.heap.size (.agg #[.bool neg,.slice (some ⟨b,off,none⟩) (j+1) cap]) _ rfl rfl HI.out HR.out ?_)
    exact aHe rfl rfl HR.out HI.out (aKs (HOF.out _ _ _ rfl)) HB.out (Nat.le_refl _)
theorem aW2 {ds:List Nat} (h:ds.length<=2):val ds=ds.getD 1 0*1000000000+ds.getD 0 0:=by
 have e1:=nT ds 1;have e0:=nT ds 0;rw[List.take_of_length_le (by omega)] at e1;rw[List.take_zero] at e0;rw[e1,e0];simp[val];omega
set_option maxRecDepth 100000 in
set_option maxHeartbeats 1000000 in
theorem zS (v:Value) (ds:List Nat) (w:World) (hv:aL w v ds) (hd:aP ds) (h2:ds.length<=2) :
  Calls Tryz.prog 212 #[v] w fun e w'=>e=.returned (.int .i64 ((val ds:Nat):Int))/\w=w':=by
 have H1:=hid (tY v ds 1 w hv);have H0:=hid (tY v ds 0 w hv);have d0:=hd.getD 0;have d1:=hd.getD 1;rw[aW2 h2];generalize ds.getD 0 0=x0 at *;generalize ds.getD 1 0=x1 at *;obtain⟨t,ht⟩:∃ t,t=x1*1000000000+x0:=⟨_,rfl⟩
 rw[<- ht];have hti:(x1:Int)*1000000000+(x0:Int)=(t:Int):=by omega
 have hx0:(x0:Int)<1000000000:=by omega
 have hx1:(x1:Int)<1000000000:=by omega
 clear hv hd h2 ht
 go_enter Tryz.func212,Tryz.ntmps212
 go_wp2_with fail
 refine H1.out.mono ?_;rintro e w' ⟨rfl,rfl⟩
 go_wp2_with fail
 refine H0.out.mono ?_;rintro e w' ⟨rfl,rfl⟩;go_wp2
 go_ret
 exact⟨rfl,rfl⟩
set_option maxRecDepth 100000 in
set_option maxHeartbeats 1000000 in
theorem qF (v:Value) (ds:List Nat) (k:Nat) (w:World) (hv:aL w v ds) (hd:aP ds) (hk:k<1000000000) (hl:ds.length<=1099511627000) :
  Calls Tryz.prog 229 #[v,.int .i64 (k:Int)] w (xM w (aA (val ds*k))):=by
 have HN:=hid (jW false v ds w hv hd);have hlv:len (mk false (val ds))<=1099511627000:=by
  show (aA (mk false (val ds)).natAbs).length<=_;rw[jL,nB hd];exact Nat.le_trans (aG7 ds) hl
 have HL:=hid hlv;clear hv hd hlv
 go_enter Tryz.func229,Tryz.ntmps229
 go_wp2_with fail
 refine HN.out.mono ?_;rintro e w1 ⟨v1,rfl,h1,hb1⟩;have H1:=hid h1;have HB1:=hid hb1;clear h1 hb1
 go_wp2_with fail
 refine(wL (k:Int) _ (by omega) (by omega)).mono ?_;rintro e w2 ⟨v2,rfl,h2,hb2⟩;have H2:=hid h2;have H1':=hid (H1.out.keep hb2);have HB2:=hid (Pu.aO HB1.out hb2);clear h2 hb2
 go_wp2_with fail
 refine(aHr v1 v2 _ _ _ H1'.out H2.out (Nat.le_trans HL.out (by decide)) (Nat.le_trans (fG.2 (show ((k:Int)).natAbs<1000000000^1 by rw[Nat.pow_one]; exact hk)) (by decide))).mono ?_;rintro e w3 ⟨v3,rfl,h3,hb3⟩;have HB3:=hid (Pu.aO HB2.out hb3);have e3:mk false (val ds)*(k:Int)=((val ds*k:Nat):Int):=by rw[Int.natCast_mul]; rfl
 rw[e3] at h3;obtain⟨s,rfl,hs⟩:=h3;obtain⟨so,sc,rfl,-⟩:=id hs;have HS:=hid (show aL w3 (.slice so (aA (val ds*k)).length sc) (aA (val ds*k)) from hs);clear hb3 hs;go_wp2
 go_ret
 exact⟨_,rfl,HS.out.keep ((Below.refl _ _).alloc (Nat.le_refl _) _),Pu.aO HB3.out ((Below.refl _ _).alloc (Nat.le_refl _) _)⟩
theorem aGz {w:World} {ops:Array Oper} {rest:List Oper} {o:Oper} {a:Act} {Q:Exit->Act->World->Prop} (hgd:o.guard=none) (s x:Operand)
  (ho:o.op=.call { callee:=.builtin .append,args:=#[s,x],argTypes:=#[22,22] })
  (g:Nat) (z:Int) (hs:a.eval s=.slice (some ⟨g,0,none⟩) 1 1) (hc:w.cell? ⟨g,0,none⟩=some (.int .i64 z)) (v:Value) (ds:List Nat) (hx:a.eval x=v) (hv:aL w v ds) (hl:ds.length<=1099511627776)
  (h:∀ v' w',Row .i64 w' v' (z::ds.map Int.ofNat)->Below w.heap.size w w'->wpList Tryz.prog ops Q rest (a.put o.dst v') w'):wpList Tryz.prog ops Q (o::rest) a w :=
 wpList_plain hgd fun _ hK=>aPj s x ho g z hs hc v ds hx hv hl fun v' w' h1 h2=>hK _ _ (h v' w' h1 h2)
theorem aCk {w:World} {v:Value} {ds:List Nat} (h:Row .i64 w v (ds.map Int.ofNat)):aL w v ds:=by
 obtain⟨ao,cap,rfl,h1,h2,h3⟩:=h;rw[List.length_map] at h1 h3;refine⟨ao,cap,by rw[List.length_map],h1,h2,fun hl=>?_⟩;obtain⟨b,off,rfl,hc⟩:=h3 hl;exact⟨b,off,rfl,fun i hi=>by rw[hc i hi,getD_map]⟩
def aGd (w:World) (m n:Nat) (e:Ending) (w':World):Prop:=∃ s t qs,e=.returned (.tuple #[s,t])/\aL w' s qs/\aP qs/\val qs=m/n/\aL w' t (aA (m%n))/\Below w.heap.size w w'
set_option maxRecDepth 100000 in
set_option maxHeartbeats 2000000 in
theorem aQu (va vb:Value) (m n:Nat) (w:World) (ha:aL w va (aA m)) (hb:aL w vb (aA n)) (hn:0<n) (h1:(aA m).length<=2) (h2:(aA n).length<=2) :
  Calls Tryz.prog 213 #[va,vb] w (aGd w m n):=by
 have hm8:=rZ h1;have hn8:=rZ h2;have HA:=hid ha;have HB:=hid hb;have HT1:=hid (fun w1 h=>zS va (aA m) w1 h (bF _) h1);have HT2:=hid (fun w1 h=>zS vb (aA n) w1 h (bF _) h2);rw[aX] at HT1 HT2;obtain⟨ao,ac,rfl,a1,a2,-⟩:=ha;obtain⟨bo,bc,rfl,b1,b2,-⟩:=hb;unfold maxLen at a2 b2;have h1i:((aA m).length:Int)<=2:=by omega
 have h2i:((aA n).length:Int)<=2:=by omega
 obtain⟨q,hq⟩:∃ q,q=m/n:=⟨_,rfl⟩
 obtain⟨r,hr⟩:∃ r,r=m%n:=⟨_,rfl⟩
 have hqb:q<=m:=by rw[hq]; exact Nat.div_le_self _ _
 have hrb:r<=m:=by rw[hr]; exact Nat.mod_le _ _
 have hqi:(m:Int)/(n:Int)=(q:Int):=by rw[hq,Int.natCast_ediv]
 have hqt:(m:Int).tdiv (n:Int)=(q:Int):=by rw[Int.tdiv_eq_ediv_of_nonneg (by omega)]; exact hqi
 have hri:(m:Int)%(n:Int)=(r:Int):=by rw[hr,Int.natCast_emod]
 have hrt:(m:Int).tmod (n:Int)=(r:Int):=by rw[Int.tmod_eq_emod_of_nonneg (by omega)]; exact hri
 have hnz:((n:Int)==0)=false:=by rw[beq_eq_false_iff_ne]; omega
 have hnn:¬ n=0:=by omega
 have hqb2:(q:Int)<=1000000000000000000:=by omega
 have hrb2:(r:Int)<=1000000000000000000:=by omega
 have HQ:=hid hq;have HR:=hid hr;have HQI:=hid (And.intro hqi hqt);have HRI:=hid (And.intro hri hrt);clear hq hr h1 h2 hqi hqt hri hrt hm8 hn8 hqb hrb
 go_enter Tryz.func213,Tryz.ntmps213
 go_wp2_with fail
 refine(HT1.out _ HA.out).mono ?_;rintro e w' ⟨rfl,rfl⟩
 go_wp2_with fail
 refine(HT2.out _ HB.out).mono ?_;rintro e w' ⟨rfl,rfl⟩;obtain⟨hqi,hqt⟩:=HQI.out
 go_wp2_with fail
 refine(wL (q:Int) _ (by omega) (by omega)).mono ?_;rintro e u1 ⟨v1,rfl,hv1,hb1⟩;have HV1:=hid hv1;have HB1:=hid hb1;clear hqi hqt hv1 hb1;have hv1:=HV1.out;obtain⟨c1,so1,n1,sc1,rfl⟩:=hv1.open;clear hv1
 go_upto_region 3 with fail
 obtain⟨W1,hW1⟩:∃ W1,W1=u1.alloc (Obj.cells #[Value.bool c1,.slice so1 n1 sc1] 28):=⟨_,rfl⟩
 have hb1:Below u1.heap.size u1 W1:=by rw[hW1]; exact(Below.refl _ _).alloc (Nat.le_refl _) _
 have C6:=hid (show W1.heap[u1.heap.size]?=some (.cells #[Value.bool c1,.slice so1 n1 sc1] 28 (0,0)) by rw[hW1]; exact heap_alloc_new u1 _);rw[<- hW1];have HBW1:=hid (Pu.aO HB1.out hb1);have HV6:=hid (HV1.out.keep hb1);generalize u1.heap.size=g6 at *;clear hW1 hb1 HV1 HB1
 go_wp2_with fail
 refine(HT1.out _ (HA.out.keep HBW1.out)).mono ?_;rintro e w' ⟨rfl,rfl⟩
 go_wp2_with fail
 refine(HT2.out _ (HB.out.keep HBW1.out)).mono ?_;rintro e w' ⟨rfl,rfl⟩;obtain⟨hri,hrt⟩:=HRI.out
 go_wp2_with fail
 refine(wL (r:Int) _ (by omega) (by omega)).mono ?_;rintro e u2 ⟨v2,rfl,hv2,hb2⟩;have HV2:=hid hv2;have HB2:=hid (Pu.aO HBW1.out hb2);have C6':=hid (bS hb2 C6.out);have HV6':=hid (HV6.out.keep hb2);clear hri hrt hv2 hb2 C6 HV6;have hv2:=HV2.out;obtain⟨c2,so2,n2,sc2,rfl⟩:=hv2.open;clear hv2
 go_upto_region 4 with fail
 obtain⟨W2,hW2⟩:∃ W2,W2=u2.alloc (Obj.cells #[Value.bool c2,.slice so2 n2 sc2] 28):=⟨_,rfl⟩
 have hb2:Below u2.heap.size u2 W2:=by rw[hW2]; exact(Below.refl _ _).alloc (Nat.le_refl _) _
 have C7:=hid (show W2.heap[u2.heap.size]?=some (.cells #[Value.bool c2,.slice so2 n2 sc2] 28 (0,0)) by rw[hW2]; exact heap_alloc_new u2 _);rw[<- hW2];have HBW2:=hid (Pu.aO HB2.out hb2);have c6:=(bQ (bS hb2 C6'.out)).2.1;have c7:=(bQ C7.out).2.1;have HQ6:=hid (HV6'.out.keep hb2);have HR7:=hid (HV2.out.keep hb2);generalize u2.heap.size=g7 at *;clear hW2 hb2 HV2 HB2 C6' HV6' C7
 go_region
 have HBE:=hid (HBW2.out.drew);have HQE:=hid (HQ6.out.keep (Below.refl W2.heap.size W2).drew);have HRE:=hid (HR7.out.keep (Below.refl W2.heap.size W2).drew);generalize W2.drew=W9 at *;clear c6 c7;go_wp2;go_ret2;obtain⟨s1,e1,h1⟩:=HQE.out;obtain⟨s2,e2,h2⟩:=HRE.out;cases e1;cases e2;exact⟨_,_,aA q,rfl,h1,bF _,by rw[aX]; exact HQ.out,by rw[<- HR.out]; exact h2,HBE.out⟩
def mS (m n:Nat) (w:World) (k:Nat) (v:Value) (wr:World):Prop :=
 ∃ R qs,aL wr v (aA R)/\Off (w.heap.size+1) v/\R<n/\qs.length=(aA m).length/\aP qs/\eL wr w.heap.size qs/\Below w.heap.size w wr/\val ((aA m).drop k)=n*val (qs.drop k)+R
theorem mS.start {m n:Nat} {w wr:World} (hn:0<n) (h1:bX wr w.heap.size (List.replicate (aA m).length 0)) (h2:Below w.heap.size w wr):mS m n w (aA m).length (.slice none 0 0) wr:=by
 refine⟨0,List.replicate (aA m).length 0,aL.nil (by decide),aD2 _,hn,by simp,aP.replicate _,eL.made h1,h2,?_⟩;rw[List.drop_length,List.drop_eq_nil_of_le (by simp)];simp[val]
theorem mS.fin {m n:Nat} {w wr:World} {v:Value} (hn:0<n) (h:mS m n w 0 v wr) (hm:(aA m).length<=maxLen) :
  ∃ qs,aL wr (.slice (some ⟨w.heap.size,0,none⟩) (aA m).length (aA m).length) qs/\aP qs/\val qs=m/n/\aL wr v (aA (m%n))/\Below w.heap.size w wr:=by
 obtain⟨R,qs,h1,h2,h3,h4,h5,h6,h7,h8⟩:=h;rw[List.drop_zero,List.drop_zero,aX] at h8;have h9:=h6.nums (aA m).length (by omega) hm;rw[h4] at h9;refine⟨qs,h9,h5,?_,?_,h7⟩
 ·rw[h8,Nat.mul_add_div hn,Nat.div_eq_of_lt h3,Nat.add_zero]
 ·rw[h8,Nat.mul_add_mod,Nat.mod_eq_of_lt h3];exact h1
set_option maxRecDepth 100000 in
set_option maxHeartbeats 8000000 in
theorem aP9 (va vb:Value) (m n:Nat) (w:World) (ha:aL w va (aA m)) (hb:aL w vb (aA n)) (hn:0<n) (hlong:¬ ((aA m).length<=2/\(aA n).length<=2)) (hlm:(aA m).length<=1099511620000) (hln:(aA n).length<=1099511620000) :
  Calls Tryz.prog 213 #[va,vb] w (aGd w m n):=by
 obtain⟨i0,hi,hz0,hz1,hz2⟩:=info_parts kR;have HNB:=hid hb;obtain⟨ao,ac,rfl,a1,a2,a3⟩:=ha;obtain⟨bo,bc,rfl,b1,b2,-⟩:=hb;have HA:=hid a3;unfold maxLen at a2 b2;have hcs:((aA m).length<=2/\¬ ((aA n).length<=2))\/¬ ((aA m).length<=2):=by omega
 clear a3 hlong;rcases hcs with ⟨h1,h2⟩ | h1
 ·have h1i:((aA m).length:Int)<=2:=by omega
  have h2i:¬ (((aA n).length:Int)<=2):=by omega
  clear h1 h2
  go_enter Tryz.func213,Tryz.ntmps213
  go_wp2_with (at_make; refine oX rfl (.tmp 41) (.tmp 41) rfl i0 hi hz0 hz1 hz2 fN _ _ (aA m).length rfl rfl (by omega) (by omega) (by omega) ?_)
  intro w1 hrow hbel hsz;have HC:=hid (mS.start (m:=m) hn hrow hbel);clear hrow hbel hsz;go_wp2
  go_loopw [9,10] (fun v i wr=>∃ k:Nat,k<=(aA m).length/\i=.int .i64 ((k:Int)-1)/\mS m n w k v wr) (fun _ i _=>(intOf i+1).toNat)
  case atStart=>exact⟨(aA m).length,Nat.le_refl _,rfl,HC.out⟩
  case round =>
   clear HC;obtain⟨k,hk,rfl,hrel⟩:=hrel;rcases Nat.eq_zero_or_pos k with h0 | h0
   ·subst h0;obtain⟨qs,f1,f2,f3,f4,f5⟩:=hrel.fin hn (by unfold maxLen; omega);have F:=hid (And.intro f1 (And.intro f2 (And.intro f3 (And.intro f4 f5))));clear f1 f2 f3 f4 f5 hrel;go_wp2;go_ret2;exact⟨_,_,qs,rfl,F.out.1,F.out.2.1,F.out.2.2.1,F.out.2.2.2.1,F.out.2.2.2.2⟩
   ·obtain⟨j,rfl⟩:∃ j,k=j+1:=⟨k-1,by omega⟩
    obtain⟨R,qs,hv,hoff,hR,hlq,hdq,hrow,hbel,hval⟩:=hrel;rw[show ((j+1:Nat):Int)-1=(j:Int) by omega];obtain⟨ab,aoff,rfl,hac⟩:=HA.out (by omega);have hcj:=keepCell hbel (hac j (by omega));obtain⟨d,hd⟩:∃ d,d=(aA m).getD j 0:=⟨_,rfl⟩
    have hd9:d<1000000000:=by rw[hd]; exact(bF m).getD j
    rw[<- hd] at hcj;obtain⟨X,hX⟩:∃ X,X=(aA m).getD j 0+1000000000*R:=⟨_,rfl⟩
    have hXB:X<1000000000*n:=by rw[hX,<- hd]; omega
    have hRl:(aA R).length<=(aA n).length:=dW (Nat.le_of_lt hR);have hXl:(aA X).length<=1099511627000:=by
     refine Nat.le_trans (dW (Nat.le_of_lt hXB)) (Nat.le_trans (aC2 _ _) ?_);rw[nC (show 0<1000000000 by decide),zN (show 0<1000000000/1000000000 by decide) (by decide)];simp only[List.length_cons,List.length_nil];omega
    have HV:=hid hv;have HLQ:=hid hlq;have HDQ:=hid hdq;have HROW:=hid hrow;have HBW:=hid hbel;have HVAL:=hid hval;have HX:=hid hX;have HXL:=hid hXl;have HDD:=hid hd;obtain⟨q,hq⟩:∃ q,q=X/n:=⟨_,rfl⟩
    have hq9:q<1000000000:=by rw[hq,Nat.div_lt_iff_lt_mul hn]; exact hXB
    have HQX:=hid hq;have HXB:=hid hXB;have HDR:=hid (show aP (d::aA R) from aP.cons hd9 (bF R));have HVX:=hid (show mk false (val (d::aA R))=(X:Int) by rw[hX,<- hd]; show ((d+1000000000*val (aA R):Nat):Int)=_; rw[aX]);have hRl2:(aA R).length<=1099511627776:=by omega
    clear hv hoff hlq hdq hrow hbel hval hX hXl hd hq hac hRl hXB hR
    go_wp2_with (at_builtin; refine aGz rfl (.tmp 54) (.tmp 55) rfl wr.heap.size (d:Int) rfl (by exact cell_of_row _ _ 0 _ _ _ (heap_alloc_new wr _)) _ (aA R) rfl (HV.out.keep ((Below.refl _ _).alloc (Nat.le_refl _) _)) hRl2 ?_)
    intro v2 w2 hrow2 hb2;have HN2:=hid (aCk (ds:=d::aA R) hrow2);have HB2:=hid (((Below.refl wr.heap.size wr).alloc (Nat.le_refl _) _).trans (hb2.mono (by simp)));clear hrow2 hb2
    go_wp2_with fail
    refine(jW false v2 (d::aA R) w2 HN2.out HDR.out).mono ?_;rintro e w3 ⟨v3,rfl,h3,hb3⟩;rw[HVX.out] at h3;obtain⟨s3,rfl,hs3⟩:=h3;have hs3:aL w3 s3 (aA X):=hs3;have hs30:=hs3;obtain⟨so,sc,rfl,-⟩:=hs30;have HS3:=hid hs3;have HB3:=hid (Pu.aO HB2.out hb3);clear hs3 hb3;generalize decide ((X:Int)<0)=bx at *
    go_upto_region 14 with fail
    obtain⟨W5,hW5⟩:∃ W5,W5=w3.alloc (Obj.cells #[Value.bool bx,.slice so (aA X).length sc] 28):=⟨_,rfl⟩
    have hb5:Below w3.heap.size w3 W5:=by rw[hW5]; exact(Below.refl _ _).alloc (Nat.le_refl _) _
    rw[<- hW5];have hwr:=Pu.aO HB3.out hb5;have HS5:=hid (HS3.out.keep hb5);have HBW5:=hid (Pu.aO HBW.out hwr);have HROW5:=hid (HROW.out.keep hwr);have HNB5:=hid (HNB.out.keep HBW5.out);have G5:=hid (show w.heap.size+1<=W5.heap.size from Nat.le_trans (bX.lt HROW.out) hwr.size);generalize hvs:(Value.slice so (aA X).length sc)=vs at *;clear hvs hW5 hb5 hwr HS3 HB3 HB2 HN2 HROW HBW HV hcj;have HCX:=hid (lD vs (.slice bo (aA n).length bc) X n W5 HS5.out HNB5.out);by_cases hxn:X<n
    ·have hcmp:bA (X:Int) (n:Int) = -1:=by unfold bA; rw[if_pos (by omega)]
     have hq0:q=0:=by rw[HQX.out]; exact Nat.div_eq_of_lt hxn
     rw[hcmp] at HCX;have HQ0:=hid hq0;clear hcmp hxn hq0
     go_wp2_with fail
     refine HCX.out.mono ?_;rintro e W5b ⟨rfl,hb5⟩;replace HS5:=hid (HS5.out.keep hb5);replace HBW5:=hid (Pu.aO HBW5.out hb5);replace HROW5:=hid (HROW5.out.keep hb5);replace HNB5:=hid (HNB5.out.keep hb5);replace G5:=hid (Nat.le_trans G5.out hb5.size);clear hb5 HCX;have hq0:q<=0:=by have:=HQ0.out; omega
     go_wp2
     go_loopw [12,13] (fun lo hi wr2=>∃ l h:Nat,lo=.int .i64 l/\hi=.int .i64 h/\l<=q/\q<=h/\h<=999999999/\Below W5b.heap.size W5b wr2) (fun lo hi _=>(intOf hi).toNat-(intOf lo).toNat)
     case atStart=>exact⟨0,0,rfl,rfl,Nat.zero_le _,by omega,by omega,Below.refl _ _⟩
     case round =>
      obtain⟨l,h,rfl,rfl,hl,hh,hh9,hbel⟩:=hrel;have HBI:=hid hbel;clear hbel;by_cases hlh:l<h
      ·obtain⟨md,hmd⟩:∃ md,md=(l+h+1)/2:=⟨_,rfl⟩
       have hm1:((l:Int)+(h:Int)+1)/2=(md:Int):=by omega
       have hm2:((l:Int)+(h:Int)+1).tdiv 2=(md:Int):=by rw[Int.tdiv_eq_ediv_of_nonneg (by omega)]; exact hm1
       have hlhi:(l:Int)<(h:Int):=by omega
       have hh9i:(h:Int)<=999999999:=by omega
       have hmdb:l<md/\md<=h:=by omega
       have HMD:=hid hmdb;have HHI:=hid (And.intro hl (And.intro hh hh9));have HTM:=hid (fun w1 h1=>qF (.slice bo (aA n).length bc) (aA n) md w1 h1 (bF _) (by omega) (by omega));rw[aX] at HTM;obtain⟨pr,hpr⟩:∃ pr,pr=n*md:=⟨_,rfl⟩
       rw[<- hpr] at HTM;have HPR:=hid hpr;clear hmd hmdb hl hh hh9 hpr
       go_wp2_with fail
       refine(HTM.out _ (HNB5.out.keep HBI.out)).mono ?_;rintro e u1 ⟨vt,rfl,ht,hbt⟩;have HT:=hid ht;have HBT:=hid (Pu.aO HBI.out hbt);clear ht hbt;by_cases hle:pr<=X
       ·have hq:md<=q:=by rw[HQX.out]; exact(Nat.le_div_iff_mul_le hn).2 (by rw[Nat.mul_comm,<- HPR.out]; exact hle)
        have HC:=hid (show decide (bA (pr:Int) (X:Int)<=0)=true by
         unfold bA;split
         ·rfl
         ·rw[if_neg (by omega)]; rfl)
        have HQ:=hid hq;clear hq hle
        go_wp2_with fail
        refine(lD vt vs pr X _ HT.out (HS5.out.keep HBT.out)).mono ?_;rintro e u2 ⟨rfl,hb2⟩;have HB2:=hid (Pu.aO HBT.out hb2);clear hb2;have hcc:=HC.out;go_wp2
        go_roundw
        case rel=>exact⟨md,h,rfl,rfl,HQ.out,HHI.out.2.1,HHI.out.2.2,HB2.out⟩
        case measure=>have:=HMD.out; simp[intOf]; omega
       ·have hq:q<md:=by
         refine Nat.lt_of_not_le fun h'=>hle ?_;rw[HQX.out] at h';have:=(Nat.le_div_iff_mul_le hn).1 h';rw[HPR.out,Nat.mul_comm]; exact this
        have HC:=hid (show decide (bA (pr:Int) (X:Int)<=0)=false by
         unfold bA;rw[if_neg (by omega),if_pos (by omega)];rfl)
        have HQ:=hid hq;clear hq hle
        go_wp2_with fail
        refine(lD vt vs pr X _ HT.out (HS5.out.keep HBT.out)).mono ?_;rintro e u2 ⟨rfl,hb2⟩;have HB2:=hid (Pu.aO HBT.out hb2);clear hb2;have hcc:=HC.out;go_wp2
        go_roundw
        case rel=>exact⟨l,md-1,rfl,by have:=HMD.out; congr 1; omega,HHI.out.1,by have:=HQ.out; omega,by have:=HMD.out; have:=HHI.out; omega,HB2.out⟩
        case measure=>have:=HMD.out; simp[intOf]; omega
      ·have hlq:l=q:=by omega
       have hlhi:¬ ((l:Int)<(h:Int)):=by omega
       subst hlq;have HTM:=hid (fun w1 h1=>qF (.slice bo (aA n).length bc) (aA n) l w1 h1 (bF _) (by omega) (by omega));rw[aX] at HTM;have hnl:n*l<=X:=by have h':=Nat.div_mul_le_self X n; rw[<- HQX.out,Nat.mul_comm] at h'; exact h'
       have hXl:(aA X).length<=1099511627000:=HXL.out;have HMN:=hid (fun w1 v2 h1 h2=>yT vs v2 (aA X) (aA (n*l)) w1 h1 h2 (bF _) (bF _) hXl (dW hnl) (by rw[aX,aX]; exact hnl));rw[aX,aX] at HMN;have HR':=hid (show X-n*l=X%n by have h':=Nat.div_add_mod X n; rw[<- HQX.out] at h'; omega);have hl9:l<1000000000:=by omega
       clear hnl hXl hl hh hh9
       go_wp2_with fail
       refine(HTM.out _ (HNB5.out.keep HBI.out)).mono ?_;rintro e u1 ⟨vt,rfl,ht,hbt⟩;have HT:=hid ht;have HBT:=hid (Pu.aO HBI.out hbt);clear ht hbt
       go_wp2_with fail
       refine(HMN.out _ vt (HS5.out.keep HBT.out) HT.out).mono ?_;rintro e u2 ⟨vm,ds,rfl,hm1,hm2,hm3,hm4,hb2⟩;have HB2:=hid (Pu.aO HBT.out hb2);have hgu:w.heap.size+1<=u1.heap.size:=Nat.le_trans G5.out HBT.out.size;have HM1:=hid hm1;have HM2:=hid hm2;have HM3:=hid hm3;have HM4:=hid (show Off (w.heap.size+1) vm from fun a n c e=>Nat.le_trans hgu (hm4 a n c e));clear hm1 hm2 hm3 hm4 hb2 hgu
       go_wp2_with fail
       refine(yV false vm ds _ (w.heap.size+1) HM4.out HM1.out HM2.out).mono ?_;rintro e u3 ⟨b3,s3,rfl,h3,ho3,hb3⟩;rw[HM3.out,HR'.out] at h3;obtain⟨s3',e3,hs3⟩:=h3;cases e3;have h0:(mk false (X%n)).natAbs=X%n:=jL _ _;rw[h0] at hs3;have hs30:=hs3;obtain⟨so3,sc3,rfl,-⟩:=hs30;have HS3:=hid hs3;have HO3:=hid ho3;have HB3:=hid (Pu.aO HB2.out hb3);clear hs3 ho3 hb3 h0
       go_upto_region 22 with fail
       generalize decide (mk false (X%n)<0)=bb at *;obtain⟨W6,hW6⟩:∃ W6,W6=u3.alloc (Obj.cells #[Value.bool bb,.slice so3 (aA (X%n)).length sc3] 28):=⟨_,rfl⟩
       have hb6:Below u3.heap.size u3 W6:=by rw[hW6]; exact(Below.refl _ _).alloc (Nat.le_refl _) _
       have hc6:W6.heap[u3.heap.size]?=some (.cells #[Value.bool bb,.slice so3 (aA (X%n)).length sc3] 28 (0,0)):=by rw[hW6]; exact heap_alloc_new u3 _
       rw[<- hW6];have HB6:=hid (Pu.aO HB3.out hb6);have HS6:=hid (HS3.out.keep hb6);have HC6:=hid hc6;have hg6:w.heap.size<u3.heap.size:=Nat.lt_of_lt_of_le (Nat.lt_of_succ_le G5.out) HB3.out.size;have hrow6:eL W6 w.heap.size qs:=bX.keep HROW5.out HB6.out;have hcell:=hrow6.cell (i:=j) (by have:=HLQ.out; omega);have hfz:=mW hrow6 j;have HROW6:=hid hrow6;generalize u3.heap.size=g6 at *;clear hW6 hb6 hc6 hrow6
       go_upto_region 23 with fail
       obtain⟨W7,hW7⟩:∃ W7,W7=W6.setCell ⟨w.heap.size,j,none⟩ (.int .i64 (l:Int)):=⟨_,rfl⟩
       rw[<- hW7];have hc7:=(bQ (show W7.heap[g6]?=some (.cells #[Value.bool bb,.slice so3 (aA (X%n)).length sc3] 28 (0,0)) by rw[hW7,heap_setCell_other _ _ _ _ (by simp; omega)]; exact HC6.out)).2.1;have hrel7:mS m n w j (.slice so3 (aA (X%n)).length sc3) W7:=by
        refine⟨X%n,qs.set j l,by rw[hW7]; exact HS6.out.aside HO3.out (Nat.lt_succ_self _) _ _,HO3.out,Nat.mod_lt _ hn,by have:=HLQ.out; simpa using this,HDQ.out.set _ _ hl9,by rw[hW7]; exact HROW6.out.store _ _ _ rfl,by rw[hW7]; exact(Pu.aO HBW5.out HB6.out).setCell (by simp) _,?_⟩;refine Dv.wG (by omega) (by have:=HLQ.out; omega) HVAL.out ?_;have h':=Nat.div_add_mod X n;rw[<- HQX.out] at h';rw[<- HX.out];exact h'.symm
       have HREL:=hid hrel7;clear hW7 hrel7 hcell hfz;go_wp2
       go_roundw
       case rel=>exact⟨j,by omega,rfl,HREL.out⟩
       case measure=>simp[intOf]
    ·have hcmp:¬ (bA (X:Int) (n:Int)<0):=by
      unfold bA;rw[if_neg (by omega)];split<;>omega
     generalize bA (X:Int) (n:Int)=cc at *;clear hxn
     go_wp2_with fail
     refine HCX.out.mono ?_;rintro e W5b ⟨rfl,hb5⟩;replace HS5:=hid (HS5.out.keep hb5);replace HBW5:=hid (Pu.aO HBW5.out hb5);replace HROW5:=hid (HROW5.out.keep hb5);replace HNB5:=hid (HNB5.out.keep hb5);replace G5:=hid (Nat.le_trans G5.out hb5.size);clear hb5 HCX;go_wp2
     go_loopw [12,13] (fun lo hi wr2=>∃ l h:Nat,lo=.int .i64 l/\hi=.int .i64 h/\l<=q/\q<=h/\h<=999999999/\Below W5b.heap.size W5b wr2) (fun lo hi _=>(intOf hi).toNat-(intOf lo).toNat)
     case atStart=>exact⟨0,999999999,rfl,rfl,Nat.zero_le _,by omega,by omega,Below.refl _ _⟩
     case round =>
      obtain⟨l,h,rfl,rfl,hl,hh,hh9,hbel⟩:=hrel;have HBI:=hid hbel;clear hbel;by_cases hlh:l<h
      ·obtain⟨md,hmd⟩:∃ md,md=(l+h+1)/2:=⟨_,rfl⟩
       have hm1:((l:Int)+(h:Int)+1)/2=(md:Int):=by omega
       have hm2:((l:Int)+(h:Int)+1).tdiv 2=(md:Int):=by rw[Int.tdiv_eq_ediv_of_nonneg (by omega)]; exact hm1
       have hlhi:(l:Int)<(h:Int):=by omega
       have hh9i:(h:Int)<=999999999:=by omega
       have hmdb:l<md/\md<=h:=by omega
       have HMD:=hid hmdb;have HHI:=hid (And.intro hl (And.intro hh hh9));have HTM:=hid (fun w1 h1=>qF (.slice bo (aA n).length bc) (aA n) md w1 h1 (bF _) (by omega) (by omega));rw[aX] at HTM;obtain⟨pr,hpr⟩:∃ pr,pr=n*md:=⟨_,rfl⟩
       rw[<- hpr] at HTM;have HPR:=hid hpr;clear hmd hmdb hl hh hh9 hpr
       go_wp2_with fail
       refine(HTM.out _ (HNB5.out.keep HBI.out)).mono ?_;rintro e u1 ⟨vt,rfl,ht,hbt⟩;have HT:=hid ht;have HBT:=hid (Pu.aO HBI.out hbt);clear ht hbt;by_cases hle:pr<=X
       ·have hq:md<=q:=by rw[HQX.out]; exact(Nat.le_div_iff_mul_le hn).2 (by rw[Nat.mul_comm,<- HPR.out]; exact hle)
        have HC:=hid (show decide (bA (pr:Int) (X:Int)<=0)=true by
         unfold bA;split
         ·rfl
         ·rw[if_neg (by omega)]; rfl)
        have HQ:=hid hq;clear hq hle
        go_wp2_with fail
        refine(lD vt vs pr X _ HT.out (HS5.out.keep HBT.out)).mono ?_;rintro e u2 ⟨rfl,hb2⟩;have HB2:=hid (Pu.aO HBT.out hb2);clear hb2;have hcc:=HC.out;go_wp2
        go_roundw
        case rel=>exact⟨md,h,rfl,rfl,HQ.out,HHI.out.2.1,HHI.out.2.2,HB2.out⟩
        case measure=>have:=HMD.out; simp[intOf]; omega
       ·have hq:q<md:=by
         refine Nat.lt_of_not_le fun h'=>hle ?_;rw[HQX.out] at h';have:=(Nat.le_div_iff_mul_le hn).1 h';rw[HPR.out,Nat.mul_comm]; exact this
        have HC:=hid (show decide (bA (pr:Int) (X:Int)<=0)=false by
         unfold bA;rw[if_neg (by omega),if_pos (by omega)];rfl)
        have HQ:=hid hq;clear hq hle
        go_wp2_with fail
        refine(lD vt vs pr X _ HT.out (HS5.out.keep HBT.out)).mono ?_;rintro e u2 ⟨rfl,hb2⟩;have HB2:=hid (Pu.aO HBT.out hb2);clear hb2;have hcc:=HC.out;go_wp2
        go_roundw
        case rel=>exact⟨l,md-1,rfl,by have:=HMD.out; congr 1; omega,HHI.out.1,by have:=HQ.out; omega,by have:=HMD.out; have:=HHI.out; omega,HB2.out⟩
        case measure=>have:=HMD.out; simp[intOf]; omega
      ·have hlq:l=q:=by omega
       have hlhi:¬ ((l:Int)<(h:Int)):=by omega
       subst hlq;have HTM:=hid (fun w1 h1=>qF (.slice bo (aA n).length bc) (aA n) l w1 h1 (bF _) (by omega) (by omega));rw[aX] at HTM;have hnl:n*l<=X:=by have h':=Nat.div_mul_le_self X n; rw[<- HQX.out,Nat.mul_comm] at h'; exact h'
       have hXl:(aA X).length<=1099511627000:=HXL.out;have HMN:=hid (fun w1 v2 h1 h2=>yT vs v2 (aA X) (aA (n*l)) w1 h1 h2 (bF _) (bF _) hXl (dW hnl) (by rw[aX,aX]; exact hnl));rw[aX,aX] at HMN;have HR':=hid (show X-n*l=X%n by have h':=Nat.div_add_mod X n; rw[<- HQX.out] at h'; omega);have hl9:l<1000000000:=by omega
       clear hnl hXl hl hh hh9
       go_wp2_with fail
       refine(HTM.out _ (HNB5.out.keep HBI.out)).mono ?_;rintro e u1 ⟨vt,rfl,ht,hbt⟩;have HT:=hid ht;have HBT:=hid (Pu.aO HBI.out hbt);clear ht hbt
       go_wp2_with fail
       refine(HMN.out _ vt (HS5.out.keep HBT.out) HT.out).mono ?_;rintro e u2 ⟨vm,ds,rfl,hm1,hm2,hm3,hm4,hb2⟩;have HB2:=hid (Pu.aO HBT.out hb2);have hgu:w.heap.size+1<=u1.heap.size:=Nat.le_trans G5.out HBT.out.size;have HM1:=hid hm1;have HM2:=hid hm2;have HM3:=hid hm3;have HM4:=hid (show Off (w.heap.size+1) vm from fun a n c e=>Nat.le_trans hgu (hm4 a n c e));clear hm1 hm2 hm3 hm4 hb2 hgu
       go_wp2_with fail
       refine(yV false vm ds _ (w.heap.size+1) HM4.out HM1.out HM2.out).mono ?_;rintro e u3 ⟨b3,s3,rfl,h3,ho3,hb3⟩;rw[HM3.out,HR'.out] at h3;obtain⟨s3',e3,hs3⟩:=h3;cases e3;have h0:(mk false (X%n)).natAbs=X%n:=jL _ _;rw[h0] at hs3;have hs30:=hs3;obtain⟨so3,sc3,rfl,-⟩:=hs30;have HS3:=hid hs3;have HO3:=hid ho3;have HB3:=hid (Pu.aO HB2.out hb3);clear hs3 ho3 hb3 h0
       go_upto_region 22 with fail
       generalize decide (mk false (X%n)<0)=bb at *;obtain⟨W6,hW6⟩:∃ W6,W6=u3.alloc (Obj.cells #[Value.bool bb,.slice so3 (aA (X%n)).length sc3] 28):=⟨_,rfl⟩
       have hb6:Below u3.heap.size u3 W6:=by rw[hW6]; exact(Below.refl _ _).alloc (Nat.le_refl _) _
       have hc6:W6.heap[u3.heap.size]?=some (.cells #[Value.bool bb,.slice so3 (aA (X%n)).length sc3] 28 (0,0)):=by rw[hW6]; exact heap_alloc_new u3 _
       rw[<- hW6];have HB6:=hid (Pu.aO HB3.out hb6);have HS6:=hid (HS3.out.keep hb6);have HC6:=hid hc6;have hg6:w.heap.size<u3.heap.size:=Nat.lt_of_lt_of_le (Nat.lt_of_succ_le G5.out) HB3.out.size;have hrow6:eL W6 w.heap.size qs:=bX.keep HROW5.out HB6.out;have hcell:=hrow6.cell (i:=j) (by have:=HLQ.out; omega);have hfz:=mW hrow6 j;have HROW6:=hid hrow6;generalize u3.heap.size=g6 at *;clear hW6 hb6 hc6 hrow6
       go_upto_region 23 with fail
       obtain⟨W7,hW7⟩:∃ W7,W7=W6.setCell ⟨w.heap.size,j,none⟩ (.int .i64 (l:Int)):=⟨_,rfl⟩
       rw[<- hW7];have hc7:=(bQ (show W7.heap[g6]?=some (.cells #[Value.bool bb,.slice so3 (aA (X%n)).length sc3] 28 (0,0)) by rw[hW7,heap_setCell_other _ _ _ _ (by simp; omega)]; exact HC6.out)).2.1;have hrel7:mS m n w j (.slice so3 (aA (X%n)).length sc3) W7:=by
        refine⟨X%n,qs.set j l,by rw[hW7]; exact HS6.out.aside HO3.out (Nat.lt_succ_self _) _ _,HO3.out,Nat.mod_lt _ hn,by have:=HLQ.out; simpa using this,HDQ.out.set _ _ hl9,by rw[hW7]; exact HROW6.out.store _ _ _ rfl,by rw[hW7]; exact(Pu.aO HBW5.out HB6.out).setCell (by simp) _,?_⟩;refine Dv.wG (by omega) (by have:=HLQ.out; omega) HVAL.out ?_;have h':=Nat.div_add_mod X n;rw[<- HQX.out] at h';rw[<- HX.out];exact h'.symm
       have HREL:=hid hrel7;clear hW7 hrel7 hcell hfz;go_wp2
       go_roundw
       case rel=>exact⟨j,by omega,rfl,HREL.out⟩
       case measure=>simp[intOf]
 ·have h1i:¬ (((aA m).length:Int)<=2):=by omega
  clear h1
  go_enter Tryz.func213,Tryz.ntmps213
  go_wp2_with (at_make; refine oX rfl (.tmp 41) (.tmp 41) rfl i0 hi hz0 hz1 hz2 fN _ _ (aA m).length rfl rfl (by omega) (by omega) (by omega) ?_)
  intro w1 hrow hbel hsz;have HC:=hid (mS.start (m:=m) hn hrow hbel);clear hrow hbel hsz;go_wp2
  go_loopw [9,10] (fun v i wr=>∃ k:Nat,k<=(aA m).length/\i=.int .i64 ((k:Int)-1)/\mS m n w k v wr) (fun _ i _=>(intOf i+1).toNat)
  case atStart=>exact⟨(aA m).length,Nat.le_refl _,rfl,HC.out⟩
  case round =>
   clear HC;obtain⟨k,hk,rfl,hrel⟩:=hrel;rcases Nat.eq_zero_or_pos k with h0 | h0
   ·subst h0;obtain⟨qs,f1,f2,f3,f4,f5⟩:=hrel.fin hn (by unfold maxLen; omega);have F:=hid (And.intro f1 (And.intro f2 (And.intro f3 (And.intro f4 f5))));clear f1 f2 f3 f4 f5 hrel;go_wp2;go_ret2;exact⟨_,_,qs,rfl,F.out.1,F.out.2.1,F.out.2.2.1,F.out.2.2.2.1,F.out.2.2.2.2⟩
   ·obtain⟨j,rfl⟩:∃ j,k=j+1:=⟨k-1,by omega⟩
    obtain⟨R,qs,hv,hoff,hR,hlq,hdq,hrow,hbel,hval⟩:=hrel;rw[show ((j+1:Nat):Int)-1=(j:Int) by omega];obtain⟨ab,aoff,rfl,hac⟩:=HA.out (by omega);have hcj:=keepCell hbel (hac j (by omega));obtain⟨d,hd⟩:∃ d,d=(aA m).getD j 0:=⟨_,rfl⟩
    have hd9:d<1000000000:=by rw[hd]; exact(bF m).getD j
    rw[<- hd] at hcj;obtain⟨X,hX⟩:∃ X,X=(aA m).getD j 0+1000000000*R:=⟨_,rfl⟩
    have hXB:X<1000000000*n:=by rw[hX,<- hd]; omega
    have hRl:(aA R).length<=(aA n).length:=dW (Nat.le_of_lt hR);have hXl:(aA X).length<=1099511627000:=by
     refine Nat.le_trans (dW (Nat.le_of_lt hXB)) (Nat.le_trans (aC2 _ _) ?_);rw[nC (show 0<1000000000 by decide),zN (show 0<1000000000/1000000000 by decide) (by decide)];simp only[List.length_cons,List.length_nil];omega
    have HV:=hid hv;have HLQ:=hid hlq;have HDQ:=hid hdq;have HROW:=hid hrow;have HBW:=hid hbel;have HVAL:=hid hval;have HX:=hid hX;have HXL:=hid hXl;have HDD:=hid hd;obtain⟨q,hq⟩:∃ q,q=X/n:=⟨_,rfl⟩
    have hq9:q<1000000000:=by rw[hq,Nat.div_lt_iff_lt_mul hn]; exact hXB
    have HQX:=hid hq;have HXB:=hid hXB;have HDR:=hid (show aP (d::aA R) from aP.cons hd9 (bF R));have HVX:=hid (show mk false (val (d::aA R))=(X:Int) by rw[hX,<- hd]; show ((d+1000000000*val (aA R):Nat):Int)=_; rw[aX]);have hRl2:(aA R).length<=1099511627776:=by omega
    clear hv hoff hlq hdq hrow hbel hval hX hXl hd hq hac hRl hXB hR
    go_wp2_with (at_builtin; refine aGz rfl (.tmp 54) (.tmp 55) rfl wr.heap.size (d:Int) rfl (by exact cell_of_row _ _ 0 _ _ _ (heap_alloc_new wr _)) _ (aA R) rfl (HV.out.keep ((Below.refl _ _).alloc (Nat.le_refl _) _)) hRl2 ?_)
    intro v2 w2 hrow2 hb2;have HN2:=hid (aCk (ds:=d::aA R) hrow2);have HB2:=hid (((Below.refl wr.heap.size wr).alloc (Nat.le_refl _) _).trans (hb2.mono (by simp)));clear hrow2 hb2
    go_wp2_with fail
    refine(jW false v2 (d::aA R) w2 HN2.out HDR.out).mono ?_;rintro e w3 ⟨v3,rfl,h3,hb3⟩;rw[HVX.out] at h3;obtain⟨s3,rfl,hs3⟩:=h3;have hs3:aL w3 s3 (aA X):=hs3;have hs30:=hs3;obtain⟨so,sc,rfl,-⟩:=hs30;have HS3:=hid hs3;have HB3:=hid (Pu.aO HB2.out hb3);clear hs3 hb3;generalize decide ((X:Int)<0)=bx at *
    go_upto_region 14 with fail
    obtain⟨W5,hW5⟩:∃ W5,W5=w3.alloc (Obj.cells #[Value.bool bx,.slice so (aA X).length sc] 28):=⟨_,rfl⟩
    have hb5:Below w3.heap.size w3 W5:=by rw[hW5]; exact(Below.refl _ _).alloc (Nat.le_refl _) _
    rw[<- hW5];have hwr:=Pu.aO HB3.out hb5;have HS5:=hid (HS3.out.keep hb5);have HBW5:=hid (Pu.aO HBW.out hwr);have HROW5:=hid (HROW.out.keep hwr);have HNB5:=hid (HNB.out.keep HBW5.out);have G5:=hid (show w.heap.size+1<=W5.heap.size from Nat.le_trans (bX.lt HROW.out) hwr.size);generalize hvs:(Value.slice so (aA X).length sc)=vs at *;clear hvs hW5 hb5 hwr HS3 HB3 HB2 HN2 HROW HBW HV hcj;have HCX:=hid (lD vs (.slice bo (aA n).length bc) X n W5 HS5.out HNB5.out);by_cases hxn:X<n
    ·have hcmp:bA (X:Int) (n:Int) = -1:=by unfold bA; rw[if_pos (by omega)]
     have hq0:q=0:=by rw[HQX.out]; exact Nat.div_eq_of_lt hxn
     rw[hcmp] at HCX;have HQ0:=hid hq0;clear hcmp hxn hq0
     go_wp2_with fail
     refine HCX.out.mono ?_;rintro e W5b ⟨rfl,hb5⟩;replace HS5:=hid (HS5.out.keep hb5);replace HBW5:=hid (Pu.aO HBW5.out hb5);replace HROW5:=hid (HROW5.out.keep hb5);replace HNB5:=hid (HNB5.out.keep hb5);replace G5:=hid (Nat.le_trans G5.out hb5.size);clear hb5 HCX;have hq0:q<=0:=by have:=HQ0.out; omega
     go_wp2
     go_loopw [12,13] (fun lo hi wr2=>∃ l h:Nat,lo=.int .i64 l/\hi=.int .i64 h/\l<=q/\q<=h/\h<=999999999/\Below W5b.heap.size W5b wr2) (fun lo hi _=>(intOf hi).toNat-(intOf lo).toNat)
     case atStart=>exact⟨0,0,rfl,rfl,Nat.zero_le _,by omega,by omega,Below.refl _ _⟩
     case round =>
      obtain⟨l,h,rfl,rfl,hl,hh,hh9,hbel⟩:=hrel;have HBI:=hid hbel;clear hbel;by_cases hlh:l<h
      ·obtain⟨md,hmd⟩:∃ md,md=(l+h+1)/2:=⟨_,rfl⟩
       have hm1:((l:Int)+(h:Int)+1)/2=(md:Int):=by omega
       have hm2:((l:Int)+(h:Int)+1).tdiv 2=(md:Int):=by rw[Int.tdiv_eq_ediv_of_nonneg (by omega)]; exact hm1
       have hlhi:(l:Int)<(h:Int):=by omega
       have hh9i:(h:Int)<=999999999:=by omega
       have hmdb:l<md/\md<=h:=by omega
       have HMD:=hid hmdb;have HHI:=hid (And.intro hl (And.intro hh hh9));have HTM:=hid (fun w1 h1=>qF (.slice bo (aA n).length bc) (aA n) md w1 h1 (bF _) (by omega) (by omega));rw[aX] at HTM;obtain⟨pr,hpr⟩:∃ pr,pr=n*md:=⟨_,rfl⟩
       rw[<- hpr] at HTM;have HPR:=hid hpr;clear hmd hmdb hl hh hh9 hpr
       go_wp2_with fail
       refine(HTM.out _ (HNB5.out.keep HBI.out)).mono ?_;rintro e u1 ⟨vt,rfl,ht,hbt⟩;have HT:=hid ht;have HBT:=hid (Pu.aO HBI.out hbt);clear ht hbt;by_cases hle:pr<=X
       ·have hq:md<=q:=by rw[HQX.out]; exact(Nat.le_div_iff_mul_le hn).2 (by rw[Nat.mul_comm,<- HPR.out]; exact hle)
        have HC:=hid (show decide (bA (pr:Int) (X:Int)<=0)=true by
         unfold bA;split
         ·rfl
         ·rw[if_neg (by omega)]; rfl)
        have HQ:=hid hq;clear hq hle
        go_wp2_with fail
        refine(lD vt vs pr X _ HT.out (HS5.out.keep HBT.out)).mono ?_;rintro e u2 ⟨rfl,hb2⟩;have HB2:=hid (Pu.aO HBT.out hb2);clear hb2;have hcc:=HC.out;go_wp2
        go_roundw
        case rel=>exact⟨md,h,rfl,rfl,HQ.out,HHI.out.2.1,HHI.out.2.2,HB2.out⟩
        case measure=>have:=HMD.out; simp[intOf]; omega
       ·have hq:q<md:=by
         refine Nat.lt_of_not_le fun h'=>hle ?_;rw[HQX.out] at h';have:=(Nat.le_div_iff_mul_le hn).1 h';rw[HPR.out,Nat.mul_comm]; exact this
        have HC:=hid (show decide (bA (pr:Int) (X:Int)<=0)=false by
         unfold bA;rw[if_neg (by omega),if_pos (by omega)];rfl)
        have HQ:=hid hq;clear hq hle
        go_wp2_with fail
        refine(lD vt vs pr X _ HT.out (HS5.out.keep HBT.out)).mono ?_;rintro e u2 ⟨rfl,hb2⟩;have HB2:=hid (Pu.aO HBT.out hb2);clear hb2;have hcc:=HC.out;go_wp2
        go_roundw
        case rel=>exact⟨l,md-1,rfl,by have:=HMD.out; congr 1; omega,HHI.out.1,by have:=HQ.out; omega,by have:=HMD.out; have:=HHI.out; omega,HB2.out⟩
        case measure=>have:=HMD.out; simp[intOf]; omega
      ·have hlq:l=q:=by omega
       have hlhi:¬ ((l:Int)<(h:Int)):=by omega
       subst hlq;have HTM:=hid (fun w1 h1=>qF (.slice bo (aA n).length bc) (aA n) l w1 h1 (bF _) (by omega) (by omega));rw[aX] at HTM;have hnl:n*l<=X:=by have h':=Nat.div_mul_le_self X n; rw[<- HQX.out,Nat.mul_comm] at h'; exact h'
       have hXl:(aA X).length<=1099511627000:=HXL.out;have HMN:=hid (fun w1 v2 h1 h2=>yT vs v2 (aA X) (aA (n*l)) w1 h1 h2 (bF _) (bF _) hXl (dW hnl) (by rw[aX,aX]; exact hnl));rw[aX,aX] at HMN;have HR':=hid (show X-n*l=X%n by have h':=Nat.div_add_mod X n; rw[<- HQX.out] at h'; omega);have hl9:l<1000000000:=by omega
       clear hnl hXl hl hh hh9
       go_wp2_with fail
       refine(HTM.out _ (HNB5.out.keep HBI.out)).mono ?_;rintro e u1 ⟨vt,rfl,ht,hbt⟩;have HT:=hid ht;have HBT:=hid (Pu.aO HBI.out hbt);clear ht hbt
       go_wp2_with fail
       refine(HMN.out _ vt (HS5.out.keep HBT.out) HT.out).mono ?_;rintro e u2 ⟨vm,ds,rfl,hm1,hm2,hm3,hm4,hb2⟩;have HB2:=hid (Pu.aO HBT.out hb2);have hgu:w.heap.size+1<=u1.heap.size:=Nat.le_trans G5.out HBT.out.size;have HM1:=hid hm1;have HM2:=hid hm2;have HM3:=hid hm3;have HM4:=hid (show Off (w.heap.size+1) vm from fun a n c e=>Nat.le_trans hgu (hm4 a n c e));clear hm1 hm2 hm3 hm4 hb2 hgu
       go_wp2_with fail
       refine(yV false vm ds _ (w.heap.size+1) HM4.out HM1.out HM2.out).mono ?_;rintro e u3 ⟨b3,s3,rfl,h3,ho3,hb3⟩;rw[HM3.out,HR'.out] at h3;obtain⟨s3',e3,hs3⟩:=h3;cases e3;have h0:(mk false (X%n)).natAbs=X%n:=jL _ _;rw[h0] at hs3;have hs30:=hs3;obtain⟨so3,sc3,rfl,-⟩:=hs30;have HS3:=hid hs3;have HO3:=hid ho3;have HB3:=hid (Pu.aO HB2.out hb3);clear hs3 ho3 hb3 h0
       go_upto_region 22 with fail
       generalize decide (mk false (X%n)<0)=bb at *;obtain⟨W6,hW6⟩:∃ W6,W6=u3.alloc (Obj.cells #[Value.bool bb,.slice so3 (aA (X%n)).length sc3] 28):=⟨_,rfl⟩
       have hb6:Below u3.heap.size u3 W6:=by rw[hW6]; exact(Below.refl _ _).alloc (Nat.le_refl _) _
       have hc6:W6.heap[u3.heap.size]?=some (.cells #[Value.bool bb,.slice so3 (aA (X%n)).length sc3] 28 (0,0)):=by rw[hW6]; exact heap_alloc_new u3 _
       rw[<- hW6];have HB6:=hid (Pu.aO HB3.out hb6);have HS6:=hid (HS3.out.keep hb6);have HC6:=hid hc6;have hg6:w.heap.size<u3.heap.size:=Nat.lt_of_lt_of_le (Nat.lt_of_succ_le G5.out) HB3.out.size;have hrow6:eL W6 w.heap.size qs:=bX.keep HROW5.out HB6.out;have hcell:=hrow6.cell (i:=j) (by have:=HLQ.out; omega);have hfz:=mW hrow6 j;have HROW6:=hid hrow6;generalize u3.heap.size=g6 at *;clear hW6 hb6 hc6 hrow6
       go_upto_region 23 with fail
       obtain⟨W7,hW7⟩:∃ W7,W7=W6.setCell ⟨w.heap.size,j,none⟩ (.int .i64 (l:Int)):=⟨_,rfl⟩
       rw[<- hW7];have hc7:=(bQ (show W7.heap[g6]?=some (.cells #[Value.bool bb,.slice so3 (aA (X%n)).length sc3] 28 (0,0)) by rw[hW7,heap_setCell_other _ _ _ _ (by simp; omega)]; exact HC6.out)).2.1;have hrel7:mS m n w j (.slice so3 (aA (X%n)).length sc3) W7:=by
        refine⟨X%n,qs.set j l,by rw[hW7]; exact HS6.out.aside HO3.out (Nat.lt_succ_self _) _ _,HO3.out,Nat.mod_lt _ hn,by have:=HLQ.out; simpa using this,HDQ.out.set _ _ hl9,by rw[hW7]; exact HROW6.out.store _ _ _ rfl,by rw[hW7]; exact(Pu.aO HBW5.out HB6.out).setCell (by simp) _,?_⟩;refine Dv.wG (by omega) (by have:=HLQ.out; omega) HVAL.out ?_;have h':=Nat.div_add_mod X n;rw[<- HQX.out] at h';rw[<- HX.out];exact h'.symm
       have HREL:=hid hrel7;clear hW7 hrel7 hcell hfz;go_wp2
       go_roundw
       case rel=>exact⟨j,by omega,rfl,HREL.out⟩
       case measure=>simp[intOf]
    ·have hcmp:¬ (bA (X:Int) (n:Int)<0):=by
      unfold bA;rw[if_neg (by omega)];split<;>omega
     generalize bA (X:Int) (n:Int)=cc at *;clear hxn
     go_wp2_with fail
     refine HCX.out.mono ?_;rintro e W5b ⟨rfl,hb5⟩;replace HS5:=hid (HS5.out.keep hb5);replace HBW5:=hid (Pu.aO HBW5.out hb5);replace HROW5:=hid (HROW5.out.keep hb5);replace HNB5:=hid (HNB5.out.keep hb5);replace G5:=hid (Nat.le_trans G5.out hb5.size);clear hb5 HCX;go_wp2
     go_loopw [12,13] (fun lo hi wr2=>∃ l h:Nat,lo=.int .i64 l/\hi=.int .i64 h/\l<=q/\q<=h/\h<=999999999/\Below W5b.heap.size W5b wr2) (fun lo hi _=>(intOf hi).toNat-(intOf lo).toNat)
     case atStart=>exact⟨0,999999999,rfl,rfl,Nat.zero_le _,by omega,by omega,Below.refl _ _⟩
     case round =>
      obtain⟨l,h,rfl,rfl,hl,hh,hh9,hbel⟩:=hrel;have HBI:=hid hbel;clear hbel;by_cases hlh:l<h
      ·obtain⟨md,hmd⟩:∃ md,md=(l+h+1)/2:=⟨_,rfl⟩
       have hm1:((l:Int)+(h:Int)+1)/2=(md:Int):=by omega
       have hm2:((l:Int)+(h:Int)+1).tdiv 2=(md:Int):=by rw[Int.tdiv_eq_ediv_of_nonneg (by omega)]; exact hm1
       have hlhi:(l:Int)<(h:Int):=by omega
       have hh9i:(h:Int)<=999999999:=by omega
       have hmdb:l<md/\md<=h:=by omega
       have HMD:=hid hmdb;have HHI:=hid (And.intro hl (And.intro hh hh9));have HTM:=hid (fun w1 h1=>qF (.slice bo (aA n).length bc) (aA n) md w1 h1 (bF _) (by omega) (by omega));rw[aX] at HTM;obtain⟨pr,hpr⟩:∃ pr,pr=n*md:=⟨_,rfl⟩
       rw[<- hpr] at HTM;have HPR:=hid hpr;clear hmd hmdb hl hh hh9 hpr
       go_wp2_with fail
       refine(HTM.out _ (HNB5.out.keep HBI.out)).mono ?_;rintro e u1 ⟨vt,rfl,ht,hbt⟩;have HT:=hid ht;have HBT:=hid (Pu.aO HBI.out hbt);clear ht hbt;by_cases hle:pr<=X
       ·have hq:md<=q:=by rw[HQX.out]; exact(Nat.le_div_iff_mul_le hn).2 (by rw[Nat.mul_comm,<- HPR.out]; exact hle)
        have HC:=hid (show decide (bA (pr:Int) (X:Int)<=0)=true by
         unfold bA;split
         ·rfl
         ·rw[if_neg (by omega)]; rfl)
        have HQ:=hid hq;clear hq hle
        go_wp2_with fail
        refine(lD vt vs pr X _ HT.out (HS5.out.keep HBT.out)).mono ?_;rintro e u2 ⟨rfl,hb2⟩;have HB2:=hid (Pu.aO HBT.out hb2);clear hb2;have hcc:=HC.out;go_wp2
        go_roundw
        case rel=>exact⟨md,h,rfl,rfl,HQ.out,HHI.out.2.1,HHI.out.2.2,HB2.out⟩
        case measure=>have:=HMD.out; simp[intOf]; omega
       ·have hq:q<md:=by
         refine Nat.lt_of_not_le fun h'=>hle ?_;rw[HQX.out] at h';have:=(Nat.le_div_iff_mul_le hn).1 h';rw[HPR.out,Nat.mul_comm]; exact this
        have HC:=hid (show decide (bA (pr:Int) (X:Int)<=0)=false by
         unfold bA;rw[if_neg (by omega),if_pos (by omega)];rfl)
        have HQ:=hid hq;clear hq hle
        go_wp2_with fail
        refine(lD vt vs pr X _ HT.out (HS5.out.keep HBT.out)).mono ?_;rintro e u2 ⟨rfl,hb2⟩;have HB2:=hid (Pu.aO HBT.out hb2);clear hb2;have hcc:=HC.out;go_wp2
        go_roundw
        case rel=>exact⟨l,md-1,rfl,by have:=HMD.out; congr 1; omega,HHI.out.1,by have:=HQ.out; omega,by have:=HMD.out; have:=HHI.out; omega,HB2.out⟩
        case measure=>have:=HMD.out; simp[intOf]; omega
      ·have hlq:l=q:=by omega
       have hlhi:¬ ((l:Int)<(h:Int)):=by omega
       subst hlq;have HTM:=hid (fun w1 h1=>qF (.slice bo (aA n).length bc) (aA n) l w1 h1 (bF _) (by omega) (by omega));rw[aX] at HTM;have hnl:n*l<=X:=by have h':=Nat.div_mul_le_self X n; rw[<- HQX.out,Nat.mul_comm] at h'; exact h'
       have hXl:(aA X).length<=1099511627000:=HXL.out;have HMN:=hid (fun w1 v2 h1 h2=>yT vs v2 (aA X) (aA (n*l)) w1 h1 h2 (bF _) (bF _) hXl (dW hnl) (by rw[aX,aX]; exact hnl));rw[aX,aX] at HMN;have HR':=hid (show X-n*l=X%n by have h':=Nat.div_add_mod X n; rw[<- HQX.out] at h'; omega);have hl9:l<1000000000:=by omega
       clear hnl hXl hl hh hh9
       go_wp2_with fail
       refine(HTM.out _ (HNB5.out.keep HBI.out)).mono ?_;rintro e u1 ⟨vt,rfl,ht,hbt⟩;have HT:=hid ht;have HBT:=hid (Pu.aO HBI.out hbt);clear ht hbt
       go_wp2_with fail
       refine(HMN.out _ vt (HS5.out.keep HBT.out) HT.out).mono ?_;rintro e u2 ⟨vm,ds,rfl,hm1,hm2,hm3,hm4,hb2⟩;have HB2:=hid (Pu.aO HBT.out hb2);have hgu:w.heap.size+1<=u1.heap.size:=Nat.le_trans G5.out HBT.out.size;have HM1:=hid hm1;have HM2:=hid hm2;have HM3:=hid hm3;have HM4:=hid (show Off (w.heap.size+1) vm from fun a n c e=>Nat.le_trans hgu (hm4 a n c e));clear hm1 hm2 hm3 hm4 hb2 hgu
       go_wp2_with fail
       refine(yV false vm ds _ (w.heap.size+1) HM4.out HM1.out HM2.out).mono ?_;rintro e u3 ⟨b3,s3,rfl,h3,ho3,hb3⟩;rw[HM3.out,HR'.out] at h3;obtain⟨s3',e3,hs3⟩:=h3;cases e3;have h0:(mk false (X%n)).natAbs=X%n:=jL _ _;rw[h0] at hs3;have hs30:=hs3;obtain⟨so3,sc3,rfl,-⟩:=hs30;have HS3:=hid hs3;have HO3:=hid ho3;have HB3:=hid (Pu.aO HB2.out hb3);clear hs3 ho3 hb3 h0
       go_upto_region 22 with fail
       generalize decide (mk false (X%n)<0)=bb at *;obtain⟨W6,hW6⟩:∃ W6,W6=u3.alloc (Obj.cells #[Value.bool bb,.slice so3 (aA (X%n)).length sc3] 28):=⟨_,rfl⟩
       have hb6:Below u3.heap.size u3 W6:=by rw[hW6]; exact(Below.refl _ _).alloc (Nat.le_refl _) _
       have hc6:W6.heap[u3.heap.size]?=some (.cells #[Value.bool bb,.slice so3 (aA (X%n)).length sc3] 28 (0,0)):=by rw[hW6]; exact heap_alloc_new u3 _
       rw[<- hW6];have HB6:=hid (Pu.aO HB3.out hb6);have HS6:=hid (HS3.out.keep hb6);have HC6:=hid hc6;have hg6:w.heap.size<u3.heap.size:=Nat.lt_of_lt_of_le (Nat.lt_of_succ_le G5.out) HB3.out.size;have hrow6:eL W6 w.heap.size qs:=bX.keep HROW5.out HB6.out;have hcell:=hrow6.cell (i:=j) (by have:=HLQ.out; omega);have hfz:=mW hrow6 j;have HROW6:=hid hrow6;generalize u3.heap.size=g6 at *;clear hW6 hb6 hc6 hrow6
       go_upto_region 23 with fail
       obtain⟨W7,hW7⟩:∃ W7,W7=W6.setCell ⟨w.heap.size,j,none⟩ (.int .i64 (l:Int)):=⟨_,rfl⟩
       rw[<- hW7];have hc7:=(bQ (show W7.heap[g6]?=some (.cells #[Value.bool bb,.slice so3 (aA (X%n)).length sc3] 28 (0,0)) by rw[hW7,heap_setCell_other _ _ _ _ (by simp; omega)]; exact HC6.out)).2.1;have hrel7:mS m n w j (.slice so3 (aA (X%n)).length sc3) W7:=by
        refine⟨X%n,qs.set j l,by rw[hW7]; exact HS6.out.aside HO3.out (Nat.lt_succ_self _) _ _,HO3.out,Nat.mod_lt _ hn,by have:=HLQ.out; simpa using this,HDQ.out.set _ _ hl9,by rw[hW7]; exact HROW6.out.store _ _ _ rfl,by rw[hW7]; exact(Pu.aO HBW5.out HB6.out).setCell (by simp) _,?_⟩;refine Dv.wG (by omega) (by have:=HLQ.out; omega) HVAL.out ?_;have h':=Nat.div_add_mod X n;rw[<- HQX.out] at h';rw[<- HX.out];exact h'.symm
       have HREL:=hid hrel7;clear hW7 hrel7 hcell hfz;go_wp2
       go_roundw
       case rel=>exact⟨j,by omega,rfl,HREL.out⟩
       case measure=>simp[intOf]
theorem aQv (va vb:Value) (m n:Nat) (w:World) (ha:aL w va (aA m)) (hb:aL w vb (aA n)) (hn:0<n) (hlm:(aA m).length<=1099511620000) (hln:(aA n).length<=1099511620000) :
  Calls Tryz.prog 213 #[va,vb] w (aGd w m n):=by
 by_cases h:(aA m).length<=2/\(aA n).length<=2
 ·exact aQu va vb m n w ha hb hn h.1 h.2
 ·exact aP9 va vb m n w ha hb hn h hlm hln
theorem aL.thru {w V:World} {v:Value} {ds:List Nat} {a b:Nat} (h:aL w v ds) (ha:bW w a) (hb:bW w b) (hk:∀ k,k≠a->k≠b->V.heap[k]?=w.heap[k]?):aL V v ds:=by
 obtain⟨ao,cap,rfl,h1,h2,h3⟩:=h;refine⟨ao,cap,rfl,h1,h2,fun hl=>?_⟩;obtain⟨g,off,rfl,hc⟩:=h3 hl;refine⟨g,off,rfl,fun i hi=>?_⟩;have h4:=hc i hi;have key:∀ r,bW w r->g≠r:=by
  intro r hr e;subst e;obtain⟨x,y,z,n,hg⟩:=hr;rw[cell_of_row _ _ _ _ _ (0,0) hg] at h4;rcases (show off+i=0\/off+i=1\/2<=off+i by omega) with e | e | e
  ·rw[e] at h4; cases h4
  ·rw[e] at h4; cases h4
  ·rw[Array.getElem?_eq_none (by simpa using e)] at h4; cases h4
 rw[World.cell?_of_block (w:=w) (hk g (key a ha) (key b hb))];exact h4
theorem aW.thru {w V:World} {v:Value} {z:Int} {a b:Nat} (h:aW w v z) (ha:bW w a) (hb:bW w b) (hk:∀ k,k≠a->k≠b->V.heap[k]?=w.heap[k]?):aW V v z:=by
 obtain⟨s,h1,h2⟩:=h;exact⟨s,h1,h2.thru ha hb hk⟩
theorem aEb {fn:Func} {p q:Tmp} (h:fn.results=#[.cell p 28,.cell q 28]) {tmps:Array Value} {w0 W:World} {a b:Nat} {y z:Int} {b1 b2:Bool} {s1 s2:Option Addr} {n1 n2 c1 c2:Nat}
  (hp:tmps.getD p undef=.pointer (some ⟨a,0,none⟩)) (hq:tmps.getD q undef=.pointer (some ⟨b,0,none⟩)) (ha:bW W a) (hb:bW W b) (hne:a≠b)
  (hy:aW W (.agg #[.bool b1,.slice s1 n1 c1]) y) (hz:aW W (.agg #[.bool b2,.slice s2 n2 c2]) z) (hB:Below w0.heap.size w0 W) (hla:w0.heap.size<=a) (hlb:w0.heap.size<=b) :
  bodyPost Tryz.prog fn (sM w0 y z) .ret ⟨tmps,[]⟩ ((((W.setCell ⟨a,0,none⟩ (.bool b1)).setCell ⟨a,1,none⟩ (.slice s1 n1 c1)).setCell ⟨b,0,none⟩ (.bool b2)).setCell ⟨b,1,none⟩ (.slice s2 n2 c2)).drew:=by
 obtain⟨V,hV⟩:∃ V,V=((((W.setCell ⟨a,0,none⟩ (.bool b1)).setCell ⟨a,1,none⟩ (.slice s1 n1 c1)).setCell ⟨b,0,none⟩ (.bool b2)).setCell ⟨b,1,none⟩ (.slice s2 n2 c2)).drew:=⟨_,rfl⟩
 have hbel:Below w0.heap.size w0 V:=by
  rw[hV];exact(((((hB.setCell (by simpa using hla) _).setCell (by simpa using hla) _).setCell (by simpa using hlb) _).setCell (by simpa using hlb) _)).drew
 obtain⟨x1,x2,x3,x4,hra⟩:=id ha;obtain⟨z1,z2,z3,z4,hrb⟩:=id hb;have hga:V.heap[a]?=some (.cells #[.bool b1,.slice s1 n1 c1] 28 (0,0)):=by
  rw[hV];show ((((W.setCell ⟨a,0,none⟩ (.bool b1)).setCell ⟨a,1,none⟩ (.slice s1 n1 c1)).setCell ⟨b,0,none⟩ (.bool b2)).setCell ⟨b,1,none⟩ (.slice s2 n2 c2)).heap[a]?=_;rw[heap_setCell_other _ _ _ _ (by simpa using hne),heap_setCell_other _ _ _ _ (by simpa using hne)];have h1:=heap_setCell_same W a 0 _ _ (.bool b1) hra;have h2:=heap_setCell_same _ a 1 _ _ (.slice s1 n1 c1) h1;exact h2
 have hgb:V.heap[b]?=some (.cells #[.bool b2,.slice s2 n2 c2] 28 (0,0)):=by
  rw[hV];show ((((W.setCell ⟨a,0,none⟩ (.bool b1)).setCell ⟨a,1,none⟩ (.slice s1 n1 c1)).setCell ⟨b,0,none⟩ (.bool b2)).setCell ⟨b,1,none⟩ (.slice s2 n2 c2)).heap[b]?=_;have h0:((W.setCell ⟨a,0,none⟩ (.bool b1)).setCell ⟨a,1,none⟩ (.slice s1 n1 c1)).heap[b]?=some (.cells #[.bool z1,.slice z2 z3 z4] 28 (0,0)):=by
   rw[heap_setCell_other _ _ _ _ (by simpa using hne.symm),heap_setCell_other _ _ _ _ (by simpa using hne.symm)];exact hrb
  have h1:=heap_setCell_same _ b 0 _ _ (.bool b2) h0;have h2:=heap_setCell_same _ b 1 _ _ (.slice s2 n2 c2) h1;exact h2
 have hk:∀ k,k≠a->k≠b->V.heap[k]?=W.heap[k]?:=by
  intro k h1 h2;rw[hV];show ((((W.setCell ⟨a,0,none⟩ (.bool b1)).setCell ⟨a,1,none⟩ (.slice s1 n1 c1)).setCell ⟨b,0,none⟩ (.bool b2)).setCell ⟨b,1,none⟩ (.slice s2 n2 c2)).heap[k]?=_;rw[heap_setCell_other _ _ _ _ (by simpa using h2),heap_setCell_other _ _ _ _ (by simpa using h2),heap_setCell_other _ _ _ _ (by simpa using h1),heap_setCell_other _ _ _ _ (by simpa using h1)]
 rw[<- hV];exact bodyPost_ret (aCi h _ _ a b _ _ hp hq hga hgb rfl rfl) rfl ⟨_,_,rfl,hy.thru ha hb hk,hz.thru ha hb hk,hbel⟩
theorem aZ6 (b:Bool) (q:Nat):mk b q+mk b 1=mk b (q+1):=by cases b<;>simp[mk]; omega
set_option maxRecDepth 100000 in
set_option maxHeartbeats 8000000 in
theorem aHs (vx vy:Value) (x y:Int) (w:World) (hx:aW w vx x) (hy:aW w vy y) (hy0:y≠0) (hl1:len x<=1099511610000) (hl2:len y<=1099511610000) :
  Calls Tryz.prog 168 #[vx,vy] w (sM w (x/y) (x%y)):=by
 obtain⟨s0,rfl,hs⟩:=hx;obtain⟨t0,rfl,ht⟩:=hy;have hs1:=hs;have ht1:=ht;obtain⟨so,sc,rfl,-⟩:=hs1;obtain⟨ty,tc,rfl,-⟩:=ht1;have hn:0<y.natAbs:=Int.natAbs_pos.2 hy0;have HS:=hid hs;have HT:=hid ht;have HDV:=hid (fun w1 h1 h2=>aQv (.slice so (aA x.natAbs).length sc) (.slice ty (aA y.natAbs).length tc) x.natAbs y.natAbs w1 h1 h2 hn (Nat.le_trans hl1 (by decide)) (Nat.le_trans hl2 (by decide)));have hyl:(((aA y.natAbs).length:Int)==0)=false:=by
  rw[beq_eq_false_iff_ne];intro h;have h2:(aA y.natAbs).length=0:=by omega
  have:=jF.1 (List.eq_nil_of_length_eq_zero h2);omega
 obtain⟨W,hW⟩:∃ W,W=(((w.alloc (Obj.cells #[Value.bool (decide (x<0)),.slice so (aA x.natAbs).length sc] 28)).alloc (Obj.cells #[Value.bool (decide (y<0)),.slice ty (aA y.natAbs).length tc] 28)).alloc (Obj.cells #[Value.bool false,Value.slice none 0 0] 28)).alloc (Obj.cells #[Value.bool false,Value.slice none 0 0] 28):=⟨_,rfl⟩
 have hB:Below w.heap.size w W:=by rw[hW]; exact aGb w _ _ _ _
 have hcx:W.heap[w.heap.size]?=some (.cells #[Value.bool (decide (x<0)),.slice so (aA x.natAbs).length sc] 28 (0,0)):=by
  rw[hW]; exact bS ((Below.refl _ _).alloc (Nat.le_refl _) _) (sO w _ _ _)
 have hcy:W.heap[w.heap.size+1]?=some (.cells #[Value.bool (decide (y<0)),.slice ty (aA y.natAbs).length tc] 28 (0,0)):=by
  rw[hW]; exact bS ((Below.refl _ _).alloc (Nat.le_refl _) _) (sG w _ _ _)
 have hr4:bW W (w.heap.size+1+1):=by rw[hW]; exact(bW.at (by simp)).keep ((Below.refl _ _).alloc (Nat.le_refl _) _)
 have hr5:bW W (w.heap.size+1+1+1):=by rw[hW]; exact bW.at (by simp)
 have HB:=hid hB;have CX:=hid hcx;have CY:=hid hcy;have R4:=hid hr4;have R5:=hid hr5;have HW:=hid hW;have E1:=hid (aLe (x:=x) hy0);have E2:=hid (aM3 (x:=x) hy0);have HX0:=hid (show decide (x<0)=true ↔ x<0 by simp);clear hW hB hcx hcy hr4 hr5 hs ht;obtain⟨bx,hbx⟩:∃ bx,bx=decide (x<0):=⟨_,rfl⟩
 obtain⟨by',hby⟩:∃ by',by'=decide (y<0):=⟨_,rfl⟩
 rw[<- hbx] at CX HW E1 E2 HX0 |-;rw[<- hby] at CY HW E1 E2 |-;clear hbx hby
 go_enter Tryz.func168,Tryz.ntmps168
 go_upto_region 1 with fail
 rw[<- HW.out];obtain⟨x1,x2,-,-⟩:=bQ CX.out;obtain⟨y1,y2,-,-⟩:=bQ CY.out
 go_wp2_with fail
 refine(HDV.out _ (HS.out.keep HB.out) (HT.out.keep HB.out)).mono ?_;rintro e w1 ⟨s1,t1,qs,rfl,h1,h2,h3,h4,hb1⟩;have HQS:=hid h1;have HDQ:=hid h2;have HVQ:=hid h3;have HRS:=hid h4;replace CX:=hid (bS hb1 CX.out);replace CY:=hid (bS hb1 CY.out);replace R4:=hid (R4.out.keep hb1);replace R5:=hid (R5.out.keep hb1);replace HB:=hid (Pu.aO HB.out hb1);clear h1 h2 h3 h4 hb1 x1 x2 y1 y2 HW;obtain⟨x1,x2,-,-⟩:=bQ CX.out;obtain⟨y1,y2,-,-⟩:=bQ CY.out
 go_wp2_with fail
 refine(jW (bx != by') s1 qs _ HQS.out HDQ.out).mono ?_;rintro e w2 ⟨v8,rfl,h8,hb2⟩;rw[HVQ.out] at h8;obtain⟨c8,so8,n8,sc8,rfl⟩:=h8.open;have H8:=hid h8;replace CX:=hid (bS hb2 CX.out);replace CY:=hid (bS hb2 CY.out);replace R4:=hid (R4.out.keep hb2);replace R5:=hid (R5.out.keep hb2);replace HB:=hid (Pu.aO HB.out hb2);replace HRS:=hid (HRS.out.keep hb2);clear h8 hb2 x1 x2 y1 y2
 go_upto_region 5 with fail
 obtain⟨W4,hW4⟩:∃ W4,W4=w2.alloc (Obj.cells #[Value.bool c8,.slice so8 n8 sc8] 28):=⟨_,rfl⟩
 have hb4:Below w2.heap.size w2 W4:=by rw[hW4]; exact(Below.refl _ _).alloc (Nat.le_refl _) _
 have hc8:cY W4 w2.heap.size (mk (bx != by') (x.natAbs/y.natAbs)):=by rw[hW4]; exact cY.new H8.out
 have hsz4:w.heap.size+1+1+1<w2.heap.size:=by
  obtain⟨_,_,_,_,h⟩:=R5.out;exact(Array.getElem?_eq_some_iff.1 h).1
 rw[<- hW4];have C8:=hid hc8;replace CX:=hid (bS hb4 CX.out);replace CY:=hid (bS hb4 CY.out);replace R4:=hid (R4.out.keep hb4);replace R5:=hid (R5.out.keep hb4);replace HB:=hid (Pu.aO HB.out hb4);replace HRS:=hid (HRS.out.keep hb4);generalize w2.heap.size=g8 at *;clear hW4 hb4 hc8 H8
 go_wp2_with fail
 refine(jW false t1 (aA (x.natAbs%y.natAbs)) _ HRS.out (bF _)).mono ?_;rintro e w3 ⟨v9,rfl,h9,hb3⟩;rw[aX] at h9;obtain⟨s9,rfl,hs9⟩:=h9;have hs9':aL w3 s9 (aA (x.natAbs%y.natAbs)):=by have h:=hs9; rw[jL] at h; exact h
 have h90:=hs9';obtain⟨so9,sc9,rfl,-⟩:=h90;have hd9:decide (mk false (x.natAbs%y.natAbs)<0)=false:=by simp[mk]; omega
 rw[hd9];have H9:=hid (show aW w3 (.agg #[.bool false,.slice so9 (aA (x.natAbs%y.natAbs)).length sc9]) (mk false (x.natAbs%y.natAbs)) from ⟨_,by rw[hd9],hs9⟩);have HN9:=hid hs9';replace CX:=hid (bS hb3 CX.out);replace CY:=hid (bS hb3 CY.out);replace R4:=hid (R4.out.keep hb3);replace R5:=hid (R5.out.keep hb3);replace C8:=hid (C8.out.keep hb3);replace HB:=hid (Pu.aO HB.out hb3);clear hs9 hs9' hd9 hb3
 go_upto_region 6 with fail
 obtain⟨W5,hW5⟩:∃ W5,W5=w3.alloc (Obj.cells #[Value.bool false,.slice so9 (aA (x.natAbs%y.natAbs)).length sc9] 28):=⟨_,rfl⟩
 have hb5:Below w3.heap.size w3 W5:=by rw[hW5]; exact(Below.refl _ _).alloc (Nat.le_refl _) _
 have hc9:W5.heap[w3.heap.size]?=some (.cells #[Value.bool false,.slice so9 (aA (x.natAbs%y.natAbs)).length sc9] 28 (0,0)):=by rw[hW5]; exact heap_alloc_new w3 _
 have hsz5:g8<w3.heap.size:=by
  obtain⟨_,_,h⟩:=C8.out;exact(Array.getElem?_eq_some_iff.1 h).1
 rw[<- hW5];have C9:=hid hc9;replace CX:=hid (bS hb5 CX.out);replace CY:=hid (bS hb5 CY.out);replace R4:=hid (R4.out.keep hb5);replace R5:=hid (R5.out.keep hb5);replace C8:=hid (C8.out.keep hb5);replace HB:=hid (Pu.aO HB.out hb5);replace H9:=hid (H9.out.keep hb5);replace HN9:=hid (HN9.out.keep hb5);generalize w3.heap.size=g9 at *;clear hW5 hb5 hc9 HRS;obtain⟨x1,x2,-,-⟩:=bQ CX.out;obtain⟨z1,z2,-,-⟩:=bQ C9.out;by_cases hbx:bx=true
 ·by_cases hr0:x.natAbs%y.natAbs=0
  ·have E:=hid (E1.out (.inr hr0));have hl0:¬ ((0:Int)<((aA (x.natAbs%y.natAbs)).length:Int)):=by rw[hr0,gA]; decide
   subst hbx;clear hr0
   go_upto_region 9 with fail
   obtain⟨v8,hv8,hh8⟩:=C8.out;obtain⟨p8,q8,r8,l8,rfl⟩:=hv8.open;have H8:=hid hv8;obtain⟨e1,e2,-,-⟩:=bQ hh8;obtain⟨_,_,_,_,hr4⟩:=R4.out;obtain⟨_,_,_,_,hr5⟩:=R5.out;obtain⟨f1,f2,f3,f4⟩:=bQ hr4;obtain⟨k1,k2,k3,k4⟩:=bQ hr5;have HG:=hid (And.intro hsz4 hsz5);rw[E.out.1] at H8;have H9':=hid (show aW W5 (.agg #[.bool false,.slice so9 (aA (x.natAbs%y.natAbs)).length sc9]) (x%y) by rw[<- E.out.2]; exact H9.out);clear hv8 hh8 hr4 hr5 x1 x2
   go_region
   clear e1 e2 f1 f2 f3 f4 k1 k2 k3 k4 z1 z2;go_wp2;exact aEb rfl rfl rfl R4.out R5.out (by omega) H8.out H9'.out HB.out (by omega) (by omega)
  ·have hx0:x<0:=HX0.out.1 hbx;have E:=hid (E2.out hx0 hr0);have hl0:(0:Int)<((aA (x.natAbs%y.natAbs)).length:Int):=by
    have h:(aA (x.natAbs%y.natAbs)).length≠0:=fun h=>hr0 (jF.1 (List.eq_nil_of_length_eq_zero h));omega
   have hrn:x.natAbs%y.natAbs<=y.natAbs:=Nat.le_of_lt (Nat.mod_lt _ hn);have HMN:=hid (fun w1 h1 h2=>aCc (.slice ty (aA y.natAbs).length tc) (.slice so9 (aA (x.natAbs%y.natAbs)).length sc9) (aA y.natAbs) (aA (x.natAbs%y.natAbs)) w1 h1 h2 (bF _) (bF _) (Nat.le_trans hl2 (by decide)) (dW hrn) (by rw[aX,aX]; exact hrn));rw[aX,aX] at HMN;have hlq:len (mk (bx != by') (x.natAbs/y.natAbs))<=1099511627000:=by
    show (aA (mk _ _).natAbs).length<=_;rw[jL];exact Nat.le_trans (dW (Nat.div_le_self _ _)) (Nat.le_trans hl1 (by decide))
   have hl1':len (mk (bx != by') 1)<=1099511627000:=by
    show (aA (mk _ _).natAbs).length<=_;rw[jL];decide
   have HLQ:=hid (And.intro hlq hl1');subst hbx;obtain⟨nb,hnb⟩:∃ nb,(true != by')=nb:=⟨_,rfl⟩
   have hnb2:(!by')=nb:=by rw[<- hnb]; cases by'<;>rfl
   rw[hnb] at C8 E HLQ;have HNB:=hid (And.intro hnb hnb2);clear hnb hnb2;clear hr0 hx0 hrn hlq hl1' E1 E2
   go_upto_region 7 with fail
   rename_i hret;refine Pu.rP 9 (gN [(41,.int (mk nb (x.natAbs/y.natAbs))),(42,.eq (.pointer (some ⟨w.heap.size,0,none⟩))),(43,.eq (.bool true)),(44,.eq (.pointer (some ⟨w.heap.size+1,0,none⟩))),(45,.eq (.bool by')),(46,.eq (.bool nb)),(47,.nums ([1])),(48,.int (mk nb 1)),(49,.int (mk nb (x.natAbs/y.natAbs+1)))]) (by kernel_rfl) (by kernel_rfl) (by kernel_rfl) (fun hfn=>by kernel_rfl) (gN.keep _) ?_ ?_ ?_
   ·intro L a w2 i o ho hne2 hL hdep hI;have hi:i<10:=(Array.getElem?_eq_some_iff.1 ho).1;rcases (show i=0\/i=1\/i=2\/i=3\/i=4\/i=5\/i=6\/i=7\/i=8 by omega) with rfl | rfl | rfl | rfl | rfl | rfl | rfl | rfl | rfl
    ·cases (Option.some.inj (show some _=some o from ho));have h8:a.tmps.getD 8 undef=.pointer (some ⟨g8,0,none⟩):=hI.free (t:=8) (by kernel_rfl);refine bG rfl fun K hK=>?_;refine aQd (.tmp 8) rfl g8 _ h8 (C8.out.keep hI.below) ?_;intro v hv hh;exact hK _ _ (Below.refl _ _) (fun d hd=>by cases hd; exact hv)
    ·cases (Option.some.inj (show some _=some o from ho));have h2:a.tmps.getD 2 undef=.pointer (some ⟨w.heap.size,0,none⟩):=hI.free (t:=2) (by kernel_rfl);refine bG rfl fun K hK=>?_;clear hdep hI ho hi;go_simp;exact hK _ _ (Below.refl _ _) (fun d hd=>by cases hd; rfl)
    ·cases (Option.some.inj (show some _=some o from ho));have h42:a.tmps.getD 42 undef=.pointer (some ⟨w.heap.size,0,none⟩):=hI.slot (i:=1) (d:=42) (hdep ⟨1,.data⟩ (by simp) (by rfl)) rfl;have hc2:=(bQ (bS hI.below CX.out)).1;refine bG rfl fun K hK=>?_;clear hdep hI ho hi;go_simp;exact hK _ _ (Below.refl _ _) (fun d hd=>by cases hd; rfl)
    ·cases (Option.some.inj (show some _=some o from ho));have h3:a.tmps.getD 3 undef=.pointer (some ⟨w.heap.size+1,0,none⟩):=hI.free (t:=3) (by kernel_rfl);refine bG rfl fun K hK=>?_;clear hdep hI ho hi;go_simp;exact hK _ _ (Below.refl _ _) (fun d hd=>by cases hd; rfl)
    ·cases (Option.some.inj (show some _=some o from ho));have h44:a.tmps.getD 44 undef=.pointer (some ⟨w.heap.size+1,0,none⟩):=hI.slot (i:=3) (d:=44) (hdep ⟨3,.data⟩ (by simp) (by rfl)) rfl;have hc2:=(bQ (bS hI.below CY.out)).1;refine bG rfl fun K hK=>?_;clear hdep hI ho hi;go_simp;exact hK _ _ (Below.refl _ _) (fun d hd=>by cases hd; rfl)
    ·cases (Option.some.inj (show some _=some o from ho));have h43:a.tmps.getD 43 undef=.bool true:=hI.slot (i:=2) (d:=43) (hdep ⟨2,.data⟩ (by simp) (by rfl)) rfl;have h45:a.tmps.getD 45 undef=.bool by':=hI.slot (i:=4) (d:=45) (hdep ⟨4,.data⟩ (by simp) (by rfl)) rfl
     have hn1:=HNB.out.1;have hn2:=HNB.out.2;refine bG rfl fun K hK=>?_;clear hdep hI ho hi;go_simp;exact hK _ _ (Below.refl _ _) (fun d hd=>by cases hd; rfl)
    ·cases (Option.some.inj (show some _=some o from ho));refine bG rfl fun K hK=>?_;clear hdep hI ho hi;go_simp;exact hK (.slice (some ⟨w2.heap.size,0,none⟩) 1 1) (w2.alloc (.cells #[.int .i64 1] 3)) ((Below.refl _ _).alloc (Nat.le_refl _) _) (fun d hd=>by cases hd; exact aKp w2)
    ·cases (Option.some.inj (show some _=some o from ho));have h46:a.tmps.getD 46 undef=.bool nb:=hI.slot (i:=5) (d:=46) (hdep ⟨5,.data⟩ (by simp) (by rfl)) rfl;have h47:aL w2 (a.tmps.getD 47 undef) ([1]):=hI.slot (i:=6) (d:=47) (hdep ⟨6,.data⟩ (by simp) (by rfl)) rfl;obtain⟨x47,e47⟩:∃ x,a.tmps.getD 47 undef=x:=⟨_,rfl⟩
     rw[e47] at h47;refine bG rfl fun K hK=>?_;clear hdep hI ho hi;go_simp;refine(jW nb x47 [1] _ h47 (aP.cons (by decide) aP.nil)).mono ?_;rintro e w3 ⟨v3,rfl,hn3,hb3⟩;exact hK _ _ hb3 (fun d hd=>by cases hd; exact hn3)
    ·cases (Option.some.inj (show some _=some o from ho));have h41:aW w2 (a.tmps.getD 41 undef) (mk nb (x.natAbs/y.natAbs)):=hI.slot (i:=0) (d:=41) (hdep ⟨0,.data⟩ (by simp) (by rfl)) rfl;obtain⟨x41,e41⟩:∃ x,a.tmps.getD 41 undef=x:=⟨_,rfl⟩
     rw[e41] at h41;have h48:aW w2 (a.tmps.getD 48 undef) (mk nb 1):=hI.slot (i:=7) (d:=48) (hdep ⟨7,.data⟩ (by simp) (by rfl)) rfl;obtain⟨x48,e48⟩:∃ x,a.tmps.getD 48 undef=x:=⟨_,rfl⟩
     rw[e48] at h48;refine bG rfl fun K hK=>?_;clear hdep hI ho hi;go_simp;refine(aHt x41 x48 _ _ _ h41 h48 HLQ.out.1 HLQ.out.2).mono ?_;rintro e w3 ⟨v3,rfl,hn3,hb3⟩;rw[aZ6] at hn3;exact hK _ _ hb3 (fun d hd=>by cases hd; exact hn3)
   rotate_left 1
   ·intro hfn;exact absurd hfn (by decide)
   ·intro L a w2 o ho hL hoth hI;cases (Option.some.inj (show some _=some o from ho));have h8:a.tmps.getD 8 undef=.pointer (some ⟨g8,0,none⟩):=hI.free (t:=8) (by kernel_rfl);have h49:aW w2 (a.tmps.getD 49 undef) (mk nb (x.natAbs/y.natAbs+1)):=hI.slot (i:=8) (d:=49) (hoth 8 (by decide) (by decide)) rfl;obtain⟨x49,e49⟩:∃ x,a.tmps.getD 49 undef=x:=⟨_,rfl⟩
    rw[e49] at h49;refine⟨rfl,?_⟩;refine sV (.tmp 8) (.tmp 49) rfl g8 x49 _ h8 e49 h49 (C8.out.res.keep hI.below) ?_;have hbl:=hI.below;have hres:=C8.out.res.keep hbl;replace C8:=hid (cY.set hres h49);refine hret _ _ ?_;have hf:=hI.frame [41,42,43,44,45,46,47,48,49] (by kernel_rfl);simp only[List.foldl_cons,List.foldl_nil] at hf;clear hI hoth hL;generalize a.tmps.getD 41 undef=y41 at *;generalize a.tmps.getD 42 undef=y42 at *;generalize a.tmps.getD 43 undef=y43 at *;generalize a.tmps.getD 44 undef=y44 at *;generalize a.tmps.getD 45 undef=y45 at *;generalize a.tmps.getD 46 undef=y46 at *;generalize a.tmps.getD 47 undef=y47 at *;generalize a.tmps.getD 48 undef=y48 at *;generalize a.tmps.getD 49 undef=y49 at *;subst hf;clear h49 e49;have D9:=hid (show cY W5 g9 (mk false (x.natAbs%y.natAbs)) from ⟨_,H9.out,C9.out⟩);replace D9:=hid ((D9.out.keep hbl).apart hres (by omega) x49.cells);replace CY:=hid ((setRow_other w2 g8 (w.heap.size+1) x49.cells (by omega)).trans (bS hbl CY.out));replace C9:=hid ((setRow_other w2 g8 g9 x49.cells (by omega)).trans (bS hbl C9.out));replace R4:=hid ((R4.out.keep hbl).apart (r:=g8) (by omega) x49.cells);replace R5:=hid ((R5.out.keep hbl).apart (r:=g8) (by omega) x49.cells);replace HN9:=hid ((HN9.out.keep hbl).apart hres x49.cells);have HT2:=hid ((HT.out.keep (Pu.aO HB.out hbl)).apart hres x49.cells);replace HB:=hid (mH (Pu.aO HB.out hbl) (show w.heap.size<=g8 by omega) x49.cells);generalize hU:w2.setRow g8 x49.cells=W6 at *;clear hU hbl hres hret H9 z1 z2 x1 x2;go_simp;obtain⟨y1,y2,-,-⟩:=bQ CY.out;obtain⟨z1,z2,-,-⟩:=bQ C9.out
    go_wp2_with fail
    refine(HMN.out _ HT2.out HN9.out).mono ?_;rintro e w7 ⟨v7,ds7,rfl,m1,m2,m3,hb7⟩;have M1:=hid m1;have M2:=hid m2;have M3:=hid m3;replace D9:=hid (D9.out.keep hb7);replace C8:=hid (C8.out.keep hb7);replace R4:=hid (R4.out.keep hb7);replace R5:=hid (R5.out.keep hb7);replace HB:=hid (Pu.aO HB.out hb7);clear m1 m2 m3 hb7 y1 y2 z1 z2
    go_wp2_with fail
    refine(jW false v7 ds7 _ M1.out M2.out).mono ?_;rintro e w8 ⟨v55,rfl,h55,hb8⟩;rw[M3.out] at h55;have H55:=hid h55;replace D9:=hid (D9.out.keep hb8);replace C8:=hid (C8.out.keep hb8);replace R4:=hid (R4.out.keep hb8);replace R5:=hid (R5.out.keep hb8);replace HB:=hid (Pu.aO HB.out hb8);clear h55 hb8
    go_upto_region 9 with (refine eT rfl (.tmp 9) (.tmp 55) rfl g9 v55 _ rfl rfl H55.out D9.out.res ?_)
    have hres:=D9.out.res;replace C8:=hid (C8.out.apart hres (by omega) v55.cells);replace R4:=hid (R4.out.apart (r:=g9) (by omega) v55.cells);replace R5:=hid (R5.out.apart (r:=g9) (by omega) v55.cells);replace D9:=hid (cY.set hres H55.out);replace HB:=hid (mH HB.out (show w.heap.size<=g9 by omega) v55.cells);generalize hU:w8.setRow g9 v55.cells=W9 at *;clear hU hres H55;obtain⟨v8,hv8,hh8⟩:=C8.out;obtain⟨p8,q8,r8,l8,rfl⟩:=hv8.open;have H8:=hid hv8;obtain⟨e1,e2,-,-⟩:=bQ hh8;obtain⟨v9,hv9,hh9⟩:=D9.out;obtain⟨p9,q9,r9,l9,rfl⟩:=hv9.open;have H9:=hid hv9;obtain⟨d1,d2,-,-⟩:=bQ hh9;obtain⟨_,_,_,_,hr4⟩:=R4.out;obtain⟨_,_,_,_,hr5⟩:=R5.out;obtain⟨f1,f2,f3,f4⟩:=bQ hr4;obtain⟨k1,k2,k3,k4⟩:=bQ hr5;rw[E.out.1] at H8;have H9':=hid (show aW W9 (.agg #[.bool p9,.slice q9 r9 l9]) (x%y) by rw[<- E.out.2]; exact H9.out);clear hv8 hh8 hv9 hh9 hr4 hr5
    go_region
    all_goals (clear e1 e2 d1 d2 f1 f2 f3 f4 k1 k2 k3 k4)
    all_goals (try go_wp2)
    all_goals (exact aEb rfl rfl rfl R4.out R5.out (by omega) H8.out H9'.out HB.out (by omega) (by omega))
 ·have hbf:bx=false:=by simpa using hbx
  have E:=hid (E1.out (by
   have h:=HX0.out;rw[hbf] at h;simp at h;exact .inl h))
  subst hbf;clear hbx
  go_upto_region 9 with fail
  obtain⟨v8,hv8,hh8⟩:=C8.out;obtain⟨p8,q8,r8,l8,rfl⟩:=hv8.open;have H8:=hid hv8;obtain⟨e1,e2,-,-⟩:=bQ hh8;obtain⟨_,_,_,_,hr4⟩:=R4.out;obtain⟨_,_,_,_,hr5⟩:=R5.out;obtain⟨f1,f2,f3,f4⟩:=bQ hr4;obtain⟨k1,k2,k3,k4⟩:=bQ hr5;have HG:=hid (And.intro hsz4 hsz5);rw[E.out.1] at H8;have H9':=hid (show aW W5 (.agg #[.bool false,.slice so9 (aA (x.natAbs%y.natAbs)).length sc9]) (x%y) by rw[<- E.out.2]; exact H9.out);clear hv8 hh8 hr4 hr5 x1 x2
  go_region
  clear e1 e2 f1 f2 f3 f4 k1 k2 k3 k4 z1 z2;go_wp2;exact aEb rfl rfl rfl R4.out R5.out (by omega) H8.out H9'.out HB.out (by omega) (by omega)
theorem cY.nat {w:World} {g n:Nat} (h:cY w g (n:Int)):∃ so sc,aL w (.slice so (aA n).length sc) (aA n)/\aW w (.agg #[.bool false,.slice so (aA n).length sc]) (n:Int)/\w.heap[g]?=some (.cells #[.bool false,.slice so (aA n).length sc] 28 (0,0)):=by
 obtain⟨v,hv,hh⟩:=h;have hv0:=hv;obtain⟨s,rfl,hs⟩:=hv;have hd:decide ((n:Int)<0)=false:=by simp
 have hs':aL w s (aA n):=hs;have hs0:=hs';obtain⟨so,sc,rfl,-⟩:=hs0;rw[hd] at hh hv0;exact⟨so,sc,hs',hv0,hh⟩
theorem aAd (m n:Nat):Nat.gcd n (m%n)=Nat.gcd m n:=by rw[Nat.gcd_comm n,<- Nat.gcd_rec,Nat.gcd_comm]
set_option maxRecDepth 100000 in
set_option maxHeartbeats 8000000 in
theorem aRh (vx vy:Value) (x y:Int) (w:World) (hx:aW w vx x) (hy:aW w vy y) (hl1:len x<=1099511610000) (hl2:len y<=1099511610000) :
  Calls Tryz.prog 167 #[vx,vy] w (fF w ((Int.gcd x y:Nat):Int)):=by
 obtain⟨s0,rfl,hs⟩:=hx;obtain⟨t0,rfl,ht⟩:=hy;have hs1:=hs;have ht1:=ht;obtain⟨so,sc,rfl,-⟩:=hs1;obtain⟨ty,tc,rfl,-⟩:=ht1;have HS:=hid hs;have HT:=hid ht;have HG:=hid (show Nat.gcd x.natAbs y.natAbs=Int.gcd x y from rfl);generalize Int.gcd x y=G at *;have HL1:=hid (show (aA x.natAbs).length<=1099511610000 from hl1);have HL2:=hid (show (aA y.natAbs).length<=1099511610000 from hl2);obtain⟨W,hW⟩:∃ W,W=((w.alloc (Obj.cells #[Value.bool (decide (x<0)),.slice so (aA x.natAbs).length sc] 28)).alloc (Obj.cells #[Value.bool (decide (y<0)),.slice ty (aA y.natAbs).length tc] 28)).alloc (Obj.cells #[Value.bool false,Value.slice none 0 0] 28):=⟨_,rfl⟩
 have hB:Below w.heap.size w W:=by rw[hW]; exact(((Below.refl _ _).alloc (Nat.le_refl _) _).alloc (by simp only[World.alloc,Array.size_push]; omega) _).alloc (by simp only[World.alloc,Array.size_push]; omega) _
 have hcx:W.heap[w.heap.size]?=some (.cells #[Value.bool (decide (x<0)),.slice so (aA x.natAbs).length sc] 28 (0,0)):=by
  rw[hW]; exact sO w _ _ _
 have hcy:W.heap[w.heap.size+1]?=some (.cells #[Value.bool (decide (y<0)),.slice ty (aA y.natAbs).length tc] 28 (0,0)):=by
  rw[hW]; exact sG w _ _ _
 have hr4:bW W (w.heap.size+1+1):=by rw[hW]; exact bW.at (by simp)
 have HB:=hid hB;have CX:=hid hcx;have CY:=hid hcy;have R4:=hid hr4;have HW:=hid hW;clear hW hB hcx hcy hr4 hs ht hl1 hl2;generalize decide (x<0)=bx at *;generalize decide (y<0)=by' at *
 generalize x.natAbs=m at *;generalize y.natAbs=n at *
 go_enter Tryz.func167,Tryz.ntmps167
 go_upto_region 1 with fail
 rw[<- HW.out];obtain⟨x1,x2,-,-⟩:=bQ CX.out
 go_wp2_with fail
 refine(jW false _ (aA m) _ (HS.out.keep HB.out) (bF _)).mono ?_;rintro e w1 ⟨v1,rfl,h1,hb⟩;rw[aX] at h1;obtain⟨b1,so1,n1,sc1,rfl⟩:=h1.open;have H1:=hid (show aW w1 _ (m:Int) from h1);replace CY:=hid (bS hb CY.out);replace R4:=hid (R4.out.keep hb);replace HB:=hid (Pu.aO HB.out hb);clear h1 hb x1 x2 HW CX HS
 go_upto_region 2 with fail
 obtain⟨W1,hW1⟩:∃ W1,W1=w1.alloc (Obj.cells #[Value.bool b1,.slice so1 n1 sc1] 28):=⟨_,rfl⟩
 have hb4:Below w1.heap.size w1 W1:=by rw[hW1]; exact(Below.refl _ _).alloc (Nat.le_refl _) _
 have hc8:cY W1 w1.heap.size (m:Int):=by rw[hW1]; exact cY.new H1.out
 have hsz4:w.heap.size+1+1<w1.heap.size:=by
  obtain⟨_,_,_,_,h⟩:=R4.out;exact(Array.getElem?_eq_some_iff.1 h).1
 rw[<- hW1];have C5:=hid hc8;replace CY:=hid (bS hb4 CY.out);replace R4:=hid (R4.out.keep hb4);replace HB:=hid (Pu.aO HB.out hb4);generalize w1.heap.size=g5 at *;clear hW1 hb4 hc8 H1;obtain⟨y1,y2,-,-⟩:=bQ CY.out
 go_wp2_with fail
 refine(jW false _ (aA n) _ (HT.out.keep HB.out) (bF _)).mono ?_;rintro e w2 ⟨v2,rfl,h2,hb⟩;rw[aX] at h2;obtain⟨b2,so2,n2,sc2,rfl⟩:=h2.open;have H2:=hid (show aW w2 _ (n:Int) from h2);replace C5:=hid (C5.out.keep hb);replace R4:=hid (R4.out.keep hb);replace HB:=hid (Pu.aO HB.out hb);clear h2 hb y1 y2 CY HT
 go_upto_region 3 with fail
 obtain⟨W2,hW2⟩:∃ W2,W2=w2.alloc (Obj.cells #[Value.bool b2,.slice so2 n2 sc2] 28):=⟨_,rfl⟩
 have hb4:Below w2.heap.size w2 W2:=by rw[hW2]; exact(Below.refl _ _).alloc (Nat.le_refl _) _
 have hc8:cY W2 w2.heap.size (n:Int):=by rw[hW2]; exact cY.new H2.out
 have hsz5:g5<w2.heap.size:=by
  obtain⟨_,_,h⟩:=C5.out;exact(Array.getElem?_eq_some_iff.1 h).1
 rw[<- hW2];have C6:=hid hc8;replace C5:=hid (C5.out.keep hb4);replace R4:=hid (R4.out.keep hb4);replace HB:=hid (Pu.aO HB.out hb4);generalize w2.heap.size=g6 at *;clear hW2 hb4 hc8 H2
 go_loopg [] n (fun b wr=>∃ a:Nat,cY wr g5 (a:Int)/\cY wr g6 (b:Int)/\bW wr (w.heap.size+1+1)/\Nat.gcd a b=G/\(aA a).length<=1099511610000/\(aA b).length<=1099511610000/\Below w.heap.size w wr)
 case atStart=>exact⟨m,C5.out,C6.out,R4.out,HG.out,HL1.out,HL2.out,HB.out⟩
 case round =>
  clear C5 C6 R4 HG HL1 HL2 HB;obtain⟨a,h5,h6,h4,hg,hla,hlb,hbel⟩:=hrel;have C5:=hid h5;have C6:=hid h6;have R4:=hid h4;have HG:=hid hg;have HB:=hid hbel;have HLA:=hid hla;have HLB:=hid hlb;clear h5 h6 h4 hg hbel;obtain⟨ao,ac,ha1,ha2,ha3⟩:=C5.out.nat;obtain⟨bo,bc',hb1,hb2,hb3⟩:=C6.out.nat;have NA:=hid ha1;have NB:=hid hb1;have IA:=hid ha2;have IB:=hid hb2;have RA:=hid ha3;have RB:=hid hb3;obtain⟨a1,a2,-,-⟩:=bQ ha3;obtain⟨b1',b2',-,-⟩:=bQ hb3;clear ha1 ha2 ha3 hb1 hb2 hb3;rcases Nat.eq_zero_or_pos gk with h0 | h0
  ·subst h0;have HE:=hid (show a=G by have:=HG.out; rwa[Nat.gcd_zero_right] at this);have hl0:¬ ((0:Int)<((aA 0).length:Int)):=by rw[gA]; decide
   go_upto_region 15 with fail
   go_wp2_with (first | (with_reducible refine vT rfl (.tmp 5) rfl g5 _ _ rfl IA.out RA.out ?_) | (refine eT rfl (.tmp 4) (.tmp 55) rfl (w.heap.size+1+1) _ _ rfl rfl IA.out R4.out ?_))
   have IG:aW wr (.agg #[.bool false,.slice ao (aA a).length ac]) (G:Int):=by rw[<- HE.out]; exact IA.out
   exact qG (v:=.agg #[.bool false,.slice ao (aA a).length ac]) (g:=w.heap.size+1+1) rfl rfl rfl R4.out IG HB.out (by omega)
  ·have hpos:(0:Int)<((aA gk).length:Int):=by
    have:(aA gk).length≠0:=fun h=>by
     have:=jF.1 (List.eq_nil_of_length_eq_zero h);omega
    omega
   by_cases hab:(aA a).length<=2/\(aA gk).length<=2
   ·have h2a:((aA a).length:Int)<=2:=by omega
    have h2b:((aA gk).length:Int)<=2:=by omega
    have ha18:=rZ hab.1;have hb18:=rZ hab.2;have T1:=hid (fun w1 h=>zS (.slice ao (aA a).length ac) (aA a) w1 h (bF _) hab.1);have T2:=hid (fun w1 h=>zS (.slice bo (aA gk).length bc') (aA gk) w1 h (bF _) hab.2);rw[aX] at T1 T2
    go_wp2_with fail
    refine(T1.out _ NA.out).mono ?_;rintro e w' ⟨rfl,rfl⟩
    go_wp2_with fail
    refine(T2.out _ NB.out).mono ?_;rintro e w' ⟨rfl,rfl⟩;clear T1 T2 hab h2a h2b hpos a1 a2 b1' b2' NA NB IA IB RA RB C5 C6;go_wp2
    go_loopw [7,8] (fun x y wr'=>∃ x' y':Nat,x=.int .i64 x'/\y=.int .i64 y'/\x'<1000000000000000000/\y'<1000000000000000000/\Nat.gcd x' y'=G/\wr'=wr) (fun _ y _=>(intOf y).toNat)
    case atStart=>exact⟨a,gk,rfl,rfl,ha18,hb18,HG.out,rfl⟩
    case round =>
     clear HG ha18 hb18 h0 hla hlb HLA HLB;obtain⟨m,n,rfl,rfl,hm,hn,hg,rfl⟩:=hrel;have HG:=hid hg;clear hg;rcases Nat.eq_zero_or_pos n with h0 | h0
     ·subst h0;have HGM:=hid (show m=G by have:=HG.out; rw[Nat.gcd_zero_right] at this; exact this)
      go_wp2_with fail
      refine(wL m _ (by omega) (by omega)).mono ?_;rintro e w5 ⟨v5,rfl,hn5,hb5⟩;rw[HGM.out] at hn5;have HN5:=hid hn5;replace R4:=hid (R4.out.keep hb5);replace HB:=hid (Pu.aO HB.out hb5);clear hn5 hb5
      go_wp2_with (refine eT rfl (.tmp 4) (.tmp 46) rfl (w.heap.size+1+1) v5 _ rfl rfl HN5.out R4.out ?_)
      exact qG (v:=v5) (g:=w.heap.size+1+1) rfl rfl rfl R4.out HN5.out HB.out (by omega)
     ·have hni:(0:Int)<(n:Int):=by omega
      have hnn:¬ (n:Int)=0:=by omega
      have hr:((m:Int)).tmod (n:Int)=((m%n:Nat):Int):=by
       rw[Int.tmod_eq_emod_of_nonneg (by omega),Int.natCast_emod]
      have hlt:=Nat.mod_lt m h0;have hgn:Nat.gcd n (m%n)=G:=by rw[aAd]; exact HG.out
      obtain⟨k,hk⟩:∃ k,k=m%n:=⟨_,rfl⟩
      rw[<- hk] at hr hlt hgn;clear hk;go_wp2
      go_roundw
      case rel=>exact⟨n,k,rfl,rfl,hn,by omega,hgn,trivial⟩
      case measure =>
       show ((k:Int)).toNat<((n:Int)).toNat;omega
   ·have hb0:((gk:Nat):Int)≠0:=by omega
    have HDV:=hid (fun w1 va vb h1 h2=>aHs va vb (a:Int) (gk:Int) w1 h1 h2 hb0 hla hlb);have hm:((a:Int)%(gk:Int))=((a%gk:Nat):Int):=(Int.natCast_emod a gk).symm;rw[hm] at HDV;have hrl:(aA (a%gk)).length<=1099511610000:=Nat.le_trans (dW (Nat.le_of_lt (Nat.mod_lt a h0))) hlb;have hgn:Nat.gcd gk (a%gk)=G:=by rw[aAd]; exact HG.out
    have hlt:=Nat.mod_lt a h0;have HRL:=hid hrl;have HGN:=hid hgn;have HLT:=hid hlt;obtain⟨q,hq⟩:∃ q:Int,q=(a:Int)/(gk:Int):=⟨_,rfl⟩
    obtain⟨r,hr⟩:∃ r,r=a%gk:=⟨_,rfl⟩
    rw[<- hq,<- hr] at HDV;rw[<- hr] at HRL HGN HLT;clear hq hr hm hrl hgn hlt;by_cases h2a:((aA a).length:Int)<=2
    ·have h2b:¬ ((aA gk).length:Int)<=2:=by omega
     go_wp2_with (first | (with_reducible refine vT rfl (.tmp 5) rfl g5 _ _ rfl IA.out RA.out ?_) | (with_reducible refine vT rfl (.tmp 6) rfl g6 _ _ rfl IB.out RB.out ?_))
     refine(HDV.out _ _ _ IA.out IB.out).mono ?_;rintro e w3 ⟨s1,t1,rfl,hq1,hr1,hb⟩;obtain⟨q1,q2,q3,q4,rfl⟩:=hq1.open;obtain⟨r1,r2,r3,r4,rfl⟩:=hr1.open;have HR:=hid hr1;replace C5:=hid (C5.out.keep hb);replace C6:=hid (C6.out.keep hb);replace R4:=hid (R4.out.keep hb);replace HB:=hid (Pu.aO HB.out hb);clear hq1 hr1 hb a1 a2 b1' b2' NA NB IA IB RA RB HDV
     go_upto_region 13 with fail
     obtain⟨W3,hW3⟩:∃ W3,W3=((w3.alloc (Obj.cells #[Value.bool q1,Value.slice q2 q3 q4] 28)).alloc (Obj.cells #[Value.bool r1,Value.slice r2 r3 r4] 28)):=⟨_,rfl⟩
     have hb4:Below w3.heap.size w3 W3:=by rw[hW3]; exact((Below.refl _ _).alloc (Nat.le_refl _) _).alloc (by simp only[World.alloc,Array.size_push]; omega) _
     have h11:W3.heap[w3.heap.size+1]?=some (.cells #[Value.bool r1,Value.slice r2 r3 r4] 28 (0,0)):=by
      have h:=heap_alloc_new (w3.alloc (Obj.cells #[Value.bool q1,Value.slice q2 q3 q4] 28)) (Obj.cells #[Value.bool r1,Value.slice r2 r3 r4] 28);rw[show (w3.alloc (Obj.cells #[Value.bool q1,Value.slice q2 q3 q4] 28)).heap.size=w3.heap.size+1 by simp only[World.alloc,Array.size_push]] at h;rw[hW3];exact h
     have hsz6:g6<w3.heap.size+1:=by
      obtain⟨_,_,h⟩:=C6.out;have:=(Array.getElem?_eq_some_iff.1 h).1;omega
     rw[<- hW3];replace HR:=hid (HR.out.keep hb4);replace C5:=hid (C5.out.keep hb4);replace C6:=hid (C6.out.keep hb4);replace R4:=hid (R4.out.keep hb4);replace HB:=hid (Pu.aO HB.out hb4);have C11:=hid h11;generalize w3.heap.size+1=g11 at *;clear hW3 hb4 h11;obtain⟨so6,sc6,-,hi6,hh6⟩:=C6.out.nat;have I6:=hid hi6;have H6:=hid hh6;obtain⟨c1,c2,-,-⟩:=bQ hh6;clear hi6 hh6
     go_upto_region 14 with (first | (refine eT rfl (.tmp 5) (.tmp 53) rfl g5 _ _ rfl rfl I6.out C5.out.res ?_))
     have hres:=C5.out.res;replace C5:=hid (show cY (W3.setRow g5 #[Value.bool false,.slice so6 (aA gk).length sc6]) g5 (gk:Int) from cY.set hres I6.out);replace C6:=hid (show cY (W3.setRow g5 #[Value.bool false,.slice so6 (aA gk).length sc6]) g6 (gk:Int) from C6.out.apart hres (by omega) _);replace HR:=hid (show aW (W3.setRow g5 #[Value.bool false,.slice so6 (aA gk).length sc6]) (.agg #[Value.bool r1,Value.slice r2 r3 r4]) (r:Int) from HR.out.apart hres _);replace R4:=hid (R4.out.apart (r:=g5) (by omega) #[Value.bool false,.slice so6 (aA gk).length sc6]);replace C11:=hid ((setRow_other W3 g5 g11 #[Value.bool false,.slice so6 (aA gk).length sc6] (by omega)).trans C11.out);replace HB:=hid (mH HB.out (show w.heap.size<=g5 by omega) #[Value.bool false,.slice so6 (aA gk).length sc6]);clear I6 H6 hres c1 c2;obtain⟨c1,c2,-,-⟩:=bQ C11.out
     change Code.wp _ _ _ _ (W3.setRow g5 #[Value.bool false,.slice so6 (aA gk).length sc6])
     generalize W3.setRow g5 #[Value.bool false,.slice so6 (aA gk).length sc6]=W4 at *
     go_wp2_with (first | (refine eT rfl (.tmp 6) (.tmp 54) rfl g6 _ _ rfl rfl HR.out C6.out.res ?_))
     have hres:=C6.out.res;replace C6:=hid (show cY (W4.setRow g6 #[Value.bool r1,Value.slice r2 r3 r4]) g6 (r:Int) from cY.set hres HR.out);replace C5:=hid (show cY (W4.setRow g6 #[Value.bool r1,Value.slice r2 r3 r4]) g5 (gk:Int) from C5.out.apart hres (by omega) _);replace R4:=hid (R4.out.apart (r:=g6) (by omega) #[Value.bool r1,Value.slice r2 r3 r4]);replace HB:=hid (mH HB.out (show w.heap.size<=g6 by omega) #[Value.bool r1,Value.slice r2 r3 r4])
     go_roundg r
     case rel=>exact⟨gk,C5.out,C6.out,R4.out,HGN.out,hlb,HRL.out,HB.out⟩
     case measure=>exact HLT.out
    ·clear hab
     go_wp2_with (first | (with_reducible refine vT rfl (.tmp 5) rfl g5 _ _ rfl IA.out RA.out ?_) | (with_reducible refine vT rfl (.tmp 6) rfl g6 _ _ rfl IB.out RB.out ?_))
     refine(HDV.out _ _ _ IA.out IB.out).mono ?_;rintro e w3 ⟨s1,t1,rfl,hq1,hr1,hb⟩;obtain⟨q1,q2,q3,q4,rfl⟩:=hq1.open;obtain⟨r1,r2,r3,r4,rfl⟩:=hr1.open;have HR:=hid hr1;replace C5:=hid (C5.out.keep hb);replace C6:=hid (C6.out.keep hb);replace R4:=hid (R4.out.keep hb);replace HB:=hid (Pu.aO HB.out hb);clear hq1 hr1 hb a1 a2 b1' b2' NA NB IA IB RA RB HDV
     go_upto_region 13 with fail
     obtain⟨W3,hW3⟩:∃ W3,W3=((w3.alloc (Obj.cells #[Value.bool q1,Value.slice q2 q3 q4] 28)).alloc (Obj.cells #[Value.bool r1,Value.slice r2 r3 r4] 28)):=⟨_,rfl⟩
     have hb4:Below w3.heap.size w3 W3:=by rw[hW3]; exact((Below.refl _ _).alloc (Nat.le_refl _) _).alloc (by simp only[World.alloc,Array.size_push]; omega) _
     have h11:W3.heap[w3.heap.size+1]?=some (.cells #[Value.bool r1,Value.slice r2 r3 r4] 28 (0,0)):=by
      have h:=heap_alloc_new (w3.alloc (Obj.cells #[Value.bool q1,Value.slice q2 q3 q4] 28)) (Obj.cells #[Value.bool r1,Value.slice r2 r3 r4] 28);rw[show (w3.alloc (Obj.cells #[Value.bool q1,Value.slice q2 q3 q4] 28)).heap.size=w3.heap.size+1 by simp only[World.alloc,Array.size_push]] at h;rw[hW3];exact h
     have hsz6:g6<w3.heap.size+1:=by
      obtain⟨_,_,h⟩:=C6.out;have:=(Array.getElem?_eq_some_iff.1 h).1;omega
     rw[<- hW3];replace HR:=hid (HR.out.keep hb4);replace C5:=hid (C5.out.keep hb4);replace C6:=hid (C6.out.keep hb4);replace R4:=hid (R4.out.keep hb4);replace HB:=hid (Pu.aO HB.out hb4);have C11:=hid h11;generalize w3.heap.size+1=g11 at *;clear hW3 hb4 h11;obtain⟨so6,sc6,-,hi6,hh6⟩:=C6.out.nat;have I6:=hid hi6;have H6:=hid hh6;obtain⟨c1,c2,-,-⟩:=bQ hh6;clear hi6 hh6
     go_upto_region 14 with (first | (refine eT rfl (.tmp 5) (.tmp 53) rfl g5 _ _ rfl rfl I6.out C5.out.res ?_))
     have hres:=C5.out.res;replace C5:=hid (show cY (W3.setRow g5 #[Value.bool false,.slice so6 (aA gk).length sc6]) g5 (gk:Int) from cY.set hres I6.out);replace C6:=hid (show cY (W3.setRow g5 #[Value.bool false,.slice so6 (aA gk).length sc6]) g6 (gk:Int) from C6.out.apart hres (by omega) _);replace HR:=hid (show aW (W3.setRow g5 #[Value.bool false,.slice so6 (aA gk).length sc6]) (.agg #[Value.bool r1,Value.slice r2 r3 r4]) (r:Int) from HR.out.apart hres _);replace R4:=hid (R4.out.apart (r:=g5) (by omega) #[Value.bool false,.slice so6 (aA gk).length sc6]);replace C11:=hid ((setRow_other W3 g5 g11 #[Value.bool false,.slice so6 (aA gk).length sc6] (by omega)).trans C11.out);replace HB:=hid (mH HB.out (show w.heap.size<=g5 by omega) #[Value.bool false,.slice so6 (aA gk).length sc6]);clear I6 H6 hres c1 c2;obtain⟨c1,c2,-,-⟩:=bQ C11.out
     change Code.wp _ _ _ _ (W3.setRow g5 #[Value.bool false,.slice so6 (aA gk).length sc6])
     generalize W3.setRow g5 #[Value.bool false,.slice so6 (aA gk).length sc6]=W4 at *
     go_wp2_with (first | (refine eT rfl (.tmp 6) (.tmp 54) rfl g6 _ _ rfl rfl HR.out C6.out.res ?_))
     have hres:=C6.out.res;replace C6:=hid (show cY (W4.setRow g6 #[Value.bool r1,Value.slice r2 r3 r4]) g6 (r:Int) from cY.set hres HR.out);replace C5:=hid (show cY (W4.setRow g6 #[Value.bool r1,Value.slice r2 r3 r4]) g5 (gk:Int) from C5.out.apart hres (by omega) _);replace R4:=hid (R4.out.apart (r:=g6) (by omega) #[Value.bool r1,Value.slice r2 r3 r4]);replace HB:=hid (mH HB.out (show w.heap.size<=g6 by omega) #[Value.bool r1,Value.slice r2 r3 r4])
     go_roundg r
     case rel=>exact⟨gk,C5.out,C6.out,R4.out,HGN.out,hlb,HRL.out,HB.out⟩
     case measure=>exact HLT.out
end Zn
end Go.Proofs.YtbaihklbefhgdaaGreat
