/-
  
-/
import Derived.Test.YtbaihklbefhgdaaGreatRows
import Derived.Test.YtbaihklbefhgdaaGreatSC1
import Derived.Test.YtbaihklbefhgdaaGreatSC2
set_option linter.unusedVariables false
set_option linter.unusedSimpArgs false
set_option linter.unusedSectionVars false
namespace Go.Proofs.YtbaihklbefhgdaaGreat
open Go.RowKit
open Go.Lib (hid)
open Dg
namespace Zn
theorem keepCell {w w':World} (h:Below w.heap.size w w') {a:Addr} {v:Value} (hv:w.cell? a=some v):w'.cell? a=some v:=by
 rcases Nat.lt_or_ge a.block w.heap.size with hb | hb
 ·exact(h.cell hb).trans hv
 ·exfalso;simp only[World.cell?] at hv;rw[Array.getElem?_eq_none (by omega)] at hv;cases hv
def aL (w:World) (v:Value) (ds:List Nat):Prop :=
 ∃ ao cap,v=.slice ao ds.length cap/\ds.length<=cap/\cap<=maxLen/\(0<ds.length->∃ b off,ao=some ⟨b,off,none⟩/\∀ i,i<ds.length->w.cell? ⟨b,off+i,none⟩=some (.int .i64 ((ds.getD i 0:Nat):Int)))
theorem aL.keep {w w':World} {v:Value} {ds:List Nat} (h:aL w v ds) (hb:Below w.heap.size w w'):aL w' v ds:=by
 obtain⟨ao,cap,h1,h2,h3,h4⟩:=h;refine⟨ao,cap,h1,h2,h3,fun hl=>?_⟩;obtain⟨b,off,h5,h6⟩:=h4 hl;exact⟨b,off,h5,fun i hi=>keepCell hb (h6 i hi)⟩
theorem aL.nil {w:World} {ao:Option Addr} {cap:Nat} (h:cap<=maxLen):aL w (.slice ao 0 cap) [] :=
 ⟨ao,cap,rfl,Nat.zero_le _,h,fun h=>absurd h (by decide)⟩
theorem aEr {w:World} {b off n cap:Nat} {ds:List Nat} (hn:ds.length=n) (hl:n<=cap) (h:cap<=maxLen) (hc:∀ i,i<n->w.cell? ⟨b,off+i,none⟩=some (.int .i64 ((ds.getD i 0:Nat):Int))):aL w (.slice (some ⟨b,off,none⟩) n cap) ds:=by
 subst hn;exact⟨_,cap,rfl,hl,h,fun _=>⟨b,off,rfl,hc⟩⟩
def xM (w:World) (ds:List Nat) (e:Ending) (w':World):Prop:=∃ v,e=.returned v/\aL w' v ds/\Below w.heap.size w w'
def aYo (v0:Value) (ds:List Nat) (w:World) (e:Ending) (w':World):Prop:=∃ v,e=.returned v/\w=w'/\∀ w0,aL w0 v0 ds->aL w0 v (dV ds)
theorem aL.take {w:World} {ao:Option Addr} {n cap:Nat} {ds:List Nat} (h:aL w (.slice ao n cap) ds) (k:Nat) (hk:k<=n):aL w (.slice ao k cap) (ds.take k):=by
 obtain⟨ao',cap',h1,h2,h3,h4⟩:=h;cases h1;have e:(ds.take k).length=k:=by rw[List.length_take,Nat.min_eq_left hk]
 refine⟨ao,cap,by rw[e],by omega,h3,fun hl=>?_⟩;obtain⟨b,off,h5,h6⟩:=h4 (by omega);refine⟨b,off,h5,fun i hi=>?_⟩;rw[e] at hi;rw[List.getD_eq_getElem?_getD,List.getElem?_take,if_pos hi,<- List.getD_eq_getElem?_getD];exact h6 i (by omega)
theorem wJ (ds:List Nat) (k i:Nat) (h:i<k):(ds.take k).getD i 0=ds.getD i 0:=by
 simp[List.getD_eq_getElem?_getD,h]
set_option maxHeartbeats 400000 in
theorem uA (v:Value) (ds:List Nat) (w:World) (hv:aL w v ds) :
  Calls Tryz.prog 220 #[v] w (aYo v ds w):=by
 obtain⟨ao,cap,rfl,hlc,hcm,hcells⟩:=hv;have HCE:=hid hcells;clear hcells;unfold maxLen at hcm
 go_enter Tryz.func220,Tryz.ntmps220
 go_wp2
 go_loopw [0] (fun a wr=>∃ k:Nat,k<=ds.length/\a=.slice ao k cap/\dV (ds.take k)=dV ds/\w=wr) (fun a _=>match a with | .slice _ n _=>n | _=>0)
 case atStart=>exact⟨ds.length,Nat.le_refl _,rfl,by rw[List.take_length],rfl⟩
 case round =>
  obtain⟨k,hk,rfl,htr,rfl⟩:=hrel;have HT:=hid htr;clear htr;rcases Nat.eq_zero_or_pos k with h0 | h0
  ·subst h0;go_wp2
   go_ret
   have h:=HT.out;rw[List.take_zero] at h;exact⟨.slice ao 0 cap,rfl,rfl,fun w0 h0=>by rw[<- h]; exact h0.take 0 (Nat.zero_le _)⟩
  ·obtain⟨j,rfl⟩:∃ j,k=j+1:=⟨k-1,by omega⟩
   obtain⟨b,off,rfl,hc⟩:=HCE.out (by omega);obtain⟨d,hd⟩:∃ d,d=ds.getD j 0:=⟨_,rfl⟩
   have hcj:=hc j (by omega);rw[<- hd] at hcj;have HC:=hid hc;have HD:=hid hd;clear hc hd;by_cases hz:d=0
   ·subst hz;go_wp2
    go_roundw
    case rel =>
     refine⟨j,by omega,by simp,?_,trivial⟩;have h:=HT.out;rw[rW (by omega) hk,show j+1-1=j from rfl,<- HD.out,yS] at h;exact h
    case measure=>simp
   ·have hz2:((d:Int)==0)=false:=by simp; omega
    go_wp2
    go_ret
    have h:=HT.out;have h2:=rW (show 0<j+1 by omega) hk;rw[show j+1-1=j from rfl,<- HD.out] at h2;rw[h2,aCs hz,<- h2] at h;exact⟨.slice (some ⟨b,off,none⟩) (j+1) cap,rfl,rfl,fun w0 h0=>by rw[<- h]; exact h0.take (j+1) hk⟩
def bAq (w:World) (s:Int) (e:Ending) (w':World):Prop:=e=.returned (.tuple #[.int .i64 (s%1000000000),.int .i64 (s/1000000000)])/\w=w'
theorem aNm {s:Int} (h:0<=s):s.tmod 1000000000=s%1000000000/\s.tdiv 1000000000=s/1000000000 :=
 ⟨Int.tmod_eq_emod_of_nonneg h,Int.tdiv_eq_ediv_of_nonneg h⟩
theorem aNn {s:Int} (h:s<0):s.tmod 1000000000 = -((-s)%1000000000)/\s.tdiv 1000000000 = -((-s)/1000000000):=by
 obtain⟨m,rfl⟩:∃ m,s = -m:=⟨-s,by omega⟩
 rw[Int.neg_tmod,Int.neg_tdiv,Int.neg_neg,Int.tmod_eq_emod_of_nonneg (by omega),Int.tdiv_eq_ediv_of_nonneg (by omega)];exact⟨rfl,rfl⟩
theorem aSf {k l:IntKind} {a b c d:Int} (h:a=c) (h':b=d):Ending.returned (.tuple #[.int k a,.int l b])=.returned (.tuple #[.int k c,.int l d]):=by rw[h,h']
set_option maxHeartbeats 400000 in
theorem wD (s:Int) (w:World) (h1 : -9000000000000000000<=s) (h2:s<=9000000000000000000) :
  Calls Tryz.prog 221 #[.int .i64 s] w (bAq w s):=by
 go_enter Tryz.func221,Tryz.ntmps221
 go_wp2
 all_goals
  rename_i h;go_ret2;refine⟨aSf ?_ ?_,rfl⟩
  all_goals
   rcases Int.lt_or_le s 0 with h0 | h0
   ·obtain⟨e1,e2⟩:=aNn h0;rw[e1] at h
    (first | rw[e1] | rw[e2])<;>first | omega | (unfold wrap64; omega)
   ·obtain⟨e1,e2⟩:=aNm h0;rw[e1] at h
    (first | rw[e1] | rw[e2])<;>first | omega | (unfold wrap64; omega)
def aW (w:World) (v:Value) (z:Int):Prop:=∃ s,v=.agg #[.bool (decide (z<0)),s]/\aL w s (aA z.natAbs)
theorem aW.keep {w w':World} {v:Value} {z:Int} (h:aW w v z) (hb:Below w.heap.size w w'):aW w' v z:=by
 obtain⟨s,h1,h2⟩:=h;exact⟨s,h1,h2.keep hb⟩
def fF (w:World) (z:Int) (e:Ending) (w':World):Prop:=∃ v,e=.returned v/\aW w' v z/\Below w.heap.size w w'
def mk (neg:Bool) (n:Nat):Int:=if neg then -(n:Int) else n
theorem jL (neg:Bool) (n:Nat):(mk neg n).natAbs=n:=by cases neg<;>simp[mk]
theorem aFy (neg:Bool) (n:Nat) (h:n≠0):decide (mk neg n<0)=neg:=by
 cases neg
 ·simp[mk]
 ·simp[mk]; omega
set_option maxHeartbeats 400000 in
theorem kS (neg:Bool) (v:Value) (ds:List Nat) (w:World) (hv:aL w v ds) (hd:aP ds) :
  Calls Tryz.prog 195 #[.bool neg,v] w (fF w (mk neg (val ds))):=by
 have HD:=hid (nB hd);have HV:=hid hv;clear hv
 go_enter Tryz.func195,Tryz.ntmps195
 go_wp2_with fail
 refine(uA v ds _ (HV.out.keep ((Below.refl _ _).alloc (Nat.le_refl _) _))).mono ?_;rintro e w' ⟨v',rfl,rfl,hn⟩;have hn:=hn _ HV.out;obtain⟨ao,cap,rfl,h1,h2,h3⟩:=hn;have H3:=hid h3;clear h3;unfold maxLen at h2;rcases Nat.eq_zero_or_pos (dV ds).length with h0 | h0
 ·have H0:=hid h0;rw[h0] at h1 |-;clear h0;go_wp2;refine bodyPost_ret (v:=.agg #[.bool false,.slice none 0 0]) (by simp[results,Tryz.results195,go_sem]) rfl ?_;have hz:val ds=0:=by
   have h:=HD.out;rw[List.eq_nil_of_length_eq_zero H0.out,jF] at h;exact h
  refine⟨_,rfl,⟨.slice none 0 0,?_,?_⟩,(Below.refl _ _).alloc (Nat.le_refl _) _⟩
  ·rw[hz]; cases neg<;>rfl
  ·rw[hz,jL]; exact aL.nil (by decide)
 ·have hne:((((dV ds).length:Nat):Int)==0)=false:=by rw[beq_eq_false_iff_ne]; omega
  go_wp2;refine bodyPost_ret (v:=.agg #[.bool neg,.slice ao (dV ds).length cap]) (by simp[results,Tryz.results195,go_sem]) rfl ?_;have hz:val ds≠0:=by
   intro h;have h5:=HD.out;rw[h,gA] at h5;rw[<- h5] at h0;exact absurd h0 (by decide)
  refine⟨_,rfl,⟨.slice ao (dV ds).length cap,?_,?_⟩,?_⟩
  ·rw[aFy _ _ hz]
  ·rw[jL,HD.out];refine⟨ao,cap,rfl,h1,h2,fun hl=>?_⟩;obtain⟨b,off,he,hc⟩:=H3.out hl;exact⟨b,off,he,fun i hi=>keepCell ((Below.refl _ _).alloc (Nat.le_refl _) _) (hc i hi)⟩
  ·exact(Below.refl _ _).alloc (Nat.le_refl _) _
def bX (w:World) (B:Nat) (zs:List Int):Prop:=w.heap[B]?=some (.cells (zs.map (Value.int .i64)).toArray 3 (0,0))
theorem bX.cell {w:World} {B:Nat} {zs:List Int} (h:bX w B zs) {i:Nat} (hi:i<zs.length):w.cell? ⟨B,i,none⟩=some (.int .i64 (zs.getD i 0)):=by
 rw[cell_of_row w B i _ _ (0,0) h];simp[hi]
theorem mW {w:World} {B:Nat} {zs:List Int} (h:bX w B zs) (i:Nat):w.frozen? ⟨B,i,none⟩=false:=frozen_of_row w B i _ _ h
theorem bX.lt {w:World} {B:Nat} {zs:List Int} (h:bX w B zs):B<w.heap.size:=by
 rcases Nat.lt_or_ge B w.heap.size with h1 | h1
 ·exact h1
 ·unfold bX at h;rw[Array.getElem?_eq_none (by omega)] at h;cases h
theorem bX.store {w:World} {B:Nat} {zs:List Int} (h:bX w B zs) (i:Nat) (z:Int):bX (w.setCell ⟨B,i,none⟩ (.int .i64 z)) B (zs.set i z):=by
 have:=heap_setCell_same w B i _ _ (.int .i64 z) h;unfold bX;rw[this];simp[List.map_set]
theorem bX.keep {w w':World} {B:Nat} {zs:List Int} (h:bX w B zs) (hb:Below w.heap.size w w'):bX w' B zs:=(hb.block B h.lt).trans h
theorem bX.made (w:World) (n:Nat):bX (w.alloc (.cells (madeCells (Value.int .i64 0).cells (n*1)) 3)) w.heap.size (List.replicate n 0):=by
 unfold bX;rw[heap_alloc_new];congr 2;refine Array.ext' ?_;refine List.ext_getElem? fun i=>?_;simp only[madeCells,Value.cells,Nat.mul_one];rcases Nat.lt_or_ge i n with h | h
 ·simp[h,Nat.mod_one]
 ·simp[h]
theorem bX.nums {w:World} {B:Nat} {zs:List Int} (h:bX w B zs) (off n cap:Nat) (ds:List Nat) (hn:ds.length=n) (hc:n<=cap) (hm:cap<=maxLen) (ho:off+n<=zs.length) (he:∀ i,i<n->zs.getD (off+i) 0=((ds.getD i 0:Nat):Int)):aL w (.slice (some ⟨B,off,none⟩) n cap) ds :=
 aEr hn hc hm fun i hi=>by rw[h.cell (i:=off+i) (by omega),he i hi]
theorem getD_map (ds:List Nat) (i:Nat):(ds.map Int.ofNat).getD i 0=((ds.getD i 0:Nat):Int):=by
 simp only[List.getD_eq_getElem?_getD,List.getElem?_map];cases ds[i]?<;>rfl
theorem oX {w:World} {ops:Array Oper} {rest:List Oper} {o:Oper} {a:Act} {Q:Exit->Act->World->Prop}
  (hg:o.guard=none) (l c:Operand) (hop:o.op=Op.makeSlice 22 l c) (i:TypeInfo)
  (hi:Tryz.prog.info? 3=some i) (hz0:i.zero=some (.int .i64 0)) (hz1:i.size=1) (hz2:i.bytes=8) (hu:Tryz.prog.underlying 22=some (.slice 3))
  (L C:Int) (n:Nat) (hl:a.eval l=.int .i64 L) (hc:a.eval c=.int .i64 C) (hL:L=(n:Int)) (hC:C=(n:Int)) (hn:n<=17592186044416)
  (hK:∀ w',bX w' w.heap.size (List.replicate n 0)->Below w.heap.size w w'->w'.heap.size=w.heap.size+1->wpList Tryz.prog ops Q rest (a.put o.dst (.slice (some ⟨w.heap.size,0,none⟩) n n)) w') :
  wpList Tryz.prog ops Q (o::rest) a w:=by
 refine wpList_plain hg fun K hK'=>?_;have hr:=run_make (P:=Tryz.prog) w 22 3 i (.int .i64 0) hu hi hz0 .i64 .i64 (n:Int) (n:Int) (by omega) (Int.le_refl _) (by rw[hz2]; omega) (by omega);rw[Int.toNat_natCast,hz1] at hr;subst hL;subst hC;unfold Oper.wp;simp[execOp,hop,hl,hc,hr,Result.andThen];have hR:=bX.made w n;rw[Nat.mul_one] at hR;exact hK' _ _ (hK _ hR ((Below.refl _ _).alloc (Nat.le_refl _) _) (by simp))
theorem kR:(Tryz.prog.info? 3).map (fun i=>(i.zero,i.size,i.bytes))=some (some (.int .i64 0),1,8):=by kernel_rfl
theorem fN:Tryz.prog.underlying 22=some (.slice 3):=by kernel_rfl
end Zn
end Go.Proofs.YtbaihklbefhgdaaGreat
