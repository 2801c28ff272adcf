/-
  
-/
import Derived.Test.YtbaihklbefhgdaaGreatSC43
import Derived.Test.YtbaihklbefhgdaaGreatSC41
import Derived.Test.YtbaihklbefhgdaaGreatSC40
import Derived.Test.YtbaihklbefhgdaaGreatSC11
import Derived.Test.YtbaihklbefhgdaaGreatSC32
set_option linter.unusedVariables false
set_option linter.unusedSimpArgs false
set_option linter.unusedSectionVars false
namespace Go.Proofs.YtbaihklbefhgdaaGreat
open Go.RowKit Go.Shelf
open Dg Zn
namespace Vc
attribute [local go_sem] Oper.semAt_some
def jC (n B:Nat) (W W':World):Prop:=W.heap.size<=W'.heap.size/\∀ b,b<n->b≠B->W'.heap[b]?=W.heap[b]?
theorem jC.refl (n B:Nat) (W:World):jC n B W W:=⟨Nat.le_refl _,fun _ _ _=>rfl⟩
theorem jC.trans {n B:Nat} {X Y Z:World} (h:jC n B X Y) (k:jC n B Y Z):jC n B X Z:=⟨Nat.le_trans h.1 k.1,fun b hb hne=>(k.2 b hb hne).trans (h.2 b hb hne)⟩
theorem jC.put {n B:Nat} {w:World} (hn:n<=w.heap.size) (W:World) (l:Nat) (o o':Obj) (hl:w.heap.size<=l) (_:W.heap[l]?=some o) (_:o.isCells=false) (_:o.isWalk=false):jC n B W (W.putObj l o') :=
 ⟨by simp,fun b hb _=>World.putObj_heap_other (by omega)⟩
def yO (len:Nat) (V:Nat->Value) (k:Nat):Array Value:=#[.int .i64 ((len-1-k:Nat):Int),V (len-1-k)]
theorem aR1 {len cap Bs b off B n:Nat} {ao:Option Addr} {C:Nat->Nat->Value} {w1:World} (hn:1<=n) (hao:0<len->ao=some ⟨b,off,none⟩) (hreach:len<=1000000) (hBs:w1.cell? ⟨Bs,0,none⟩=some (.slice ao len cap)) (hBB:Bs≠B)
  (hc:0<len->b≠B/\∀ j,j<len->w1.cell? ⟨b,off+j*4,none⟩=some (C j 0)/\w1.cell? ⟨b,off+j*4+1,none⟩=some (C j 1)/\w1.cell? ⟨b,off+j*4+2,none⟩=some (C j 2)/\w1.cell? ⟨b,off+j*4+3,none⟩=some (C j 3)) :
  SeqStopsK Fence.wide n Tryz.prog 227 #[.pointer (some ⟨Bs,0,none⟩)] (yO len fun j=>.agg #[C j 0,C j 1,C j 2,C j 3]) (jC w1.heap.size B) (fun ys=>ys=lZ id len) (fun pre=>∃ k,k<=len/\pre=lZ id k) len w1:=by
 intro l J Jx W hW _ _ hY h0;have hk:∀ wr,jC w1.heap.size B W wr->∀ c o u,c≠B->w1.cell? ⟨c,o,none⟩=some u->wr.cell? ⟨c,o,none⟩=some u:=by
  intro wr hwr c o u hcB hu;have hl:=uV hu;exact(World.cell?_of_block ((hwr.2 c hl hcB).trans (hW.block c hl))).trans hu
 exact aWj Fence.wide n trivial rfl hn l Bs b off len cap ao hao (jC w1.heap.size B) jC.trans C hreach id (yO len fun j=>.agg #[C j 0,C j 1,C j 2,C j 3]) (fun _ _=>rfl) J Jx hY W (jC.refl _ _ _) (fun wr hwr=>hk wr hwr Bs 0 _ hBB hBs)
  (fun wr hwr j hj=>by
   obtain⟨hbB,hcs⟩:=hc (by omega);obtain⟨q0,q1,q2,q3⟩:=hcs j hj;exact⟨hk wr hwr _ _ _ hbB q0,hk wr hwr _ _ _ hbB q1,hk wr hwr _ _ _ hbB q2,hk wr hwr _ _ _ hbB q3⟩) h0
structure oT (w w1:World) (L:Nat->Prop) (B:Nat) (k:Option Nat) (T:TypeId) (s:SA Dm) (W:World):Prop where
 below:Below w.heap.size w W
 size:w1.heap.size<=W.heap.size
 same:∀ b,b<w1.heap.size->b≠B->W.heap[b]?=w1.heap[b]?
 var:∃ v,∃ cs:List Value,W.heap[B]?=some (.cells cs.toArray T (0,0))/\Shaped k v cs/\iZ L W s v/\∀ c∈cs,cZ c=true
theorem oT.own {w w1:World} {L:Nat->Prop} {B:Nat} {k:Option Nat} {T:TypeId} {f:List Nat->SA Dm} (hw:w.heap.size<=w1.heap.size):OwnFrom w1.heap.size (fun pre W=>oT w w1 L B k T (f pre) W):=by
 intro pre W W' row ⟨h1,h2,h3,v,cs,h4,h5,h6,h7⟩ hg hr;have hb:∀ b o,W.heap[b]?=some o->(b<w1.heap.size\/o.isCells=true)->W'.heap[b]?=W.heap[b]?:=by
  intro b o ho hc;refine hg.block b (Array.getElem?_eq_some_iff.1 ho).1 fun e=>?_;obtain⟨q1,o',q2,q3⟩:=hr b e.symm;rw[ho] at q2;obtain rfl:=Option.some.inj q2;rcases hc with hc | hc
  ·omega
  ·rw[hc] at q3; cases q3
 refine⟨⟨hg.os.trans h1.os,hg.tape.trans h1.tape,hg.output.trans h1.output,Nat.le_trans h1.size hg.size,fun b hb'=>?_⟩,Nat.le_trans h2 hg.size,fun b hb' hne=>?_,v,cs,?_,h5,?_,h7⟩
 ·have hl:b<W.heap.size:=by omega
  rw[hb b W.heap[b] (Array.getElem?_eq_getElem hl) (.inl (by omega))];exact h1.block b hb'
 ·have hl:b<W.heap.size:=by omega
  rw[hb b W.heap[b] (Array.getElem?_eq_getElem hl) (.inl hb')];exact h3 b hb' hne
 ·rw[hb B _ h4 (.inr rfl)]; exact h4
 ·exact h6.keep (aH3 hg fun r e=>(hr r e).2)
end Vc
end Go.Proofs.YtbaihklbefhgdaaGreat

namespace Go.Proofs.YtbaihklbefhgdaaGreat
open Go.RowKit Go.Shelf
open Dg Zn
namespace Vc
attribute [local go_sem] Oper.semAt_some
def cF (cs:List Value) (j i:Nat):Value:=(cs[j*4+i]?).getD undef
theorem aGj {w:World} {l:List (SA Dm)} {cs:List Value} {j:Nat} {s:SA Dm} (h:dF w (some 4) l cs) (hs:l[j]?=some s):(s.at w (.agg #[cF cs j 0,cF cs j 1,cF cs j 2,cF cs j 3])/\Shaped (some 4) (.agg #[cF cs j 0,cF cs j 1,cF cs j 2,cF cs j 3]) [cF cs j 0,cF cs j 1,cF cs j 2,cF cs j 3])/\∀ i,i<4->cs[j*4+i]?=some (cF cs j i):=by
 obtain⟨pre,p,post,v,q1,q2,q3,q4⟩:=h.at hs;have q2:pre.length=j*4:=q2;have hp:p.length=4:=q3.length;have hi:∀ i,i<4->cs[j*4+i]?=some (cF cs j i):=by
  intro i hi;have hl:j*4+i<cs.length:=by rw[q1]; simp only[List.length_append]; omega
  unfold cF;rw[List.getElem?_eq_getElem hl];rfl
 have hpi:∀ i,i<4->p[i]?=some (cF cs j i):=by
  intro i hi4;rw[<- hi i hi4,q1,List.append_assoc,List.getElem?_append_right (by omega),q2,Nat.add_sub_cancel_left,List.getElem?_append_left (by omega)]
 have he:p=[cF cs j 0,cF cs j 1,cF cs j 2,cF cs j 3]:=by
  match p,hp,hpi with
  | [a,b,c,d],_,hpi =>
   have h0:=hpi 0 (by decide);have h1:=hpi 1 (by decide);have h2:=hpi 2 (by decide);have h3:=hpi 3 (by decide);simp at h0 h1 h2 h3;rw[h0,h1,h2,h3]
 have hv:v=.agg p.toArray:=q3.1;subst he;rw[hv] at q4 q3;exact⟨⟨q4,q3⟩,hi⟩
theorem aR2 {a:Act} {W:World} {u7 u11 id l n:Nat} {c0 c1 c2 c3:Value} {K:Act->World->Prop} {o1 o2:Oper} (hn:u7<a.tmps.size) (hne:u11≠u7) (h11:a.tmps.getD u11 undef=.agg #[c0,c1,c2,c3]) (hone:Shaped (some 4) (.agg #[c0,c1,c2,c3]) [c0,c1,c2,c3])
  (g1:o1.guard=none) (g2:o2.guard=none) (d1:o1.dst=some u7) (d2:o2.dst=none) (e1:o1.op=.alloc 30) (e2:o2.op=.store 30 (.tmp u7) (.tmp u11))
  (hK:∀ W2,Below W.heap.size W W2->W2.heap.size=W.heap.size+1->W2.heap[W.heap.size]?=some (.cells [c0,c1,c2,c3].toArray 30 (0,0))->K (a.put (some u7) (.pointer (some ⟨W.heap.size,0,none⟩))) W2) :
  (Code.region id #[o1,o2] false).wpIn (rK l) n Tryz.prog (Exit.then K (fun _ _ _=>False)) a W:=by
 refine wpIn_region_list (uT (fun ⟨_,_,h⟩=>h) _ _ _ (by simp[nL,e1,e2]) ?_);refine wpList_step fun K1 hK1=>?_;rw[if_pos (by simp[Region.wanted,g1])];have hzr:(zeroValue 30).run Tryz.prog W=.ok dX W:=by
  cases hq:Tryz.prog.info? 30 with
  | none=>have:=gL; rw[hq] at this; cases this
  | some inf =>
   have hz:=gL;rw[hq] at hz;simp only[Option.map_some,Option.some.injEq,Prod.mk.injEq] at hz;simp[zeroValue,typeInfo,hq,hz.1]
 have r1:(execOp a.eval o1).run Tryz.prog W=.ok (.value (.pointer (some ⟨W.heap.size,0,none⟩))) (W.alloc (.cells dX.cells 30)):=by
  simp only[execOp,e1,Sem.run_bind,Instr.alloc,hzr,newVar,newRow,run_newObj_alloc,Sem.run_pure,Result.andThen_ok]
 unfold Oper.wp;rw[r1,Oper.upon_value,d1];refine hK1 _ _ ?_;clear hK1 K1 r1 hzr;have hw1:(W.alloc (.cells dX.cells 30)).heap[W.heap.size]?=some (.cells ([]++[Value.bool false,.slice none 0 0,.bool false,.slice none 0 0]++[]).toArray 30 (0,0)):=heap_alloc_new W _;have hs1:(W.alloc (.cells dX.cells 30)).heap.size=W.heap.size+1:=Array.size_push _;have hb1:Below W.heap.size W (W.alloc (.cells dX.cells 30)):=(Below.refl _ _).alloc (Nat.le_refl _) _;obtain⟨W1,hW1⟩:∃ W1,W1=W.alloc (.cells dX.cells 30):=⟨_,rfl⟩
 rw[<- hW1] at hw1 hs1 hb1 |-;clear hW1;have t7:(a.put (some u7) (.pointer (some ⟨W.heap.size,0,none⟩))).tmps.getD u7 undef=.pointer (some ⟨W.heap.size,0,none⟩):=by rw[jK hn rfl,if_pos rfl]
 have t11:(a.put (some u7) (.pointer (some ⟨W.heap.size,0,none⟩))).tmps.getD u11 undef=.agg #[c0,c1,c2,c3]:=by rw[jK hn rfl,if_neg hne]; exact h11
 refine wpList_step fun K1 hK1=>?_;rw[if_pos (by simp[Region.wanted,g2])];have hc:∀ j,j<4->∃ u,W1.cell? ⟨W.heap.size,j,none⟩=some u:=by
  intro j hj;simp only[World.cell?,hw1];have:j<([]++[Value.bool false,.slice none 0 0,.bool false,.slice none 0 0]++[]).toArray.size:=hj;exact⟨_,Array.getElem?_eq_getElem this⟩
 have r2:(execOp (a.put (some u7) (.pointer (some ⟨W.heap.size,0,none⟩))).eval o2).run Tryz.prog W1=.ok .skip (W1.setCells W.heap.size 0 [c0,c1,c2,c3]):=by
  have hst:=run_storeCells_cells (P:=Tryz.prog) W.heap.size 0 [c0,c1,c2,c3] 0 W1 (fun j hj=>by
   obtain⟨u,hu⟩:=hc j hj;rw[Nat.add_zero,Nat.zero_add,hu];rfl) (fun j hj=>by simp[World.frozen?,hw1]) hone.one
  rw[Nat.add_zero] at hst;have ev7:(a.put (some u7) (.pointer (some ⟨W.heap.size,0,none⟩))).eval (.tmp u7)=.pointer (some ⟨W.heap.size,0,none⟩):=t7;have ev11:(a.put (some u7) (.pointer (some ⟨W.heap.size,0,none⟩))).eval (.tmp u11)=.agg #[c0,c1,c2,c3]:=t11;have ec:(Value.agg #[c0,c1,c2,c3]).cells=#[c0,c1,c2,c3]:=hone.cells;have hsz:=zC W1;simp only[execOp,e2,ev7,ev11,Sem.run_bind,Sem.run_pure,Result.andThen_ok,Instr.storeAt,Instr.sureAddr,storeVar,hsz,ec];simp[hst]
 unfold Oper.wp;rw[r2,Oper.upon_skip,d2];refine hK1 _ _ ?_;clear hK1 K1 r2;show Exit.then _ _ .normal (a.put (some u7) (.pointer (some ⟨W.heap.size,0,none⟩))) _;refine hK _ ?_ (by rw[lC,hs1]) ?_
 ·refine⟨by rw[os_setCells]; exact hb1.os,by rw[nU]; exact hb1.tape,by rw[nV]; exact hb1.output,by rw[lC,hs1]; omega,fun j hj=>?_⟩;rw[mD _ _ _ _ j (by omega)];exact hb1.block j hj
 ·exact oY W.heap.size 30 [c0,c1,c2,c3] [Value.bool false,.slice none 0 0,.bool false,.slice none 0 0] [] [] W1 rfl hw1
def jB (L:Nat->Prop) (B:Nat):Nat->Prop:=fun b=>L b\/b=B
section
variable {w w1 W:World} {L:Nat->Prop} {B:Nat} {k:Option Nat} {T:TypeId} {s:SA Dm}
theorem aZc (hlt:∀ b,L b->b<w.heap.size) (hW:w.heap.size<=W.heap.size) (hB:B<W.heap.size):∀ b,jB L B b->b<W.heap.size:=by
 rintro b (h | rfl)
 ·have:=hlt b h; omega
 ·exact hB
theorem aZb (hlt:∀ b,L b->b<w.heap.size) (hni:gO L w) (h:oT w w1 (jB L B) B k T s W):gO (jB L B) W:=by
 rintro b (hb | rfl) cs T' fr hc c hcm
 ·rw[h.below.block b (hlt b hb)] at hc;exact hni b hb cs T' fr hc c hcm
 ·obtain⟨v,cs',h1,_,_,h4⟩:=h.var;rw[h1] at hc;obtain⟨rfl,-,-⟩:=(Obj.cells.injEq _ _ _ _ _ _).mp (Option.some.inj hc);exact h4 c (by simpa using hcm)
theorem zB {x:SA Dm} {v:Value} (hB:w.heap.size<=B) (hb:Below w.heap.size w W) (h:iZ L w x v):iZ (jB L B) W x v:=by
 intro W' hk;refine h W' ⟨Nat.le_trans hb.size hk.1,fun b hnl off u hu=>?_⟩;have hl:=uV hu;refine hk.2 b (fun q=>?_) off u ((World.cell?_of_block (hb.block b hl)).trans hu);rcases q with q | q
 ·exact hnl q
 ·omega
theorem aFu {L':Nat->Prop} {ρ:aR} {b:Nat} {v:Value} {cs:List Value} (hb:W.heap[b]?=some (.cells cs.toArray T (0,0))) (hnl:¬ L' b) (hsh:Shaped k v cs) (hs:iZ L' W s v):(SA.d (Dm.gen (pG k s))).is L' ρ W (.pointer (some ⟨b,0,none⟩)):=by
 intro w' hag;refine⟨b,0,v,rfl,cs,hsh,hs w' (.agree hag),fun j c hj=>?_⟩;have hbl:b<W.heap.size:=by
  rcases Nat.lt_or_ge b W.heap.size with hl | hl
  ·exact hl
  ·rw[Array.getElem?_eq_none hl] at hb; cases hb
 have e:w'.heap[b]?=some (.cells cs.toArray T (0,0)):=(hag.2 b hbl hnl).trans hb;rw[Nat.zero_add];simpa[World.cell?,e] using hj
theorem aTl {x:Dm} {W':World} {m:Nat} (hwB:w.heap.size<=B) (hm:w1.heap.size<=m) (h:oT w w1 (jB L B) B k T s W) (hp:(SA.d x:SA Dm).plain=true) (hS:aOp W (jB L B) B k (.d x) W'):KeepsFrom m W W'/\jC w1.heap.size B W W'/\oT w w1 (jB L B) B k T (.d x) W':=by
 obtain⟨v0,cs0,h1,h2,_,_⟩:=h.var;obtain⟨w2,v,cs,k1,k2,k3,rfl⟩:=hS;have hBl:B<W.heap.size:=by
  rcases Nat.lt_or_ge B W.heap.size with hl | hl
  ·exact hl
  ·rw[Array.getElem?_eq_none hl] at h1; cases h1
 have hBw:w2.heap[B]?=some (.cells ([]++cs0++[]).toArray T (0,0)):=by
  rw[k1.block B hBl,h1,List.nil_append,List.append_nil]
 have hsz:(w2.setCells B 0 cs).heap.size=w2.heap.size:=lC ..;have hne:∀ j,j≠B->j<W.heap.size->(w2.setCells B 0 cs).heap[j]?=W.heap[j]?:=fun j hj hl=>(mD _ _ _ _ j hj).trans (k1.block j hl);have hnew:(w2.setCells B 0 cs).heap[B]?=some (.cells cs.toArray T (0,0)):=by
  have:=oY B T cs cs0 [] [] w2 (by rw[k3.length,h2.length]) hBw;rw[List.nil_append,List.append_nil] at this;exact this
 refine⟨⟨by rw[hsz]; exact k1.size,fun j o _ ho hc=>?_⟩,⟨by rw[hsz]; exact k1.size,fun b hb hb'=>hne b hb' (by have:=h.size; omega)⟩,⟨?_,by rw[hsz]; exact Nat.le_trans h.size k1.size,fun b hb hb'=>(hne b hb' (by have:=h.size; omega)).trans (h.same b hb hb'),v,cs,hnew,k3,k2.keep (aK1 (.inr rfl)),fun c hc=>?_⟩⟩
 ·have hjB:j≠B:=by
   rintro rfl;rw[h1] at ho;obtain rfl:=Option.some.inj ho;cases hc
  rw[hne j hjB (Array.getElem?_eq_some_iff.1 ho).1];exact ho
 ·refine⟨by rw[os_setCells]; exact k1.os.trans h.below.os,by rw[nU]; exact k1.tape.trans h.below.tape,by rw[nV]; exact k1.output.trans h.below.output,by rw[hsz]; exact Nat.le_trans h.below.size k1.size,fun j hj=>?_⟩;have:=h.below.size;rw[hne j (by omega) (by omega)];exact h.below.block j hj
 ·have:=bO.plain_ok x w2 v hp k2.at c (by rw[k3.cells]; simpa using hc);exact this
end
end Vc
end Go.Proofs.YtbaihklbefhgdaaGreat

namespace Go.Proofs.YtbaihklbefhgdaaGreat
open Go.RowKit
open Dg Zn
namespace Vc
theorem aCm {p q:Int} {k:Nat} (hp:len p<=k) (hq:len q<=k):len (Rat.divInt p q).num<=k/\len (qd (Rat.divInt p q))<=k:=by
 have h0:len 0<=k:=by show (aA 0).length<=_; rw[gA]; exact Nat.zero_le _
 by_cases hq0:q=0
 ·subst hq0;obtain⟨e1,e2⟩:=wF p;rw[e1,e2];exact⟨h0,h0⟩
 ·obtain⟨e1,e2⟩:=wZ p q hq0;rw[e1,e2];have h1:=Int.natAbs_ediv_le_natAbs p (Int.gcd p q:Nat);have h2:=Int.natAbs_ediv_le_natAbs q (Int.gcd p q:Nat);refine⟨Nat.le_trans (oF ?_) hp,?_⟩
  ·rw[Int.natAbs_mul];refine Nat.le_trans (Nat.mul_le_mul_right _ (?_:_<=1)) (by rw[Nat.one_mul]; exact h1);rw[Int.natAbs_sign];split<;>omega
  ·split
   ·exact h0
   ·exact Nat.le_trans (oF (by rw[Int.natAbs_natCast]; exact h2)) hq
theorem pR {a:Rat} {B:Nat} (h1:len a.num<=B) (h2:len (qd a)<=B):aH [a] B=true:=by
 simp[aH,h1,h2]
theorem uK {a:Rat} {k:Nat} (h1:1<=k) (h:len (qd a)<=k):len (a.den:Int)<=k:=by
 unfold qd at h;split at h
 ·rename_i hd;rw[hd];refine Nat.le_trans (?_:len ((1:Nat):Int)<=1) h1;rw[mQ];decide
 ·exact h
theorem aFs {a b:Rat} {j k:Nat} (h1:1<=j) (h2:1<=k) (ha:aH [a] j=true) (hb:aH [b] k=true):aH [a*b] (j+k)=true:=by
 have e:a*b=Rat.divInt (a.num*b.num) ((a.den:Int)*b.den):=by
  conv=>lhs; rw[<- Rat.num_divInt_den a,<- Rat.num_divInt_den b]
  exact Rat.divInt_mul_divInt _ _
 obtain⟨a1,a2⟩:=qO ha;obtain⟨b1,b2⟩:=qO hb;rw[e];have h:=aCm (Vc.qT a1 b1) (Vc.qT (uK h1 a2) (uK h2 b2));exact pR h.1 h.2
theorem aNq {a b:Rat} {j k:Nat} (h1:1<=j) (h2:1<=k) (ha:aH [a] j=true) (hb:aH [b] k=true):aH [a+b] (j+k+1)=true:=by
 have e:a+b=Rat.divInt (a.num*b.den+b.num*a.den) ((a.den:Int)*b.den):=by
  conv=>lhs; rw[<- Rat.num_divInt_den a,<- Rat.num_divInt_den b]
  exact Rat.divInt_add_divInt _ _ (by have:=a.den_nz; omega) (by have:=b.den_nz; omega)
 obtain⟨a1,a2⟩:=qO ha;obtain⟨b1,b2⟩:=qO hb;rw[e];have n1:len (a.num*b.den)<=j+k:=Vc.qT a1 (uK h2 b2);have n2:len (b.num*a.den)<=j+k:=Nat.le_trans (Vc.qT b1 (uK h1 a2)) (by omega);have n3:=Zn.aAs (a.num*b.den) (b.num*a.den);have h:=aCm (k:=j+k+1) (p:=a.num*b.den+b.num*a.den) (q:=(a.den:Int)*b.den) (by omega) (Nat.le_trans (Vc.qT (uK h1 a2) (uK h2 b2)) (Nat.le_succ _));exact pR h.1 h.2
theorem pH {a:Rat} {j k:Nat} (h:j<=k) (ha:aH [a] j=true):aH [a] k=true:=by
 obtain⟨a1,a2⟩:=qO ha;exact pR (Nat.le_trans a1 h) (Nat.le_trans a2 h)
theorem qN {B:Nat}:aH [(0:Rat)] B=true:=by
 have h:len 0<=B:=by show (aA 0).length<=_; rw[gA]; exact Nat.zero_le _
 exact pR h h
theorem qP {l:List Rat} {B:Nat} (h:∀ a∈l,aH [a] B=true):aH l B=true:=by
 unfold aH;rw[List.all_eq_true];intro a ha;have:=qO (h a ha);rw[Bool.and_eq_true];exact⟨decide_eq_true this.1,decide_eq_true this.2⟩
theorem xN {l:List Rat} {B:Nat} (h:aH l B=true) {a:Rat} (ha:a∈l):aH [a] B=true:=pR (aAl h ha).1 (aAl h ha).2
theorem uP {l:List Rat} {B:Nat} (h:aH l B=true) (i:Nat):aH [l.getD i 0] B=true:=by
 rcases Nat.lt_or_ge i l.length with hl | hl
 ·rw[List.getD_eq_getElem?_getD,List.getElem?_eq_getElem hl];exact xN h (List.getElem_mem hl)
 ·rw[dI hl];exact qN
theorem aW7 {l:List Rat} {B:Nat} (h:aH l B=true):aH (aI l) B=true:=qP fun a ha=>by
 rw[aCr] at ha;exact xN h (List.mem_of_mem_take ha)
theorem zT {l:List Rat} {j k:Nat} (h:j<=k) (hl:aH l j=true):aH l k=true:=qP fun _ ha=>pH h (xN hl ha)
theorem aEw {a:Rat} {l:List Rat} {B:Nat} (ha:aH [a] B=true) (hl:aH l B=true):aH (a::l) B=true:=qP fun b hb=>by
 rcases List.mem_cons.1 hb with rfl | hb
 ·exact ha
 ·exact xN hl hb
end Vc
end Go.Proofs.YtbaihklbefhgdaaGreat

namespace Go.Proofs.YtbaihklbefhgdaaGreat
open Go.RowKit Go.Shelf
open Dg Zn
namespace Vc
attribute [local go_sem] Oper.semAt_some
theorem oT.later {w w1 W W':World} {L:Nat->Prop} {B:Nat} {k:Option Nat} {T:TypeId} {s:SA Dm} (h:oT w w1 L B k T s W) (hb:Below W.heap.size W W'):oT w w1 L B k T s W':=by
 obtain⟨h1,h2,h3,v,cs,h4,h5,h6,h7⟩:=h;have hBl:B<W.heap.size:=by
  rcases Nat.lt_or_ge B W.heap.size with hl | hl
  ·exact hl
  ·rw[Array.getElem?_eq_none hl] at h4; cases h4
 refine⟨⟨hb.os.trans h1.os,hb.tape.trans h1.tape,hb.output.trans h1.output,Nat.le_trans h1.size hb.size,fun b hb'=>?_⟩,Nat.le_trans h2 hb.size,fun b hb' hne=>(hb.block b (by omega)).trans (h3 b hb' hne),v,cs,(hb.block B hBl).trans h4,h5,h6.keep (aH4 hb),h7⟩;have:=h1.size;rw[hb.block b (by omega)];exact h1.block b hb'
theorem aQt {B:Nat} {W W':World} (hb:Below W.heap.size W W'):KeepsFrom B W W':=⟨hb.size,fun k o _ hk _=>(hb.block k (Array.getElem?_eq_some_iff.1 hk).1).trans hk⟩
theorem aTg {n B:Nat} {W W':World} (hn:n<=W.heap.size) (hb:Below W.heap.size W W'):jC n B W W':=⟨hb.size,fun b hb' _=>hb.block b (by omega)⟩
def oM (p:List Rat) (x:Rat) (pre:List Nat):Rat:=pre.foldl (fun s k=>s*x+p.getD (p.length-1-k) 0) 0
theorem aH9 (p:List Rat) (x:Rat) (pre:List Nat) (k:Nat):oM p x (pre++[k])=oM p x pre*x+p.getD (p.length-1-k) 0:=by simp[oM]
def aBo (p:List Rat) (x:Rat):Rat:=oM p x (lZ id p.length)
def iD (K Kx n:Nat):Nat:=n*(Kx+K+1)+1
theorem aEm {K Kx i j:Nat} (h:i<=j):iD K Kx i<=iD K Kx j:=by
 have:=Nat.mul_le_mul_right (Kx+K+1) h;unfold iD;omega
theorem aUp {p:List Rat} {x:Rat} {K Kx:Nat} (h1:1<=K) (h2:1<=Kx) (hp:aH p K=true) (hx:aH [x] Kx=true):∀ pre:List Nat,aH [oM p x pre] (iD K Kx pre.length)=true:=by
 have hK:∀ i,aH [p.getD i 0] K=true:=by
  intro i;rcases Nat.lt_or_ge i p.length with hl | hl
  ·have:=aAl hp (List.getElem_mem hl);rw[List.getD_eq_getElem?_getD,List.getElem?_eq_getElem hl];exact pR this.1 this.2
  ·rw[dI hl];exact qN
 have:∀ (pre:List Nat) (s:Rat) (m:Nat),1<=m->aH [s] m=true->aH [pre.foldl (fun s k=>s*x+p.getD (p.length-1-k) 0) s] (m+pre.length*(Kx+K+1))=true:=by
  intro pre
  induction pre with
  | nil=>intro s m _ hs; exact pH (by omega) hs
  | cons k pre ih =>
   intro s m hm hs;rw[List.foldl_cons];have h:=ih (s*x+p.getD (p.length-1-k) 0) (m+Kx+K+1) (by omega) (aNq (by omega) h1 (aFs hm h2 hs hx) (hK _));refine pH ?_ h;rw[List.length_cons,Nat.succ_mul];omega
 intro pre;refine pH ?_ (this pre 0 1 (Nat.le_refl _) qN);unfold iD;omega
theorem aZv (w:World) (a b c d:Obj):∃ w1,(((w.alloc a).alloc b).alloc c).alloc d=w1/\w1.heap.size=w.heap.size+4/\w1.heap[w.heap.size]?=((w.alloc a).heap[w.heap.size]?)/\w1.heap[w.heap.size+1]?=((w.alloc a).alloc b).heap[w.heap.size+1]?/\w1.heap[w.heap.size+1+1]?=(((w.alloc a).alloc b).alloc c).heap[w.heap.size+1+1]?/\w1.heap[w.heap.size+1+1+1]?=((((w.alloc a).alloc b).alloc c).alloc d).heap[w.heap.size+1+1+1]?/\Below w.heap.size w w1/\∃ wA,wA.heap.size=w.heap.size+1+1/\Below w.heap.size w wA/\Below wA.heap.size wA w1/\wA.heap[w.heap.size+1]?=((w.alloc a).alloc b).heap[w.heap.size+1]?:=by
 have s1:(w.alloc a).heap.size=w.heap.size+1:=Array.size_push _;have s2:((w.alloc a).alloc b).heap.size=w.heap.size+1+1:=(Array.size_push _).trans (by rw[s1]);have s3:(((w.alloc a).alloc b).alloc c).heap.size=w.heap.size+1+1+1:=(Array.size_push _).trans (by rw[s2]);have s4:((((w.alloc a).alloc b).alloc c).alloc d).heap.size=w.heap.size+1+1+1+1:=(Array.size_push _).trans (by rw[s3]);have b4:∀ j,j<(((w.alloc a).alloc b).alloc c).heap.size->((((w.alloc a).alloc b).alloc c).alloc d).heap[j]?=(((w.alloc a).alloc b).alloc c).heap[j]?:=fun j hj=>Below.heap_alloc _ _ _ hj;have b3:∀ j,j<((w.alloc a).alloc b).heap.size->(((w.alloc a).alloc b).alloc c).heap[j]?=((w.alloc a).alloc b).heap[j]?:=fun j hj=>Below.heap_alloc _ _ _ hj;have b2:∀ j,j<(w.alloc a).heap.size->((w.alloc a).alloc b).heap[j]?=(w.alloc a).heap[j]?:=fun j hj=>Below.heap_alloc _ _ _ hj;refine⟨_,rfl,s4,?_,?_,?_,rfl,((((Below.refl _ w).alloc (Nat.le_refl _) _).alloc (by omega) _).alloc (by omega) _).alloc (by omega) _,(w.alloc a).alloc b,s2,((Below.refl _ w).alloc (Nat.le_refl _) _).alloc (by omega) _,((Below.refl _ _).alloc (Nat.le_refl _) _).alloc (by omega) _,rfl⟩
 ·rw[b4 _ (by omega),b3 _ (by omega),b2 _ (by omega)]
 ·rw[b4 _ (by omega),b3 _ (by omega)]
 ·rw[b4 _ (by omega)]
theorem alloc_at (w:World) (o:Obj) {n:Nat} (h:w.heap.size=n):(w.alloc o).heap[n]?=some o:=by subst h; exact heap_alloc_new w o
set_option maxRecDepth 100000 in
set_option maxHeartbeats 4000000 in
theorem aUb (p:List Rat) (x:Rat) (K Kx:Nat) (hp:p.length<=1000000) (hK:K<=1000000) (hKx:Kx<=1000000) (hK1:1<=K) (hKx1:1<=Kx) (hpz:aH p K=true) (hxz:aH [x] Kx=true) (hbd:iD K Kx p.length<=1000000):aD Tryz.prog 153 [PL p K,RT x Kx] (.one (RT (aBo p x) (iD K Kx p.length))):=by
 intro L ρ w vs hlt hni _ hall
 match vs,hall with
 | [v0,v1],⟨g0,g1,_⟩ =>
  obtain⟨ao,cap,rfl,hcap,hlst⟩:=uI (by decide) g0;rw[aV] at hcap hlst |-;have hx:=aMa aF0 g1;obtain⟨sx,tx,rfl,n1,n2,_,_⟩:=g1 w (Agree.refl _ _);have hx1s:∀ c∈[Value.bool (decide (x.num<0)),sx,.bool (decide (qd x<0)),tx],c.oneCell'=true:=by
   obtain⟨_,_,rfl,_⟩:=n1;obtain⟨_,_,rfl,_⟩:=n2;simp[Value.oneCell']
  generalize hcx:(decide (x.num<0))=bx at *;generalize hcy:(decide (qd x<0))=bz at *;obtain⟨b,off,cs,hao,hsh,hel⟩:∃ b off,∃ cs:List Value,(0<p.length->ao=some ⟨b,off,none⟩/\b<w.heap.size)/\(∀ k,Shaped (some 4) (.agg #[cF cs (p.length-1-k) 0,cF cs (p.length-1-k) 1,cF cs (p.length-1-k) 2,cF cs (p.length-1-k) 3]) [cF cs (p.length-1-k) 0,cF cs (p.length-1-k) 1,cF cs (p.length-1-k) 2,cF cs (p.length-1-k) 3])/\∀ j,j<p.length->(w.cell? ⟨b,off+j*4,none⟩=some (cF cs j 0)/\w.cell? ⟨b,off+j*4+1,none⟩=some (cF cs j 1)/\w.cell? ⟨b,off+j*4+2,none⟩=some (cF cs j 2)/\w.cell? ⟨b,off+j*4+3,none⟩=some (cF cs j 3))/\iZ L w (RT (p.getD j 0) K) (.agg #[cF cs j 0,cF cs j 1,cF cs j 2,cF cs j 3]):=by
   rcases Nat.eq_zero_or_pos p.length with h0 | h0
   ·exact⟨0,0,[.bool false,.slice none 0 0,.bool false,.slice none 0 0],fun h=>by omega,fun k=>by rw[show p.length-1-k=0 by omega]; exact⟨rfl,rfl,by simp[cF,Value.oneCell']⟩,fun j hj=>by omega⟩
   ·obtain⟨b,off,e,⟨_,hb⟩,cs,hats,hcs⟩:=hlst h0;refine⟨b,off,cs,fun _=>⟨e,hb⟩,fun k=>(aGj (hats w (Agree.refl _ _)) (dN (K:=K) (by omega))).1.2,fun j hj=>?_⟩;have h4:=aGj (hats w (Agree.refl _ _)) (dN (K:=K) hj);have hi:∀ i,i<4->w.cell? ⟨b,off+j*4+i,none⟩=some (cF cs j i):=fun i hi=>by
     rw[Nat.add_assoc];exact hcs _ _ (h4.2 i hi)
    exact⟨⟨hi 0 (by decide),hi 1 (by decide),hi 2 (by decide),hi 3 (by decide)⟩,aL9 aF0 fun w' hw=>(aGj (hats w' hw) (dN (K:=K) hj)).1.1⟩
  refine(callsIn_wide (n:=9)).1 ?_;refine callsIn_of_wp_marks Tryz.func153 rfl trivial ?_ rfl;simp only[Tryz.ntmps153,List.size_toArray,List.length_cons,List.length_nil,Nat.reduceAdd,Nat.reduceSub,Array.replicate_succ,Array.replicate_zero,List.push_toArray,List.append_toArray,List.nil_append,List.cons_append];have hs0:=(iZ.at hx)
  gi_wp2_with (refine⟨trivial,?_⟩; gi_at_call 205; refine(aYj Fence.wide _ trivial rfl _ _ _ _).mono ?_; rintro e w' ⟨rfl,rfl⟩)
  have s3:(((w.alloc (.cells #[.bool bx,sx,.bool bz,tx] 30)).alloc (.cells #[.bool false,.slice none 0 0,.bool false,.slice none 0 0] 30)).alloc (.cells #[.bool false,.slice none 0 0,.bool false,.slice none 0 0] 30)).heap.size=w.heap.size+1+1+1:=by
   refine(Array.size_push _).trans (congrArg (·+1) ((Array.size_push _).trans (congrArg (·+1) (Array.size_push _))))
  obtain⟨w1,hw1,hs1,q3,q4,q5,q6,hb1,wA,hsA,hbA,hb1A,qA⟩:=aZv w (.cells #[.bool bx,sx,.bool bz,tx] 30) (.cells #[.bool false,.slice none 0 0,.bool false,.slice none 0 0] 30) (.cells #[.bool false,.slice none 0 0,.bool false,.slice none 0 0] 30) (.cells #[.slice ao p.length cap] 24);rw[alloc_at _ _ rfl] at q3;rw[alloc_at _ _ (Array.size_push _)] at q4 qA;rw[alloc_at _ _ ((Array.size_push _).trans (congrArg (·+1) (Array.size_push _)))] at q5;rw[alloc_at _ _ s3] at q6;rw[hw1];clear hw1 s3;have hB5:w.heap.size+1+1<w1.heap.size:=by omega
  have hlt1:∀ b,jB L (w.heap.size+1) b->b<wA.heap.size:=by
   rintro b (q | q)
   ·have:=hlt b q; omega
   ·omega
  have hni1:gO (jB L (w.heap.size+1)) wA:=by
   rintro b (q | rfl) cs' T' fr hc c hcm
   ·rw[hbA.block b (hlt b q)] at hc;exact hni b q cs' T' fr hc c hcm
   ·rw[qA] at hc;obtain⟨rfl,-,-⟩:=(Obj.cells.injEq _ _ _ _ _ _).mp (Option.some.inj hc);have hall:∀ c∈[Value.bool false,.slice none 0 0,.bool false,.slice none 0 0],cZ c=true:=by simp[cZ]
    exact hall c (by simpa using hcm)
  have hx':=zB (Nat.le_succ _) hbA hx;have hel':=fun j hj=>zB (Nat.le_succ _) hbA (hel j hj).2;have hBs:w1.cell? ⟨w.heap.size+1+1+1,0,none⟩=some (.slice ao p.length cap):=by simp[World.cell?,q6]
  have hfold:∀ k,((#[10,11]:Array Tmp).zip (yO p.length (fun j=>.agg #[cF cs j 0,cF cs j 1,cF cs j 2,cF cs j 3]) k)).foldl (fun t (p,v)=>t.setIfInBounds p v) #[.slice ao p.length cap,.agg #[.bool bx,sx,.bool bz,tx],undef,.pointer (some ⟨w.heap.size,0,none⟩),.pointer (some ⟨w.heap.size+1,0,none⟩),.pointer (some ⟨w.heap.size+1+1,0,none⟩),undef,undef,.slice ao p.length cap,.func (.func 227) #[] #[.pointer (some ⟨w.heap.size+1+1+1,0,none⟩)],undef,undef,undef,undef,undef,undef,undef,undef]=#[.slice ao p.length cap,.agg #[.bool bx,sx,.bool bz,tx],undef,.pointer (some ⟨w.heap.size,0,none⟩),.pointer (some ⟨w.heap.size+1,0,none⟩),.pointer (some ⟨w.heap.size+1+1,0,none⟩),undef,undef,.slice ao p.length cap,.func (.func 227) #[] #[.pointer (some ⟨w.heap.size+1+1+1,0,none⟩)],.int .i64 ((p.length-1-k:Nat):Int),.agg #[cF cs (p.length-1-k) 0,cF cs (p.length-1-k) 1,cF cs (p.length-1-k) 2,cF cs (p.length-1-k) 3],undef,undef,undef,undef,undef,undef]:=by
   intro k;simp[yO]
  refine wpIn_rangeFunc_ownH (α:=Nat) rfl (by decide) (gf:=227) (lb:=#[.pointer (some ⟨w.heap.size+1+1+1,0,none⟩)]) rfl trivial (enters_of Tryz.func227 (by kernel_rfl) rfl)
   (aR1 (C:=cF cs) (B:=w.heap.size+1+1) (b:=b) (off:=off) (by decide) (fun h=>(hao h).1) hp hBs (by omega) (fun h=>⟨by have:=(hao h).2; omega,fun j hj=>by
    obtain⟨⟨e0,e1,e2,e3⟩,_⟩:=hel j hj;have hk:=(aH4 (L:=fun _=>False) hb1).2 b (fun q=>q);exact⟨hk _ _ e0,hk _ _ e1,hk _ _ e2,hk _ _ e3⟩⟩)) jC.trans (jC.put (Nat.le_refl _)) (Below.refl _ _) (fun _=>rfl)
   (fun pre W=>oT wA w1 (jB (jB L (w.heap.size+1)) (w.heap.size+1+1)) (w.heap.size+1+1) (some 4) 30 (RT (oM p x pre) (iD K Kx pre.length)) W)
   (fun _ _ _=>False) (oT.own (f:=fun pre=>RT (oM p x pre) (iD K Kx pre.length)) (by omega)) (fun _ _ _ _ _ hs _ _=>hs) ?start
   (fun k a' W=>∃ Bx,w1.heap.size<=Bx/\W.heap[Bx]?=some (.cells [cF cs (p.length-1-k) 0,cF cs (p.length-1-k) 1,cF cs (p.length-1-k) 2,cF cs (p.length-1-k) 3].toArray 30 (0,0))/\a'=Act.put { tmps:=#[.slice ao p.length cap,.agg #[.bool bx,sx,.bool bz,tx],undef,.pointer (some ⟨w.heap.size,0,none⟩),.pointer (some ⟨w.heap.size+1,0,none⟩),.pointer (some ⟨w.heap.size+1+1,0,none⟩),undef,undef,.slice ao p.length cap,.func (.func 227) #[] #[.pointer (some ⟨w.heap.size+1+1+1,0,none⟩)],.int .i64 ((p.length-1-k:Nat):Int),.agg #[cF cs (p.length-1-k) 0,cF cs (p.length-1-k) 1,cF cs (p.length-1-k) 2,cF cs (p.length-1-k) 3],undef,undef,undef,undef,undef,undef],defers:=[] } (some 7) (.pointer (some ⟨Bx,0,none⟩))) ?hAx ?assign ?body ?done ?stop
  case start =>
   refine⟨hb1A,Nat.le_refl _,fun _ _ _=>rfl,dX,[.bool false,.slice none 0 0,.bool false,.slice none 0 0],q5,⟨rfl,rfl,by simp[Value.oneCell']⟩,fun W' _=>?_,by simp[cZ]⟩;have h0:(aA (0:Int).natAbs).length<=iD K Kx ([]:List Nat).length:=by rw[show (0:Int).natAbs=0 from rfl,gA]; exact Nat.zero_le _
   exact⟨_,_,rfl,aL.nil (by decide),aL.nil (by decide),h0,h0⟩
  case hAx =>
   rintro k a' _ W W' row ⟨Bx,h1,h2,h3⟩ hg hr;refine⟨Bx,h1,?_,h3⟩;rw[hg.block Bx (Array.getElem?_eq_some_iff.1 h2).1 (fun e=>by
    obtain⟨_,o',m2,m3⟩:=hr Bx e.symm;rw[h2] at m2;obtain rfl:=Option.some.inj m2;cases m3)]
   exact h2
  case assign =>
   intro l pre k W K' hi hK';show Code.wpIn _ _ _ _ _ (Act.mk (((#[10,11]:Array Tmp).zip (yO p.length (fun j=>.agg #[cF cs j 0,cF cs j 1,cF cs j 2,cF cs j 3]) k)).foldl (fun t (p,v)=>t.setIfInBounds p v) #[.slice ao p.length cap,.agg #[.bool bx,sx,.bool bz,tx],undef,.pointer (some ⟨w.heap.size,0,none⟩),.pointer (some ⟨w.heap.size+1,0,none⟩),.pointer (some ⟨w.heap.size+1+1,0,none⟩),undef,undef,.slice ao p.length cap,.func (.func 227) #[] #[.pointer (some ⟨w.heap.size+1+1+1,0,none⟩)],undef,undef,undef,undef,undef,undef,undef,undef]) []) W;rw[hfold k];exact aR2 (u7:=7) (u11:=11) (Nat.le_of_ble_eq_true rfl) (by decide) rfl (hsh k) rfl rfl rfl rfl rfl rfl fun W2 hb _ hcell=>hK' _ W2 (aQt hb) (aTg hi.size hb) (hi.later hb) ⟨W.heap.size,hi.size,hcell,rfl⟩
  case stop =>
   rintro D c pre W _ _ h _;exact h.elim
  case done =>
   intro D ys W hD hys hI hKD;have hsame4:=hI.same (w.heap.size+1) (by omega) (by omega);obtain⟨v,cs5,c1,c2,c3,c4⟩:=hI.var;obtain⟨s5,t5,e5,⟨ao5,cap5,e6,_⟩,⟨ao7,cap7,e7,_⟩,_,_⟩:=c3.at;obtain⟨b5,a5,n5,k5,b6,a6,n6,k6,hv⟩:∃ b5 a5 n5 k5 b6 a6 n6 k6,v=.agg #[.bool b5,.slice a5 n5 k5,.bool b6,.slice a6 n6 k6]:=⟨_,_,_,_,_,_,_,_,by rw[e5,e6,e7]⟩
   have hcs:cs5=[.bool b5,.slice a5 n5 k5,.bool b6,.slice a6 n6 k6]:=by
    have h:=c2.1;rw[hv] at h;injection h with h;have h:=congrArg Array.toList h;simpa using h.symm
   subst hcs;clear e5 e6 e7;have f0:W.cell? ⟨w.heap.size+1+1,0,none⟩=some (.bool b5):=by simp[World.cell?,c1]
   have f1:W.cell? ⟨w.heap.size+1+1,1,none⟩=some (.slice a5 n5 k5):=by simp[World.cell?,c1]
   have f2:W.cell? ⟨w.heap.size+1+1,2,none⟩=some (.bool b6):=by simp[World.cell?,c1]
   have f3:W.cell? ⟨w.heap.size+1+1,3,none⟩=some (.slice a6 n6 k6):=by simp[World.cell?,c1]
   have e4:W.heap[w.heap.size+1]?=some (.cells #[.bool false,.slice none 0 0,.bool false,.slice none 0 0] 30 (0,0)):=hsame4.trans q4;have h0:W.cell? ⟨w.heap.size+1,0,none⟩=some (.bool false):=by simp[World.cell?,e4]
   have h1:W.cell? ⟨w.heap.size+1,1,none⟩=some (.slice none 0 0):=by simp[World.cell?,e4]
   have h2:W.cell? ⟨w.heap.size+1,2,none⟩=some (.bool false):=by simp[World.cell?,e4]
   have h3:W.cell? ⟨w.heap.size+1,3,none⟩=some (.slice none 0 0):=by simp[World.cell?,e4]
   have z0:∀ i,W.frozen? ⟨w.heap.size+1,i,none⟩=false:=fun i=>by simp[World.frozen?,e4]
   have y0:=z0 0;have y1:=z0 1;have y2:=z0 2;have y3:=z0 3
   gi_wp2
   have hbl:Below W.heap.size W W:=Below.refl _ _;obtain⟨W4,hW4⟩:∃ W4,W4=W.setCells (w.heap.size+1) 0 [.bool b5,.slice a5 n5 k5,.bool b6,.slice a6 n6 k6]:=⟨_,rfl⟩
   have hW4':((((W.setCell ⟨w.heap.size+1,0,none⟩ (.bool b5)).setCell ⟨w.heap.size+1,1,none⟩ (.slice a5 n5 k5)).setCell ⟨w.heap.size+1,2,none⟩ (.bool b6)).setCell ⟨w.heap.size+1,3,none⟩ (.slice a6 n6 k6))=W4:=by
    rw[hW4];rfl
   rw[hW4'];have hD4:W4.heap[D]?=some (.deferred (some [])):=by
    rw[hW4,mD _ _ _ _ D (by omega)];exact hKD
   have g4:W4.heap[w.heap.size+1]?=some (.cells [.bool b5,.slice a5 n5 k5,.bool b6,.slice a6 n6 k6].toArray 30 (0,0)):=by
    rw[hW4];exact oY (w.heap.size+1) 30 [.bool b5,.slice a5 n5 k5,.bool b6,.slice a6 n6 k6] [.bool false,.slice none 0 0,.bool false,.slice none 0 0] [] [] W rfl e4
   refine⟨by simp,.inl ⟨_,_,rfl,run_takeDeferred hD4,?_⟩⟩;have hDl:D<W4.heap.size:=(Array.getElem?_eq_some_iff.1 hD4).1;have hn4:w.heap.size+1≠D:=by omega
   have g5:(W4.putObj D (.deferred none)).heap[w.heap.size+1]?=some (.cells [.bool b5,.slice a5 n5 k5,.bool b6,.slice a6 n6 k6].toArray 30 (0,0)):=(World.putObj_heap_other hn4).trans g4;refine⟨v,?_,v,rfl,?_,?_⟩
   ·have e:∀ tm:Array Value,tm.getD 4 undef=.pointer (some ⟨w.heap.size+1,0,none⟩)->(results Tryz.f153 tm).run Tryz.prog (W4.putObj D (.deferred none))=.ok v (W4.putObj D (.deferred none)):=by
     intro tm htm;have h1:(jM tm (.cell 4 30)).run Tryz.prog (W4.putObj D (.deferred none))=.ok v (W4.putObj D (.deferred none)):=by
      have hl:=vW (P:=Tryz.prog) (w:=W4.putObj D (.deferred none)) (b:=w.heap.size+1) (off:=0) (cs:=[.bool b5,.slice a5 n5 k5,.bool b6,.slice a6 n6 k6]) (ty:=30) (k:=some 4) (v:=v) (fun j c hj=>by rw[Nat.zero_add]; simpa[World.cell?,g5] using hj) c2 aC;simp only[jM,htm,asAddr,Sem.run_bind,Sem.run_pure,Result.andThen_ok,hl]
     have h2:(results Tryz.f153 tm).run Tryz.prog (W4.putObj D (.deferred none))=((jM tm (.cell 4 30)).run Tryz.prog (W4.putObj D (.deferred none))).andThen fun v w=>.ok v w:=by
      simp[results,show Tryz.f153.results=#[.cell 4 30] from rfl,jM,andThen_assoc,aHk]
     rw[h2,h1];rfl
    exact e _ rfl
   ·refine⟨?_,?_,?_,?_,fun j hj=>?_⟩
    ·show W4.os=_;rw[hW4,os_setCells]; exact(hbA.os ▸ hI.below.os)
    ·show W4.tape=_;rw[hW4,nU]; exact(hbA.tape ▸ hI.below.tape)
    ·show W4.output=_;rw[hW4,nV]; exact(hbA.output ▸ hI.below.output)
    ·have h1:=hI.below.size;have h2:W4.heap.size=W.heap.size:=by rw[hW4]; exact lC ..
     simp;omega
    ·have h1:=hI.below.size;rw[World.putObj_heap_other (by omega),hW4,mD _ _ _ _ j (by omega),hI.below.block j (by omega)];exact hbA.block j hj
   ·have hev:aBo p x=oM p x ys:=by rw[hys]; rfl
    have hyl:ys.length=p.length:=by rw[hys,aIc]
    rw[hev,<- hyl];refine yC (ρ:=ρ) fun w'' hag=>c3 w'' ?_;refine jY.trans ?_ (jY.trans (aH3 (grownBy_putObj' W4 D (.deferred none)) (fun r e=>by cases e; exact⟨_,hD4,rfl⟩)) ?_)
    ·rw[hW4];exact aK1 (.inl (.inr rfl))
    ·have:=jY.agree hag;exact⟨this.1,fun b hb=>this.2 b fun q=>hb (.inl (.inl q))⟩
  case body =>
   rintro l pre k a' W hl _ hi ⟨Bx,hx1,hx2,rfl⟩ hlen;have hbW:=hi.below.size;obtain⟨vc,csv,c1,c2,c3,c4⟩:=hi.var;have hkl:p.length-1-k<p.length:=by omega
   have hpre:iD K Kx pre.length<=1000000:=Nat.le_trans (aEm (Nat.le_of_lt hlen)) hbd;have hnew:=aUp hK1 hKx1 hpz hxz (pre++[k]);have h3W:W.heap[w.heap.size]?=some (.cells [Value.bool bx,sx,.bool bz,tx].toArray 30 (0,0)):=(hi.same _ (by omega) (by omega)).trans q3;have hxp:(SA.d (Dm.gen (pG (some 4) (RT x Kx)))).is (jB (jB L (w.heap.size+1)) (w.heap.size+1+1)) ρ W (.pointer (some ⟨w.heap.size,0,none⟩)):=aFu h3W (by rintro((q | q) | q); exact absurd (hlt _ q) (by omega); omega; omega) ⟨rfl,rfl,hx1s⟩ (zB (by omega) hi.below hx');have hap:(SA.d (Dm.gen (pG (some 4) (RT (p.getD (p.length-1-k) 0) K)))).is (jB (jB L (w.heap.size+1)) (w.heap.size+1+1)) ρ W (.pointer (some ⟨Bx,0,none⟩)):=aFu hx2 (by rintro((q | q) | q); exact absurd (hlt _ q) (by omega); omega; omega) (hsh k) (zB (by omega) hi.below (hel' _ hkl));have hBlW:w.heap.size+1+1<W.heap.size:=by have:=hi.size; omega
   refine wpIn_block (wpIn_mono (RV.wpIn (x0:=.no) (C:=CS W (jB (jB L (w.heap.size+1)) (w.heap.size+1+1)) (aZc hlt1 hbW hBlW) (aZb hlt1 hni1 hi) 18 (w.heap.size+1+1) (some 4) (RT (oM p x (pre++[k])) (iD K Kx (pre++[k]).length))) (K:=fun l=>aF .no l FK=.dead)
    (l:=[(.s 3,.av (.one (.d (Dm.gen (pG (some 4) (RT x Kx)))))),(.s 5,.av (.one (.v (.pointer (some ⟨w.heap.size+1+1,0,none⟩))))),(.s 7,.av (.one (.d (Dm.gen (pG (some 4) (RT (p.getD (p.length-1-k) 0) K))))))]) (fun a w h=>CS.drew rfl h) (by kernel_rfl) (fun _=>by kernel_rfl) (by kernel_rfl) ?walk ?begin) ?after)
   case begin =>
    refine .inl ⟨rfl,ρ,aIh (Eq.refl 18) rfl (fun i=>rfl) fun t=>?_⟩;by_cases e3:t=3
    ·subst e3; exact .inr ⟨_,rfl,rfl,hxp⟩
    ·by_cases e5:t=5
     ·subst e5; exact .inr ⟨_,rfl,rfl,rfl⟩
     ·by_cases e7:t=7
      ·subst e7; exact .inr ⟨_,rfl,rfl,hap⟩
      ·refine .inl ?_;show (bif Key.beq (.s 3) (.s t) then _ else bif Key.beq (.s 5) (.s t) then _ else bif Key.beq (.s 7) (.s t) then _ else _)=_;rw[iG (by simpa using Ne.symm e3),iG (by simpa using Ne.symm e5),iG (by simpa using Ne.symm e7)];rfl
   case walk =>
    rw[aH9] at hnew |-;refine gJ (wT (aVi c1 c2 c3 rfl aC rfl rfl (by decide) rfl) rfl rfl rfl) ?_;refine gJ (wT (bT aC) rfl rfl rfl) ?_;refine gJ (wT (cG (oG _ _ _ _ (by omega) (by omega)) rfl rfl (by decide) Tryz.func62 rfl rfl (.cons rfl cT.any (.cons rfl cT.any .nil)) rfl rfl rfl) rfl rfl rfl) ?_;refine gJ (wT (bT aC) rfl rfl rfl) ?_;refine gJ (wT (cG ((xE _ _ (3*(iD K Kx pre.length+Kx)+20) K (by omega) (by omega)).mono (fun _ _ _ _ h=>h) (eQ hnew)) rfl rfl (by decide) Tryz.func73 rfl rfl (.cons rfl cT.any (.cons rfl cT.any .nil)) rfl rfl rfl) rfl rfl rfl) ?_;refine gJ (aQe c1 c2.length aF0 rfl cH rfl rfl rfl rfl rfl rfl) ?_;exact bU (by kernel_rfl) rfl
   case after =>
    intro e a'' W'' he;cases e with
    | normal =>
     obtain⟨l',h1,h2⟩:=he;rcases h2 with ⟨h3,_⟩ | ⟨_,h3⟩
     ·rw[h1] at h3; cases h3
     ·exact aTl (by omega) (Nat.le_refl _) hi rfl h3
    | ret=>exact he.elim
    | exit id=>exact he.elim
    | goto t=>exact he.elim
    | panic c=>exact he.elim
    | outgrown=>exact he.elim
end Vc
end Go.Proofs.YtbaihklbefhgdaaGreat

namespace Go.Proofs.YtbaihklbefhgdaaGreat
open Go.RowKit Go.Shelf
open Dg Zn
namespace Vc
attribute [local go_sem] Oper.semAt_some
def aY1 (p:List Rat) (x:Rat) (pre:List Nat):List Rat:=pre.foldl (fun s k=>eD (p.getD (p.length-1-k) 0::s) (aM s x)) []
theorem aLt (p q:List Rat):(eD p q).length<=max p.length q.length:=by
 unfold eD;refine Nat.le_trans (mX _) ?_;rw[gT];exact Nat.le_refl _
end Vc
end Go.Proofs.YtbaihklbefhgdaaGreat

namespace Go.Proofs.YtbaihklbefhgdaaGreat
open Go.RowKit
open Go.Lib (hid)
open Dg Zn
namespace Vc
theorem zH {k:IntKind} {zs:List Int}:∀ s∈kQ k zs,s.kind=some none:=by
 intro s hs;obtain⟨z,_,rfl⟩:=List.mem_map.1 hs;rfl
theorem zU (zs:List Int) (h:(zs.all fun z=>decide (-9223372036854775808<=z)&&decide (z<=9223372036854775807))=true) (i:Nat) : -9223372036854775808<=zs.getD i 0/\zs.getD i 0<=9223372036854775807:=by
 rcases Nat.lt_or_ge i zs.length with hl | hl
 ·have:=List.all_eq_true.1 h zs[i] (List.getElem_mem hl);rw[Bool.and_eq_true] at this;rw[List.getD_eq_getElem?_getD,List.getElem?_eq_getElem hl];exact⟨of_decide_eq_true this.1,of_decide_eq_true this.2⟩
 ·rw[List.getD_eq_getElem?_getD,List.getElem?_eq_none hl];exact⟨by decide,by decide⟩
theorem aXe {a b:Rat} (h:a=b) {j k:Nat}:aD Tryz.prog 29 [RT a j,RT b k] (.one (.v (.bool true))):=by
 have:=aHq a b j k;rw[decide_eq_true h] at this;exact this
theorem aYr (p:List Rat) (K:Nat) (hK:K<=1000000) (hp:p.length<=1000000) (h:¬ (p≠[]/\aG p=0)):aD Tryz.prog 87 [PL p K] (.one (.v (.bool true))):=by
 have:=aR8 p K hK hp;rw[decide_eq_true h] at this;exact this
set_option maxRecDepth 100000
theorem aR3 (z:Int):0<=dT z 105/\dT z 105<105:=by
 unfold dT;exact⟨Int.emod_nonneg _ (by decide),Int.emod_lt_of_pos _ (by decide)⟩
def cE (z:Int):Rat:=Rat.divInt ((dT z 105).tmod 15-7) (1+((dT z 105).tdiv 15).tmod 4)
theorem small_facts (z:Int):(0<=(dT z 105).tmod 15/\(dT z 105).tmod 15<15)/\(0<=(dT z 105).tdiv 15/\(dT z 105).tdiv 15<=7)/\(0<=((dT z 105).tdiv 15).tmod 4/\((dT z 105).tdiv 15).tmod 4<4):=by
 obtain⟨h1,h2⟩:=aR3 z;generalize dT z 105=m at *;have d0:0<=m.tdiv 15:=Int.tdiv_nonneg h1 (by decide);refine⟨⟨Int.tmod_nonneg _ h1,Int.tmod_lt_of_pos _ (by decide)⟩,⟨d0,?_⟩,⟨Int.tmod_nonneg _ d0,Int.tmod_lt_of_pos _ (by decide)⟩⟩;rw[Int.tdiv_eq_ediv_of_nonneg h1];omega
theorem uC (z:Int):aH [cE z] 1=true:=by
 obtain⟨⟨a1,a2⟩,_,b1,b2⟩:=small_facts z;have h:=aCm (p:=(dT z 105).tmod 15-7) (q:=1+((dT z 105).tdiv 15).tmod 4) (k:=1) (by rw[mQ]; omega) (by rw[mQ]; omega);exact pR h.1 h.2
theorem aCu (z:Int) (h1 : -9223372036854775808<=z) (h2:z<=9223372036854775807):aD (D:=Dm) Tryz.prog 14 [.v (.int .i64 z)] (.one (RT (cE z) 1)):=by
 have hf:=small_facts z;refine aD.of (n:=14) Tryz.func14 rfl rfl rfl rfl rfl fun cx hfr=>?_;refine sr rfl ?_;refine p2 (aU (i:=0) cI) ?_;refine RV.done (sr rfl ?_);refine xm ?_;refine xd rfl (aC8 z 105 h1 h2 (by decide) (by decide)) Tryz.func15 (xb rfl rfl) hfr ?_;refine xn ?_;refine RV.done (sr rfl ?_);refine xm ?_;refine p1 (uZ) ?_;refine p1 (dU (c:=(dT z 105).tmod 15-7) (by rw[bV (by omega) (by omega)]) rfl rfl bd rfl rfl) ?_;refine xm ?_;refine p1 (aZd (c:=(dT z 105).tdiv 15) (by decide) (bV (by omega) (by omega)) rfl rfl bd rfl rfl) ?_;refine p1 (uZ) ?_;refine p1 (cP (c:=1+((dT z 105).tdiv 15).tmod 4) (by rw[bV (by omega) (by omega)]) rfl rfl bd rfl rfl) ?_;refine xd rfl ((lK ((dT z 105).tmod 15-7) (1+((dT z 105).tdiv 15).tmod 4) (by omega) (by omega) (by omega) (by omega)).mono (fun _ _ _ _ h=>h) (eQ (uC z))) Tryz.func32 (xb rfl rfl) hfr ?_;refine p1 (aQ (aC).2) ?_;refine RV.done ?_;refine CV.ret ?_;exact aS rfl (.inr rfl) ⟨_,_,_,_,_,rfl,rfl,rfl,aC⟩ cL
theorem aI0 (p q:List Rat) (j K:Nat) (hj:j<=1000000) (hK:K<=1000000) (hp:p.length<=1000000) (hq:q.length<=1000000):aD Tryz.prog 210 [PL p j,PL q K] (.one (PL (eD p q) (3*(j+K)+20))):=by
 refine aD.of (n:=31) Tryz.func210 rfl rfl rfl rfl rfl fun cx hfr=>?_;refine sr rfl ?_;refine xn ?_;refine RV.done (sr rfl ?_);refine xn ?_;refine RV.done ?_;refine CV.seq ?_;refine CV.seq ?_;refine oD 5 100 30 (some 4) rfl rfl rfl rfl ?_;refine CV.region rfl (fun h=>nomatch h) ?_;refine xn ?_;refine RV.done ?_;refine CV.block ?_;refine CV.loop (X:={k:Nat // k<=max p.length q.length}) (fun k=>[(.s 6,.av (.one (.v (.int .i64 (k.1:Int))))),(.s 5,.av (.one (.sl 100 k.1))),(.b 100,.row 30 (some 4) (iN (fun i=>p.getD i 0+q.getD i 0) (3*(j+K)+20) k.1)),(.s 0,.av (.one (PL p j))),(.s 1,.av (.one (PL q K)))]) (fun k=>max p.length q.length-k.1) ⟨0,Nat.zero_le _⟩ (aZ.mk ⟨aB _,aB _,fC rfl,aB _,aB _,trivial⟩ rfl rfl) (fun k=>?_);obtain⟨k,hk⟩:=k;simp only;refine CV.seq ?_;refine sr rfl ?_;refine xm ?_;refine xm ?_;refine p1 (bL aV bE) ?_;refine p1 (dP) ?_;refine xm ?_;refine RV.bool (fun h0=>?_) (fun h0=>?_)
 ·have hlt:k<max p.length q.length:=(by have:=of_decide_eq_true h0; omega)
  refine xk ?_;refine xk ?_;refine xk ?_;refine xk ?_;refine p1 (cX) ?_;refine RV.done ?_;refine CV.yes rfl ?_;refine CV.skip ?_;refine CV.seq ?_;refine CV.block ?_;refine CV.region rfl (fun h=>nomatch h) ?_;refine xm ?_;refine xm ?_;refine xm ?_;refine xc (aAo _ _ _) Tryz.func228 (xb rfl rfl) hfr ?_;refine xm ?_;refine xm ?_;refine xc (aAo _ _ _) Tryz.func228 (xb rfl rfl) hfr ?_;refine xc (aDf _ _ _ _ hj hK) Tryz.func31 (xb rfl rfl) hfr ?_;refine p1 (fH (G:=Dm.gen (cA (some 4) [_])) (cS _ _) bY mO rfl rfl rfl (by intro s hs; obtain rfl:=List.mem_singleton.1 hs; rfl) rfl rfl rfl bd (xa rfl)) ?_;refine gI (aN.plain (iR (r:=100) (r':=101) (gU (by decide) rfl) (by rw[iF]; show (k+1)*64<=_; omega) (by rw[iF]; show k+1<=_; omega) bY gL rfl rfl rfl (by intro x hx; obtain rfl:=List.mem_singleton.1 hx; rfl) iF.symm rfl rfl bd rfl rfl rfl rfl rfl rfl rfl rfl) rfl) ?_;refine xn ?_;refine RV.done ?_;refine CV.region rfl (fun h=>nomatch h) ?_;refine xm ?_;refine p1 (cP (c:=((k+1:Nat):Int)) (by rw[bV (by omega) (by omega)]; omega) rfl rfl bd rfl rfl) ?_;refine xn ?_;refine RV.done ?_;exact⟨⟨k+1,hlt⟩,kW (fun i=>if i=100 then 101 else i) ⟨gG,mK rfl rfl,fC (by rw[qV,qV]; exact wM (f:=fun i=>p.getD i 0+q.getD i 0)),gG,gG,trivial⟩ rfl rfl rfl rfl,by show max p.length q.length-(k+1)<max p.length q.length-k; omega⟩
 ·refine y1 (cB (.inl rfl)) ?_;refine y1 (cB (.inl rfl)) ?_;refine y1 (bL aV bE) ?_;refine y1 (dP) ?_;refine p1 (eI) ?_;refine RV.done ?_;refine CV.cond rfl (fun hc=>?_) (fun hc=>?_)
  ·have hlt:k<max p.length q.length:=(by have:=of_decide_eq_true hc; omega)
   refine CV.skip ?_;refine CV.seq ?_;refine CV.block ?_;refine CV.region rfl (fun h=>nomatch h) ?_;refine xm ?_;refine xm ?_;refine xm ?_;refine xc (aAo _ _ _) Tryz.func228 (xb rfl rfl) hfr ?_;refine xm ?_;refine xm ?_;refine xc (aAo _ _ _) Tryz.func228 (xb rfl rfl) hfr ?_;refine xc (aDf _ _ _ _ hj hK) Tryz.func31 (xb rfl rfl) hfr ?_;refine p1 (fH (G:=Dm.gen (cA (some 4) [_])) (cS _ _) bY mO rfl rfl rfl (by intro s hs; obtain rfl:=List.mem_singleton.1 hs; rfl) rfl rfl rfl bd (xa rfl)) ?_;refine gI (aN.plain (iR (r:=100) (r':=101) (gU (by decide) rfl) (by rw[iF]; show (k+1)*64<=_; omega) (by rw[iF]; show k+1<=_; omega) bY gL rfl rfl rfl (by intro x hx; obtain rfl:=List.mem_singleton.1 hx; rfl) iF.symm rfl rfl bd rfl rfl rfl rfl rfl rfl rfl rfl) rfl) ?_;refine xn ?_;refine RV.done ?_;refine CV.region rfl (fun h=>nomatch h) ?_;refine xm ?_;refine p1 (cP (c:=((k+1:Nat):Int)) (by rw[bV (by omega) (by omega)]; omega) rfl rfl bd rfl rfl) ?_;refine xn ?_;refine RV.done ?_;exact⟨⟨k+1,hlt⟩,kW (fun i=>if i=100 then 101 else i) ⟨gG,mK rfl rfl,fC (by rw[qV,qV]; exact wM (f:=fun i=>p.getD i 0+q.getD i 0)),gG,gG,trivial⟩ rfl rfl rfl rfl,by show max p.length q.length-(k+1)<max p.length q.length-k; omega⟩
  ·refine CV.exit ?_;refine CV.seq ?_;have hk1:k=max p.length q.length:=(by have h1:=of_decide_eq_false h0; have h2:=of_decide_eq_false hc; omega)
   subst hk1;rw[uB];refine jZ (r:=100) (t:=5) (G:=Dm.gen (cA (some 4) (bB (tab (fun i=>p.getD i 0+q.getD i 0) (max p.length q.length)) (3*(j+K)+20)))) (cx.bw hfr) rfl rfl (by rw[aV,gT]) rfl rfl (cS _ _) (iS _ _) ?_;refine CV.region rfl (fun h=>nomatch h) ?_;refine xm ?_;refine xd rfl (oA _ _ (by rw[gT]; omega)) Tryz.func66 (xa rfl) hfr ?_;refine xn ?_;refine RV.done ?_;refine CV.ret ?_;exact aS rfl (.inr rfl) rfl cL
theorem aCj (p:List Rat) (a:Rat) (j K:Nat) (hj:j<=1000000) (hK:K<=1000000) (hp:p.length<=1000000):aD Tryz.prog 165 [PL p j,RT a K] (.one (PL (aM p a) (3*(j+K)+20))):=by
 refine aD.of (n:=24) Tryz.func165 rfl rfl rfl rfl rfl fun cx hfr=>?_;refine sr rfl ?_;refine p2 (cC (i:=0)) ?_;refine xn ?_;refine RV.done (sr rfl ?_);refine xn ?_;refine RV.done ?_;refine CV.seq ?_;refine CV.seq ?_;refine oD 5 100 30 (some 4) rfl rfl rfl rfl ?_;refine CV.region rfl (fun h=>nomatch h) ?_;refine xn ?_;refine RV.done ?_;refine CV.block ?_;refine CV.loop (X:={k:Nat // k<=p.length}) (fun k=>[(.s 6,.av (.one (.v (.int .i64 (k.1:Int))))),(.s 5,.av (.one (.sl 100 k.1))),(.b 100,.row 30 (some 4) (iN (fun i=>p.getD i 0*a) (3*(j+K)+20) k.1)),(.s 0,.av (.one (PL p j))),(.s 3,.av (.one (.ptr 0 0))),(.b 0,.blk 30 [(some 4,RT a K)])]) (fun k=>p.length-k.1) ⟨0,Nat.zero_le _⟩ (aZ.mk ⟨aB _,aB _,fC rfl,aB _,aB _,aB _,trivial⟩ rfl rfl) (fun k=>?_);obtain⟨k,hk⟩:=k;simp only;refine CV.seq ?_;refine sr rfl ?_;refine xm ?_;refine xm ?_;refine p1 (bL aV bE) ?_;refine p1 (dP) ?_;refine RV.done ?_;refine CV.cond rfl (fun hc=>?_) (fun hc=>?_)
 ·have hlt:k<p.length:=(by have:=of_decide_eq_true hc; omega)
  refine CV.skip ?_;refine CV.seq ?_;refine CV.block ?_;refine CV.region rfl (fun _=>by kernel_rfl) ?_;refine xm ?_;refine xm ?_;refine xm ?_;refine p1 (cV (k:=some 4) (i:=k) (dN hlt) bE cH) ?_;refine p1 (bT aC) ?_;refine p1 (aJ aC) ?_;refine xc (aDe _ _ _ _ hj hK) Tryz.func124 (xb rfl rfl) hfr ?_;refine p1 (fH (G:=Dm.gen (cA (some 4) [_])) (cS _ _) bY mO rfl rfl rfl (by intro s hs; obtain rfl:=List.mem_singleton.1 hs; rfl) rfl rfl rfl bd (xa rfl)) ?_;refine gI (aN.plain (iR (r:=100) (r':=101) (gU (by decide) rfl) (by rw[iF]; show (k+1)*64<=_; omega) (by rw[iF]; show k+1<=_; omega) bY gL rfl rfl rfl (by intro x hx; obtain rfl:=List.mem_singleton.1 hx; rfl) iF.symm rfl rfl bd rfl rfl rfl rfl rfl rfl rfl rfl) rfl) ?_;refine xn ?_;refine bU (by kernel_rfl) ?_;refine CV.region rfl (fun h=>nomatch h) ?_;refine xm ?_;refine p1 (cP (c:=((k+1:Nat):Int)) (by rw[bV (by omega) (by omega)]; omega) rfl rfl bd rfl rfl) ?_;refine xn ?_;refine RV.done ?_;exact⟨⟨k+1,hlt⟩,kW (fun i=>if i=100 then 101 else i) ⟨gG,mK rfl rfl,fC (wM (f:=fun i=>p.getD i 0*a)),gG,fun _ _ _ _ h=>h,⟨rfl,fun _ _ _ _ h=>h⟩,trivial⟩ rfl rfl rfl rfl,by show p.length-(k+1)<p.length-k; omega⟩
 ·refine CV.exit ?_;refine CV.seq ?_;have hk1:k=p.length:=(by have:=of_decide_eq_false hc; omega)
  subst hk1;rw[uB];refine jZ (r:=100) (t:=5) (G:=Dm.gen (cA (some 4) (bB (tab (fun i=>p.getD i 0*a) p.length) (3*(j+K)+20)))) (cx.bw hfr) rfl rfl (by rw[aV,gT]) rfl rfl (cS _ _) (iS _ _) ?_;refine CV.region rfl (fun h=>nomatch h) ?_;refine xm ?_;refine xd rfl (oA _ _ (by rw[gT]; omega)) Tryz.func66 (xa rfl) hfr ?_;refine xn ?_;refine RV.done ?_;refine CV.ret ?_;exact aS rfl (.inr rfl) rfl cL
theorem aXc {k:Option Nat} {l l':List (SA Dm)} (h:fW (fun s s':SA Dm=>∀ L ρ w v,s.is L ρ w v->s'.is L ρ w v) l l'):∀ L ρ w cs,bZ L ρ w (dB k l) cs->bZ L ρ w (dB k l') cs:=by
 induction h with
 | nil=>intro L ρ w cs h; exact h
 | cons h1 _ ih =>
  rintro L ρ w cs ⟨p,r,v,e1,e2,e3,e4⟩;exact⟨p,r,v,e1,e2,h1 L ρ w v e3,ih L ρ w r e4⟩
theorem aUf {B:Nat}:∀ L ρ w v,(SA.v dX:SA Dm).is L ρ w v->(RT 0 B).is L ρ w v:=by
 intro L ρ w v hv w' _;obtain rfl:v=dX:=hv;have h0:(aA (0:Int).natAbs).length<=B:=by rw[show (0:Int).natAbs=0 from rfl,gA]; exact Nat.zero_le _
 exact⟨_,_,rfl,aL.nil (by decide),aL.nil (by decide),h0,h0⟩
theorem aVr {T:TypeId} {n B:Nat} {f:Nat->Nat}:(XV.row T (some 4) (List.replicate n (SA.v dX)):XV Dm).leR f (.row T (some 4) (bB (List.replicate n 0) B)):=by
 have h:fW (fun s s':SA Dm=>∀ L ρ w v,s.is L ρ w v->s'.is L ρ w v) (List.replicate n (SA.v dX)) (bB (List.replicate n 0) B):=by
  unfold bB;rw[List.map_replicate]
  induction n with
  | zero=>exact .nil
  | succ n ih=>rw[List.replicate_succ,List.replicate_succ]; exact .cons aUf ih
 exact⟨rfl,rfl,h.length_eq,fun _=>pC,aXc h⟩
theorem aXl {l:List Rat} {B i:Nat} {a:Rat}:(bB l B).set i (RT a B)=bB (l.set i a) B:=by simp[bB,List.map_set]
def gZ (p q:List Rat) (i:Nat):Nat->List Rat->List Rat
 | 0,l=>l
 | j+1,l=>(gZ p q i j l).set (i+j) ((gZ p q i j l).getD (i+j) 0+p.getD i 0*q.getD j 0)
def gP (p q:List Rat):Nat->List Rat
 | 0=>List.replicate (p.length+q.length-1) 0
 | i+1=>gZ p q i q.length (gP p q i)
def kY (p q:List Rat):List Rat:=if p=[]\/q=[] then [] else aI (gP p q p.length)
theorem aAc {p q:List Rat} {i:Nat}:∀ {j:Nat} {l:List Rat},(gZ p q i j l).length=l.length
 | 0,_=>rfl
 | j+1,l=>by rw[gZ,List.length_set,aAc]
theorem uG {p q:List Rat}:∀ {i:Nat},(gP p q i).length=p.length+q.length-1
 | 0=>List.length_replicate
 | i+1=>by rw[gP,aAc,uG]
theorem aNo {l:List Rat} {B i:Nat} {a:Rat} (hl:aH l B=true) (ha:aH [a] B=true):aH (l.set i a) B=true:=qP fun b hb=>by
 rcases List.mem_or_eq_of_mem_set hb with hb | rfl
 ·exact xN hl hb
 ·exact ha
theorem aEv {p q:List Rat} {K J:Nat} (h1:1<=K) (h2:1<=J) (hp:aH p K=true) (hq:aH q J=true) {i:Nat}:∀ {j m:Nat} {l:List Rat},1<=m->aH l m=true->aH (gZ p q i j l) (m+j*(K+J+1))=true
 | 0,m,l,_,hl=>zT (Nat.le_add_right _ _) hl
 | j+1,m,l,hm,hl=>by
  have ih:=aEv h1 h2 hp hq (i:=i) (j:=j) hm hl;rw[gZ,Nat.succ_mul];refine aNo (zT (by omega) ih) (pH ?_ (aNq (by omega) (by omega) (uP ih (i+j)) (aFs h1 h2 (uP hp i) (uP hq j))));omega
theorem aL3 {p q:List Rat} {K J:Nat} (h1:1<=K) (h2:1<=J) (hp:aH p K=true) (hq:aH q J=true):∀ {i:Nat},aH (gP p q i) (1+i*(q.length*(K+J+1)))=true
 | 0=>qP fun a ha=>by rw[List.eq_of_mem_replicate ha]; exact qN
 | i+1=>by
  rw[gP,Nat.succ_mul,<- Nat.add_assoc];exact aEv h1 h2 hp hq (by omega) (aL3 h1 h2 hp hq)
theorem aSw (p q:List Rat) (K J B:Nat) (hp:p.length<=1000000) (hq:q.length<=1000000) (h:p=[]\/q=[]):aD Tryz.prog 67 [PL p K,PL q J] (.one (PL [] B)):=by
 refine aD.of (n:=58) Tryz.func67 rfl rfl rfl rfl rfl fun cx hfr=>?_;refine sr rfl ?_;refine xn ?_;refine RV.done ?_;refine CV.seq ?_;refine sr rfl ?_;refine xm ?_;refine p1 (bL aV bE) ?_;refine p1 (cW) ?_;refine xm ?_;refine RV.bool (fun h0=>?_) (fun h0=>?_)
 ·refine xk ?_;refine xk ?_;refine xk ?_;refine p1 (cX) ?_;refine RV.done ?_;refine CV.yes rfl ?_;refine sr rfl ?_;refine xn ?_;refine RV.done ?_;refine CV.ret ?_;exact aS rfl (.inr rfl) rfl (fun L ρ w v h=>oK L ρ w v h)
 ·refine y1 (cB (.inl rfl)) ?_;refine y1 (bL aV bE) ?_;refine y1 (cW) ?_;refine p1 (eI) ?_;refine RV.done ?_;refine CV.cond rfl (fun hc=>?_) (fun hc=>False.elim (h.elim (fun e=>by rw[e] at h0; simp at h0) (fun e=>by rw[e] at hc; simp at hc)));refine sr rfl ?_;refine xn ?_;refine RV.done ?_;refine CV.ret ?_;exact aS rfl (.inr rfl) rfl (fun L ρ w v h=>oK L ρ w v h)
section
variable (p q:List Rat) (K J B:Nat) (hp:p.length<=100000) (hq:q.length<=100000) (hp0:p≠[]) (hq0:q≠[]) (hK:K<=150000) (hJ:J<=150000) (hB:B<=1000000) (hz:∀ i j,i<p.length->j<=q.length->aH (gZ p q i j (gP p q i)) B=true)
include hp hq hp0 hq0 hK hJ hB hz
theorem aIz:aD Tryz.prog 67 [PL p K,PL q J] (.one (PL (aI (gP p q p.length)) B)):=by
 have hpl:=List.length_pos_iff.2 hp0;have hql:=List.length_pos_iff.2 hq0;refine aD.of (n:=58) Tryz.func67 rfl rfl rfl rfl rfl fun cx hfr=>?_;refine sr rfl ?_;refine xn ?_;refine RV.done ?_;refine CV.seq ?_;refine sr rfl ?_;refine xm ?_;refine p1 (bL aV bE) ?_;refine p1 (cW) ?_;refine xm ?_;refine RV.bool (fun hb=>False.elim (by simp at hb; exact hp0 hb)) (fun hb=>?_);refine y1 (cB (.inl rfl)) ?_;refine y1 (bL aV bE) ?_;refine y1 (cW) ?_;refine p1 (eI) ?_;refine RV.done ?_;refine CV.cond rfl (fun hc=>False.elim (by simp at hc; exact hq0 hc)) (fun hc=>?_);refine CV.skip ?_;refine sr rfl ?_;refine xm ?_;refine p1 (bL aV bE) ?_;refine xm ?_;refine p1 (bL aV bE) ?_;refine p1 (cP (c:=((p.length+q.length:Nat):Int)) (by rw[bV (by omega) (by omega)]; omega) rfl rfl bd rfl rfl) ?_;refine p1 (dU (c:=((p.length+q.length-1:Nat):Int)) (by rw[bV (by omega) (by omega)]; omega) rfl rfl bd rfl rfl) ?_;refine p2 (xI (r:=22) (Nat.le_refl _) (by omega) (by omega) bY gL rfl rfl rfl rfl bd rfl rfl rfl rfl rfl) ?_;refine xn ?_;refine RV.done ?_;refine CV.seq ?_;refine sr rfl ?_;refine xn ?_;refine RV.done ?_;refine CV.block ?_;refine CV.loop (X:={i:Nat // i<=p.length}) (fun i=>[(.s 6,.av (.one (.v (.int .i64 (i.1:Int))))),(.s 5,.av (.one (.sl 22 (p.length+q.length-1)))),(.b 22,.row 30 (some 4) (bB (gP p q i.1) B)),(.s 0,.av (.one (PL p K))),(.s 1,.av (.one (PL q J)))]) (fun i=>p.length-i.1) ⟨0,Nat.zero_le _⟩ (aZ.mk ⟨aB _,aB _,aVr,aB _,aB _,trivial⟩ rfl rfl) (fun i=>?_);obtain⟨i,hi⟩:=i;simp only;refine CV.seq ?_;refine sr rfl ?_;refine xm ?_;refine xm ?_;refine p1 (bL aV bE) ?_;refine p1 (dP) ?_;refine RV.done ?_;refine CV.cond rfl (fun hc=>?_) (fun hc=>?_)
 ·have hlt:i<p.length:=(by have:=of_decide_eq_true hc; omega)
  refine CV.skip ?_;refine CV.seq ?_;refine CV.block ?_;refine sr rfl ?_;refine xn ?_;refine RV.done ?_;refine CV.block ?_;refine CV.loop (X:={j:Nat // j<=q.length}) (fun j=>[(.s 7,.av (.one (.v (.int .i64 (j.1:Int))))),(.s 6,.av (.one (.v (.int .i64 (i:Int))))),(.s 5,.av (.one (.sl 22 (p.length+q.length-1)))),(.b 22,.row 30 (some 4) (bB (gZ p q i j.1 (gP p q i)) B)),(.s 0,.av (.one (PL p K))),(.s 1,.av (.one (PL q J)))]) (fun j=>q.length-j.1) ⟨0,Nat.zero_le _⟩ (aZ.mk ⟨aB _,aB _,aB _,aB _,aB _,aB _,trivial⟩ rfl rfl) (fun j=>?_);obtain⟨j,hj⟩:=j;simp only;refine CV.seq ?_;refine sr rfl ?_;refine xm ?_;refine xm ?_;refine p1 (bL aV bE) ?_;refine p1 (dP) ?_;refine RV.done ?_;refine CV.cond rfl (fun hd=>?_) (fun hd=>?_)
  ·have hlj:j<q.length:=(by have:=of_decide_eq_true hd; omega)
   have hlen:(gZ p q i j (gP p q i)).length=p.length+q.length-1:=(by rw[aAc,uG])
   have hnew:=hz i (j+1) hlt hlj;have hel:=uP hnew (i+j);rw[gZ,List.getD_eq_getElem?_getD,List.getElem?_set_self (by omega),Option.getD_some] at hel;refine CV.skip ?_;refine CV.seq ?_;refine CV.block ?_;refine CV.region rfl (fun _=>by kernel_rfl) ?_;refine xm ?_;refine xm ?_;refine xm ?_;refine p1 (cP (c:=((i+j:Nat):Int)) (by rw[bV (by omega) (by omega)]; omega) rfl rfl bd rfl rfl) ?_;refine xm ?_;refine xm ?_;refine xm ?_;refine p1 (cP (c:=((i+j:Nat):Int)) (by rw[bV (by omega) (by omega)]; omega) rfl rfl bd rfl rfl) ?_;refine p1 (mZ (i:=i+j) (by omega) (by rw[aV]; omega) bY cH rfl rfl bd rfl rfl rfl) ?_;refine p1 (uH (i:=i+j) (dN (by omega)) rfl aC (by show 0<4; decide) rfl rfl bd rfl rfl) ?_;refine xm ?_;refine xm ?_;refine p1 (cV (k:=some 4) (i:=i) (dN hlt) bE cH) ?_;refine p1 (bT aC) ?_;refine xm ?_;refine xm ?_;refine p1 (cV (k:=some 4) (i:=j) (dN hlj) bE cH) ?_;refine p1 (bT aC) ?_;refine xd rfl (aDe _ _ _ _ (by omega) (by omega)) Tryz.func124 (xb rfl rfl) hfr ?_;refine xd rfl ((aDf _ _ B (3*(K+J)+20) (by omega) (by omega)).mono (fun _ _ _ _ h=>h) (eQ hel)) Tryz.func31 (xb rfl rfl) hfr ?_;refine p1 (mZ (i:=i+j) (by omega) (by rw[aV]; omega) bY cH rfl rfl bd rfl rfl rfl) ?_;refine p1 (tQ (i:=i+j) (by rw[aV]; omega) (by show 0<4; decide) cH (.inl rfl) rfl rfl rfl rfl rfl rfl rfl rfl rfl) ?_;refine bU (by kernel_rfl) ?_;refine CV.region rfl (fun h=>nomatch h) ?_;refine xm ?_;refine p1 (cP (c:=((j+1:Nat):Int)) (by rw[bV (by omega) (by omega)]; omega) rfl rfl bd rfl rfl) ?_;refine xn ?_;refine RV.done ?_;exact⟨⟨j+1,hlj⟩,aZ.mk ⟨aB _,aB _,aB _,fC aXl,aB _,aB _,trivial⟩ rfl rfl,by show q.length-(j+1)<q.length-j; omega⟩
  ·refine CV.exit ?_;have hjq:j=q.length:=(by have:=of_decide_eq_false hd; omega)
   subst hjq;refine CV.region rfl (fun h=>nomatch h) ?_;refine xm ?_;refine p1 (cP (c:=((i+1:Nat):Int)) (by rw[bV (by omega) (by omega)]; omega) rfl rfl bd rfl rfl) ?_;refine xn ?_;refine RV.done ?_;exact⟨⟨i+1,hlt⟩,aZ.mk ⟨aB _,aB _,fC rfl,aB _,aB _,trivial⟩ rfl rfl,by show p.length-(i+1)<p.length-i; omega⟩
 ·refine CV.exit ?_;refine CV.seq ?_;have hip:i=p.length:=(by have:=of_decide_eq_false hc; omega)
  subst hip;refine jZ (r:=22) (t:=5) (G:=Dm.gen (cA (some 4) (bB (gP p q p.length) B))) (cx.bw hfr) rfl rfl (by rw[aV,uG]) rfl rfl (cS _ _) (iS _ _) ?_;refine CV.region rfl (fun h=>nomatch h) ?_;refine xm ?_;refine xd rfl (oA _ _ (by rw[uG]; omega)) Tryz.func66 (xa rfl) hfr ?_;refine xn ?_;refine RV.done ?_;refine CV.ret ?_;exact aS rfl (.inr rfl) rfl cL
end
theorem aSo (p q:List Rat):(kY p q).length<=p.length+q.length-1:=by
 unfold kY;split
 ·exact Nat.zero_le _
 ·refine Nat.le_trans (mX _) ?_;rw[uG];exact Nat.le_refl _
theorem aSv (p q:List Rat) (K J B:Nat) (h1:1<=K) (h2:1<=J) (hzp:aH p K=true) (hzq:aH q J=true) (hp:p.length<=100000) (hq:q.length<=100000) (hK:K<=100000) (hJ:J<=100000) (hB:B<=100000) (hle:1+(p.length+1)*(q.length*(K+J+1))<=B):aD Tryz.prog 67 [PL p K,PL q J] (.one (PL (kY p q) B)):=by
 by_cases h:p=[]\/q=[]
 ·rw[kY,if_pos h];exact aSw p q K J B (by omega) (by omega) h
 ·rw[kY,if_neg h];refine aIz p q K J B hp hq (fun e=>h (.inl e)) (fun e=>h (.inr e)) (by omega) (by omega) (by omega) fun i j hi hj=>?_;refine zT ?_ (aEv h1 h2 hzp hzq (by omega) (aL3 h1 h2 hzp hzq));have e1:i*(q.length*(K+J+1))+q.length*(K+J+1)<=(p.length+1)*(q.length*(K+J+1)):=by
   rw[<- Nat.succ_mul];exact Nat.mul_le_mul_right _ (by omega)
  have e2:=Nat.mul_le_mul_right (K+J+1) hj;omega
theorem aA6 {a:Rat} {k:Nat} (h:aH [a] k=true):aH [-a] k=true:=by
 obtain⟨h1,h2⟩:=qO h;refine pR ?_ h2;rw[show (-a).num = -a.num from rfl];exact Vc.aAr h1
theorem aL4:aH [Rat.divInt 1 1] 1=true:=by decide +kernel
theorem sz3 (a b:Int):aH [cE a,cE b,Rat.divInt 1 1] 1=true:=aEw (uC a) (aEw (uC b) aL4)
theorem yM (a:Int):aH [-(cE a),Rat.divInt 1 1] 1=true:=aEw (aA6 (uC a)) aL4
section
variable (zs:List Int) (hz:∀ z∈zs,-9223372036854775808<=z/\z<=9223372036854775807)
include hz
end
theorem cK (l:List Rat):aI (aI l)=aI l:=by
 rcases aHn l with h | h
 ·rw[h]; rfl
 ·generalize aI l=m at *;by_cases hm:m=[]
  ·rw[hm]; rfl
  ·obtain⟨m',a,rfl⟩:∃ m' a,m=m'++[a]:=⟨m.dropLast,m.getLast hm,(List.dropLast_concat_getLast _).symm⟩
   have ha:a≠0:=by simpa using h
   rw[rU,if_neg ha]
theorem aRb (p q:List Rat):aI (kY p q)=kY p q:=by
 unfold kY;split
 ·rfl
 ·exact cK _
end Vc
end Go.Proofs.YtbaihklbefhgdaaGreat

namespace Go.Proofs.YtbaihklbefhgdaaGreat
open Go.RowKit
open Dg Zn
namespace Vc
def ev:List Rat->Rat->Rat
 | [],_=>0
 | a::l,x=>a+x*ev l x
theorem aDu {l:List Rat} (h:aI l=[]):∀ k,l.getD k 0=0:=by
 induction l with
 | nil=>intro k; rfl
 | cons a l ih =>
  rw[aI] at h;by_cases h1:aI l=[]
  ·rw[if_pos h1] at h;by_cases h0:a=0
   ·subst h0;intro k;cases k with
    | zero=>rfl
    | succ k=>exact ih h1 k
   ·rw[if_neg h0] at h; cases h
  ·rw[if_neg h1] at h; cases h
theorem aD3 {l:List Rat} (h:∀ k,l.getD k 0=0):aI l=[]:=by
 induction l with
 | nil=>rfl
 | cons a l ih =>
  have h1:aI l=[]:=ih fun k=>h (k+1);have h0:a=0:=h 0;rw[aI,if_pos h1,if_pos h0]
theorem aJ8:∀ {p q:List Rat},(∀ k,p.getD k 0=q.getD k 0)->aI p=aI q
 | [],q,h=>(aD3 fun k=>(h k).symm).symm
 | a::p,[],h=>aD3 h
 | a::p,b::q,h=>by
  have h1:=aJ8 (p:=p) (q:=q) fun k=>h (k+1);obtain rfl:a=b:=h 0;rw[aI,aI,h1]
theorem aDb (l:List Rat):∀ k,(aI l).getD k 0=l.getD k 0:=by
 induction l with
 | nil=>intro k; rfl
 | cons a l ih =>
  intro k;rw[aI];by_cases h1:aI l=[]
  ·rw[if_pos h1];have:=aDu h1;cases k with
   | zero=>split<;>simp_all
   | succ k => 
    have e:=this k;split
    ·simpa using e.symm
    ·simpa using e.symm
  ·rw[if_neg h1];cases k with
   | zero=>rfl
   | succ k=>exact ih k
theorem oH:∀ {l:List Rat},(∀ k,l.getD k 0=0)->∀ x,ev l x=0
 | [],_,x=>rfl
 | a::l,h,x=>by
  have h0:a=0:=h 0;rw[ev,h0,oH (l:=l) fun k=>h (k+1)];grind
theorem xU:∀ {p q:List Rat},(∀ k,p.getD k 0=q.getD k 0)->∀ x,ev p x=ev q x
 | [],q,h,x=>(oH (fun k=>(h k).symm) x).symm
 | a::p,[],h,x=>oH h x
 | a::p,b::q,h,x=>by
  obtain rfl:a=b:=h 0;rw[ev,ev,xU (p:=p) (q:=q) (fun k=>h (k+1))]
theorem kC (l:List Rat) (x:Rat):ev (aI l) x=ev l x:=xU (aDb l) x
theorem aSj (g:Nat->Rat) (n:Nat):tab g (n+1)=g 0::tab (fun k=>g (k+1)) n:=by
 unfold tab;rw[List.range_succ_eq_map,List.map_cons,List.map_map];rfl
theorem sF {g:Nat->Rat} {n k:Nat}:(tab g n).getD k 0=if k<n then g k else 0:=by
 unfold tab;rw[List.getD_eq_getElem?_getD,List.getElem?_map];by_cases h:k<n
 ·rw[if_pos h,List.getElem?_range h]; rfl
 ·rw[if_neg h,List.getElem?_eq_none (by rw[List.length_range]; omega)]; rfl
theorem rS (g:Nat->Rat) (n:Nat) (x:Rat):ev (tab g (n+1)) x=g 0+x*ev (tab (fun k=>g (k+1)) n) x:=by rw[aSj,ev]
theorem aC4 (f g:Nat->Rat) (x:Rat):∀ n,ev (tab (fun k=>f k+g k) n) x=ev (tab f n) x+ev (tab g n) x:=by
 intro n
 induction n generalizing f g with
 | zero=>show (0:Rat)=0+0; grind
 | succ n ih=>rw[rS,rS,rS,ih]; grind
theorem aCd (f:Nat->Rat) (a x:Rat):∀ n,ev (tab (fun k=>f k*a) n) x=ev (tab f n) x*a:=by
 intro n
 induction n generalizing f with
 | zero=>show (0:Rat)=0*a; grind
 | succ n ih=>rw[rS,rS,ih]; grind
theorem vD (p:List Rat) {n:Nat} (h:p.length<=n) (x:Rat):ev (tab (fun k=>p.getD k 0) n) x=ev p x:=by
 refine xU (fun k=>?_) x;rw[sF];by_cases hk:k<n
 ·rw[if_pos hk]
 ·rw[if_neg hk,dI (by omega)]
theorem fP (p q:List Rat) (x:Rat):ev (eD p q) x=ev p x+ev q x:=by
 rw[eD,kC,aC4,vD p (Nat.le_max_left _ _),vD q (Nat.le_max_right _ _)]
theorem cD (p:List Rat) (a x:Rat):ev (aM p a) x=ev p x*a:=by
 rw[aM,kC,aCd,vD p (Nat.le_refl _)]
theorem lO (p q:List Rat) (x:Rat):ev (fJ p q) x=ev p x-ev q x:=by
 have e:(fun k=>p.getD k 0-q.getD k 0)=fun k=>p.getD k 0+q.getD k 0*(-1):=by funext k; grind
 rw[fJ,kC,e,aC4,aCd,vD p (Nat.le_max_left _ _),vD q (Nat.le_max_right _ _)];grind
theorem aM1:∀ {l:List Rat},aI l≠[]->∃ e N:Rat,0<e/\((∀ x,N<=x->e<=ev l x)\/(∀ x,N<=x->ev l x <= -e))
 | [],h=>absurd rfl h
 | a::l,h=>by
  rw[aI] at h;by_cases h1:aI l=[]
  ·rw[if_pos h1] at h;have h0:a≠0:=fun e=>h (by rw[if_pos e]);have hz:=oH (aDu h1);rcases (by grind:0<a\/0 < -a) with hp | hp
   ·exact⟨a,0,hp,.inl fun x _=>by rw[ev,hz]; grind⟩
   ·exact⟨-a,0,hp,.inr fun x _=>by rw[ev,hz]; grind⟩
  ·obtain⟨e,N,he,hN⟩:=aM1 h1;obtain⟨M,m1,m2,m3,m4⟩:∃ M:Rat,N<=M/\0<=M/\e-a<=M*e/\e+a<=M*e:=by
    have hi:e*e⁻¹=1:=Rat.mul_inv_cancel e (by grind);have hi0:0<=e⁻¹:=Rat.le_of_lt (Rat.inv_pos.2 he);have hge:∀ y:Rat,∃ z:Rat,y<=z/\0<=z:=fun y=>by
     rcases (by grind:y<=0\/0<=y) with q | q
     ·exact⟨0,q,by grind⟩
     ·exact⟨y,by grind,q⟩
    obtain⟨z1,a1,a2⟩:=hge N;obtain⟨z2,b1,b2⟩:=hge (e-a);obtain⟨z3,c1,c2⟩:=hge (e+a);refine⟨z1+z2*e⁻¹+z3*e⁻¹,?_,?_,?_,?_⟩
    ·have:=Rat.mul_nonneg b2 hi0;have:=Rat.mul_nonneg c2 hi0;grind
    ·have:=Rat.mul_nonneg b2 hi0;have:=Rat.mul_nonneg c2 hi0;grind
    ·have:=Rat.mul_nonneg a2 (Rat.le_of_lt he);have q:(z1+z2*e⁻¹+z3*e⁻¹)*e=z1*e+z2+z3:=by grind
     grind
    ·have:=Rat.mul_nonneg a2 (Rat.le_of_lt he);have q:(z1+z2*e⁻¹+z3*e⁻¹)*e=z1*e+z2+z3:=by grind
     grind
   refine⟨e,M,he,?_⟩;rcases hN with hN | hN
   ·refine .inl fun x hx=>?_;have h2:=hN x (by grind);have h3:M*e<=x*ev l x:=by
     have q1:M*e<=x*e:=Rat.mul_le_mul_of_nonneg_right hx (Rat.le_of_lt he);have q2:x*e<=x*ev l x:=Rat.mul_le_mul_of_nonneg_left h2 (by grind);grind
    rw[ev];grind
   ·refine .inr fun x hx=>?_;have h2:=hN x (by grind);have h3:M*e<=x*(- ev l x):=by
     have q1:M*e<=x*e:=Rat.mul_le_mul_of_nonneg_right hx (Rat.le_of_lt he);have q2:x*e<=x*(- ev l x):=Rat.mul_le_mul_of_nonneg_left (by grind) (by grind);grind
    rw[ev];grind
theorem rD {l:List Rat} (h:∀ x,ev l x=0):aI l=[]:=by
 rcases Decidable.em (aI l=[]) with q | q
 ·exact q
 ·obtain⟨e,N,he,hN⟩:=aM1 q;rcases hN with hN | hN
  ·have h1:=hN N Rat.le_refl;rw[h N] at h1;grind
  ·have h1:=hN N Rat.le_refl;rw[h N] at h1;grind
theorem xL {p q:List Rat} (h:∀ x,ev p x=ev q x):∀ k,p.getD k 0=q.getD k 0:=by
 have h1:aI (fJ p q)=[]:=rD fun x=>by rw[lO,h x]; grind
 intro k;have h2:=aDu h1 k;rw[fJ,aDb,sF] at h2;by_cases hk:k<max p.length q.length
 ·rw[if_pos hk] at h2;grind
 ·rw[dI (by omega),dI (by omega)]
theorem lQ {p q:List Rat} (hp:aI p=p) (hq:aI q=q) (h:∀ x,ev p x=ev q x):p=q:=by
 rw[<- hp,<- hq];exact aJ8 (xL h)
/-! Products. -/
theorem sB (f:Nat->Rat) (s:Nat):∀ c,dE f (s+c)=dE f s+dE (fun i=>f (s+i)) c
 | 0=>by show dE f s=dE f s+0; grind
 | c+1=>by
  show dE f (s+c)+f (s+c)=dE f s+(dE (fun i=>f (s+i)) c+f (s+c));rw[sB f s c];grind
theorem nZ {f:Nat->Rat}:∀ {n:Nat},(∀ i,i<n->f i=0)->dE f n=0
 | 0,_=>rfl
 | n+1,h=>by
  show dE f n+f n=0;rw[nZ (n:=n) fun i hi=>h i (by omega),h n (by omega)];grind
theorem wV {f g:Nat->Rat}:∀ {n:Nat},(∀ i,i<n->f i=g i)->dE f n=dE g n
 | 0,_=>rfl
 | n+1,h=>by
  show dE f n+f n=dE g n+g n;rw[wV (n:=n) fun i hi=>h i (by omega),h n (by omega)]
def fX (p q:List Rat) (k:Nat):Rat:=dE (fun i=>p.getD i 0*q.getD (k-i) 0) (k+1)
theorem aFg (a:Rat) (p q:List Rat) (k:Nat):fX (a::p) q k=q.getD k 0*a+(if k=0 then 0 else fX p q (k-1)):=by
 unfold fX;rw[show k+1=1+k by omega,sB];show (0+a*q.getD (k-0) 0)+_=_;rw[Nat.sub_zero];cases k with
 | zero=>show 0+a*_+0=_+if 0=0 then 0 else _; rw[if_pos rfl]; grind
 | succ k =>
  rw[if_neg (by omega),Nat.add_sub_cancel];have e:dE (fun i=>(a::p).getD (1+i) 0*q.getD (k+1-(1+i)) 0) (k+1)=dE (fun i=>p.getD i 0*q.getD (k-i) 0) (k+1):=wV fun i hi=>by
   rw[show 1+i=i+1 by omega,List.getD_cons_succ,show k+1-(i+1)=k-i by omega]
  rw[e];grind
theorem aO5 (q:List Rat) (x:Rat):∀ (p:List Rat) (n:Nat),p.length+q.length<=n+1->0<q.length->ev (tab (fX p q) n) x=ev p x*ev q x
 | [],n,h,h0=>by
  rw[ev];have e:∀ k,fX [] q k=0:=fun k=>nZ fun i _=>by rw[dI (Nat.zero_le _)]; grind
  rw[oH (fun k=>by rw[sF,e]; split<;>rfl)];grind
 | a::p,n,h,h0=>by
  rw[List.length_cons] at h;have e:fX (a::p) q=fun k=>q.getD k 0*a+(if k=0 then 0 else fX p q (k-1)):=funext fun k=>aFg a p q k;obtain⟨m,rfl⟩:∃ m,n=m+1:=⟨n-1,by omega⟩
  rw[e,aC4,aCd,vD q (by omega),rS];have e2:(fun k=>if k+1=0 then (0:Rat) else fX p q (k+1-1))=fX p q:=by
   funext k
   rw[if_neg (by omega),Nat.add_sub_cancel]
  rw[if_pos rfl,e2,aO5 q x p m (by omega) h0,ev];grind
theorem aUw {q:List Rat} {i:Nat} (h:i<q.length):q.reverse.getD i 0=q.getD (q.length-1-i) 0:=by
 rw[List.getD_eq_getElem?_getD,List.getD_eq_getElem?_getD,List.getElem?_reverse h]
theorem aLg {q:List Rat} {i j:Nat}:(q.drop i).getD j 0=q.getD (i+j) 0:=by
 rw[List.getD_eq_getElem?_getD,List.getD_eq_getElem?_getD,List.getElem?_drop]
theorem aFx {p q:List Rat} (h0:0<q.length) {k:Nat}:nO p q k=fX p q k:=by
 unfold nO aGp fX;rw[List.length_drop,List.length_drop,List.length_reverse];generalize hs:k-(q.length-1)=s;generalize ht:q.length-1-k=t;have e1:dE (fun i=>(p.drop s).getD i 0*(q.reverse.drop t).getD i 0) (min (p.length-s) (q.length-t))=dE (fun i=>p.getD (s+i) 0*q.getD (k-(s+i)) 0) (min (p.length-s) (q.length-t)):=wV fun i hi=>by
  rw[aLg,aLg,aUw (by omega),show q.length-1-(t+i)=k-(s+i) by omega]
 have e2:dE (fun i=>p.getD (s+i) 0*q.getD (k-(s+i)) 0) (k+1-s)=dE (fun i=>p.getD (s+i) 0*q.getD (k-(s+i)) 0) (min (p.length-s) (q.length-t)):=by
  generalize hc:min (p.length-s) (q.length-t)=c;obtain⟨d,hd⟩:∃ d,k+1-s=c+d:=⟨k+1-s-c,by omega⟩
  rw[hd,sB,nZ (f:=fun i=>p.getD (s+(c+i)) 0*q.getD (k-(s+(c+i))) 0),Rat.add_zero];intro i hi;rw[dI (l:=p) (by omega),Rat.zero_mul]
 rw[e1,<- e2,show k+1=s+(k+1-s) by omega,sB,nZ (n:=s),Rat.zero_add]
 ·rw[show s+(k+1-s)-s=k+1-s by omega]
 ·intro i hi;rw[dI (l:=q) (by omega),Rat.mul_zero]
theorem aW6 {f g:Nat->Rat} {n:Nat} (h:∀ k,k<n->f k=g k):tab f n=tab g n:=List.map_congr_left fun k hk=>h k (List.mem_range.1 hk)
theorem cM (p q:List Rat) (x:Rat):ev (bD p q) x=ev p x*ev q x:=by
 rw[bD,kC];rcases Nat.eq_zero_or_pos q.length with h | h
 ·obtain rfl:=List.eq_nil_of_length_eq_zero h;rw[ev,Rat.mul_zero];refine oH (fun k=>?_) x;rw[sF];split
  ·exact nZ fun i hi=>by
    rw[List.length_drop,List.length_drop,List.length_reverse,List.length_nil] at hi;omega
  ·rfl
 ·rw[aW6 fun k _=>aFx h,aO5 q x p _ (by omega) h]
def pw (x:Rat):Nat->Rat
 | 0=>1
 | n+1=>pw x n*x
theorem aF6 (c x:Rat):∀ (l:List Rat) (i:Nat),i<l.length->ev (l.set i (l.getD i 0+c)) x=ev l x+c*pw x i
 | a::l,0,_=>by show a+c+x*ev l x=a+x*ev l x+c*1; grind
 | a::l,i+1,h=>by
  show a+x*ev (l.set i (l.getD i 0+c)) x=a+x*ev l x+c*(pw x i*x);rw[aF6 c x l i (by simpa using h)];grind
theorem aNt (x:Rat) (i:Nat):∀ j,pw x (i+j)=pw x i*pw x j
 | 0=>by show pw x i=pw x i*1; grind
 | j+1=>by show pw x (i+j)*x=pw x i*(pw x j*x); rw[aNt x i j]; grind
def rL (q:List Rat) (x:Rat) (j:Nat):Rat:=dE (fun k=>q.getD k 0*pw x k) j
theorem aQ6 (f:Nat->Rat) (n:Nat):dE f (n+1)=f 0+dE (fun k=>f (k+1)) n:=by
 rw[show n+1=1+n by omega,sB];show 0+f 0+_=_;rw[Rat.zero_add];congr 1;exact wV fun i _=>by rw[Nat.add_comm]
theorem aKc (f:Nat->Rat) (a:Rat):∀ n,dE (fun k=>f k*a) n=dE f n*a
 | 0=>by show (0:Rat)=0*a; grind
 | n+1=>by show dE (fun k=>f k*a) n+f n*a=(dE f n+f n)*a; rw[aKc f a n]; grind
theorem aF7 (x:Rat):∀ (q:List Rat),rL q x q.length=ev q x
 | []=>rfl
 | a::q=>by
  rw[rL,List.length_cons,aQ6,ev];have e:dE (fun k=>(a::q).getD (k+1) 0*pw x (k+1)) q.length=dE (fun k=>q.getD k 0*pw x k*x) q.length:=wV fun k _=>by
   show q.getD k 0*(pw x k*x)=_;grind
  rw[e,aKc];have:=aF7 x q;unfold rL at this;rw[this];show a*1+_=_;grind
theorem aOf (p q:List Rat) (i:Nat) (x:Rat):∀ (j:Nat) (l:List Rat),i+j<=l.length->ev (gZ p q i j l) x=ev l x+p.getD i 0*pw x i*rL q x j
 | 0,l,_=>by show ev l x=ev l x+_*0; grind
 | j+1,l,h=>by
  rw[gZ,aF6 _ _ _ _ (by rw[aAc]; omega),aOf p q i x j l (by omega),aNt];show _=_+_*(rL q x j+q.getD j 0*pw x j);grind
theorem aOe (p q:List Rat) (x:Rat):∀ i,i<=p.length->ev (gP p q i) x=rL p x i*ev q x
 | 0,_=>by
  rw[gP,oH]
  ·show (0:Rat)=0*_; grind
  ·intro k;rw[List.getD_eq_getElem?_getD,List.getElem?_replicate];split<;>rfl
 | i+1,h=>by
  rw[gP,aOf p q i x q.length _ (by rw[uG]; omega),aOe p q x i (by omega),aF7];show _=(rL p x i+p.getD i 0*pw x i)*_;grind
theorem aM0 (p q:List Rat) (x:Rat):ev (kY p q) x=ev p x*ev q x:=by
 unfold kY;split
 ·rename_i h;rcases h with rfl | rfl
  ·rw[ev]; grind
  ·rw[ev]; grind
 ·rw[kC,aOe p q x _ (Nat.le_refl _),aF7]
/-! Values,shifts. -/
theorem aWa {l:List Rat} {k:Nat} (h:k<l.length):l.drop (l.length-(k+1))=l.getD (l.length-1-k) 0::l.drop (l.length-k):=by
 rw[List.drop_eq_getElem_cons (by omega),List.getD_eq_getElem?_getD,List.getElem?_eq_getElem (by omega)];rw[show l.length-(k+1)+1=l.length-k by omega];rw[Option.getD_some];simp only[show l.length-(k+1)=l.length-1-k by omega]
theorem aIa (p:List Rat) (x:Rat):∀ k,k<=p.length->oM p x (lZ id k)=ev (p.drop (p.length-k)) x
 | 0,_=>by rw[Nat.sub_zero,List.drop_length]; rfl
 | k+1,h=>by
  rw[aEf,aH9,aIa p x k (by omega),aWa (by omega),ev];show _*x+p.getD (p.length-1-k) 0=_;grind
theorem aX7 (p:List Rat) (x:Rat):aBo p x=ev p x:=by
 rw[aBo,aIa p x _ (Nat.le_refl _),Nat.sub_self,List.drop_zero]
/-! Derivatives. -/
def bI:List Rat->Rat->Rat
 | [],_=>0
 | _::l,x=>ev l x+x*bI l x
theorem aEd:∀ {l:List Rat},(∀ k,l.getD k 0=0)->∀ x,bI l x=0
 | [],_,_=>rfl
 | _::l,h,x=>by
  have h':∀ k,l.getD k 0=0:=fun k=>h (k+1);rw[bI,oH h',aEd h'];grind
theorem aM2:∀ {p q:List Rat},(∀ k,p.getD k 0=q.getD k 0)->∀ x,bI p x=bI q x
 | [],q,h,x=>(aEd (fun k=>(h k).symm) x).symm
 | a::p,[],h,x=>aEd h x
 | a::p,b::q,h,x=>by
  have h':∀ k,p.getD k 0=q.getD k 0:=fun k=>h (k+1);rw[bI,bI,xU h',aM2 h']
theorem rE {p q:List Rat} (h:∀ x,ev p x=ev q x) (x:Rat):bI p x=bI q x:=aM2 (xL h) x
theorem aIb (x:Rat):∀ (p:List Rat) (c:Nat),ev (tab (fun k=>p.getD k 0*((k+c:Nat):Rat)) p.length) x=x*bI p x+(c:Rat)*ev p x
 | [],c=>by show (0:Rat)=x*0+c*0; grind
 | a::p,c=>by
  rw[List.length_cons,rS];have e:(fun k=>(a::p).getD (k+1) 0*((k+1+c:Nat):Rat))=fun k=>p.getD k 0*((k+(c+1):Nat):Rat):=by
   funext k
   rw[List.getD_cons_succ,show k+1+c=k+(c+1) by omega]
  rw[e,aIb x p (c+1),ev,bI];show a*((0+c:Nat):Rat)+_=_;rw[Nat.zero_add];have e2:((c+1:Nat):Rat)=(c:Rat)+1:=by simp
  rw[e2];grind
theorem jH (p:List Rat) (x:Rat):ev (bN p) x=bI p x:=by
 rw[bN,kC];cases p with
 | nil=>rfl
 | cons a p =>
  have e:(fun k=>(a::p).getD (k+1) 0*((k+1:Nat):Rat))=fun k=>p.getD k 0*((k+1:Nat):Rat):=rfl;rw[e,List.length_cons,Nat.add_sub_cancel,aIb x p 1,bI];simp;grind
theorem aX8 (p q:List Rat):∀ x,bI (eD p q) x=bI p x+bI q x:=by
 induction p generalizing q with
 | nil =>
  intro x;rw[rE (q:=q) (fun y=>by rw[fP,ev]; grind),bI];grind
 | cons a p ih =>
  intro x;cases q with
  | nil=>rw[rE (q:=a::p) (fun y=>by rw[fP,ev]; grind)]; simp only[bI]; grind
  | cons b q =>
   rw[rE (q:=(a+b)::eD p q) (fun y=>by simp only[fP,ev]; grind)];simp only[bI,fP,ih];grind
theorem aDm (p:List Rat) (a:Rat):∀ x,bI (aM p a) x=bI p x*a:=by
 induction p with
 | nil=>intro x; rw[rE (q:=[]) (fun y=>by rw[cD,ev]; grind)]; rw[bI]; grind
 | cons b p ih =>
  intro x;rw[rE (q:=(b*a)::aM p a) (fun y=>by simp only[cD,ev]; grind)];simp only[bI,cD,ih];grind
theorem qU {p q r:List Rat} (h:∀ x,ev r x=ev p x*ev q x):∀ x,bI r x=bI p x*ev q x+ev p x*bI q x:=by
 induction p generalizing r with
 | nil =>
  intro x;rw[rE (q:=[]) (fun y=>by rw[h,ev]; grind)];simp only[bI,ev];grind
 | cons a p ih =>
  intro x;rw[rE (q:=eD (aM q a) (0::bD p q)) (fun y=>by rw[h,fP,cD,ev,ev,cM]; grind)];rw[aX8,aDm,bI,ih (cM p q),cM,bI,ev];grind
theorem aY7 {e B:Nat} (h:e<=29*B) (hB:1<=B):2^e<1000000000^B:=by
 have h1:2^e<=2^(29*B):=Nat.pow_le_pow_right (by decide) h;rw[Nat.pow_mul] at h1;exact Nat.lt_of_le_of_lt h1 (Nat.pow_lt_pow_left (by decide) (by omega))
theorem uX {l:List Rat} {e B:Nat} (hB:1<=B) (he:e<=29*B) (h:∀ a∈l,a.num.natAbs<=2^e/\a.den<=2^e):aH l B=true:=by
 refine qP fun a ha=>?_;have hp:=aY7 he hB;obtain⟨h1,h2⟩:=h a ha;refine pR (mQ.2 (Nat.lt_of_le_of_lt h1 hp)) (mQ.2 (Nat.lt_of_le_of_lt ?_ hp));unfold qd;split
 ·exact Nat.zero_le _
 ·exact h2
/-! A number with few bits. -/
def eE (a:Rat) (e:Nat):Prop:=∃ z m:Int,m≠0/\a*(m:Rat)=(z:Rat)/\z.natAbs<=2^e/\m.natAbs<=2^e
theorem nD {m:Int} (h:m≠0):(m:Rat)≠0:=fun e=>h (by
 have:(m:Rat)=((0:Int):Rat):=e;exact Rat.intCast_inj.1 this)
theorem xP (a:Rat):a*(a.den:Rat)=(a.num:Rat):=by
 have h:=Rat.num_divInt_den a;rw[Rat.divInt_eq_div,Rat.intCast_natCast] at h;have hd:(a.den:Rat)≠0:=fun e=>a.den_nz (by
  have:((a.den:Int):Rat)=((0:Int):Rat):=by rw[Rat.intCast_natCast]; exact e
  have:=Rat.intCast_inj.1 this;omega)
 have h2:(a.num:Rat)/(a.den:Rat)*(a.den:Rat)=(a.num:Rat):=by
  rw[Rat.div_def,Rat.mul_assoc,Rat.inv_mul_cancel _ hd,Rat.mul_one]
 rw[h] at h2;exact h2
theorem aJo {a:Rat} {e:Nat} (h:eE a e):a.num.natAbs<=2^e/\a.den<=2^e:=by
 obtain⟨z,m,hm,h1,h2,h3⟩:=h;have h4:a.num*m=z*a.den:=by
  have e1:=xP a;have e2:((a.num*m:Int):Rat)=((z*a.den:Int):Rat):=by
   rw[Rat.intCast_mul,Rat.intCast_mul,<- h1,<- e1];rw[Rat.intCast_natCast];grind
  exact Rat.intCast_inj.1 e2
 have h5:a.num.natAbs*m.natAbs=z.natAbs*a.den:=by
  have:=congrArg Int.natAbs h4;rw[Int.natAbs_mul,Int.natAbs_mul,Int.natAbs_natCast] at this;exact this
 have hc:Nat.Coprime a.num.natAbs a.den:=a.reduced;have d1:a.den ∣ m.natAbs:=by
  have:a.den ∣ a.num.natAbs*m.natAbs:=⟨z.natAbs,by rw[h5,Nat.mul_comm]⟩
  exact(Nat.Coprime.symm hc).dvd_of_dvd_mul_left this
 have d2:a.num.natAbs ∣ z.natAbs:=by
  have:a.num.natAbs ∣ z.natAbs*a.den:=⟨m.natAbs,h5.symm⟩
  exact hc.dvd_of_dvd_mul_right this
 refine⟨?_,Nat.le_trans (Nat.le_of_dvd (by omega) d1) h3⟩;by_cases hz:z.natAbs=0
 ·rw[hz,Nat.zero_mul] at h5;have h6:m.natAbs≠0:=by omega
  have:a.num.natAbs=0:=(Nat.mul_eq_zero.1 h5).resolve_right h6;omega
 ·exact Nat.le_trans (Nat.le_of_dvd (by omega) d2) h2
theorem nE {a:Rat} {e B:Nat} (hB:1<=B) (he:e<=29*B) (h:eE a e):aH [a] B=true :=
 uX hB he fun b hb=>by obtain rfl:=List.mem_singleton.1 hb; exact aJo h
def Cm (m:Int) (p:List Rat) (e:Nat):Prop:=∀ k,∃ z:Int,p.getD k 0*(m:Rat)=(z:Rat)/\z.natAbs<=2^e
def Cb (p:List Rat) (e:Nat):Prop:=∃ m:Int,m≠0/\m.natAbs<=2^e/\Cm m p e
theorem eJ {d e:Nat} (h:d<=e):2^d<=2^e:=Nat.pow_le_pow_right (by decide) h
theorem Cm.mono {m:Int} {p:List Rat} {d e:Nat} (h:Cm m p d) (hd:d<=e):Cm m p e:=fun k=>by
 obtain⟨z,h1,h2⟩:=h k;exact⟨z,h1,Nat.le_trans h2 (eJ hd)⟩
theorem Cb.mono {p:List Rat} {d e:Nat} (h:Cb p d) (hd:d<=e):Cb p e:=by
 obtain⟨m,h1,h2,h3⟩:=h;exact⟨m,h1,Nat.le_trans h2 (eJ hd),h3.mono hd⟩
theorem Cb.few {p:List Rat} {e:Nat} (h:Cb p e) (k:Nat):eE (p.getD k 0) e:=by
 obtain⟨m,h1,h2,h3⟩:=h;obtain⟨z,h4,h5⟩:=h3 k;exact⟨z,m,h1,h4,h5,h2⟩
theorem Cb.sz {p:List Rat} {e B:Nat} (h:Cb p e) (hB:1<=B) (he:e<=29*B):aH p B=true :=
 uX hB he fun a ha=>by
  obtain⟨i,hi,rfl⟩:=List.getElem_of_mem ha;have:=aJo (h.few i);rw[List.getD_eq_getElem?_getD,List.getElem?_eq_getElem hi] at this;exact this
theorem Cm.ext {m:Int} {p q:List Rat} {e:Nat} (h:Cm m p e) (hq:∀ k,q.getD k 0=p.getD k 0):Cm m q e:=fun k=>by rw[hq]; exact h k
theorem Cb.ext {p q:List Rat} {e:Nat} (h:Cb p e) (hq:∀ k,q.getD k 0=p.getD k 0):Cb q e:=by
 obtain⟨m,h1,h2,h3⟩:=h;exact⟨m,h1,h2,h3.ext hq⟩
theorem Cb.nil (e:Nat):Cb [] e:=⟨1,by decide,Nat.one_le_two_pow,fun k=>⟨0,by rw[dI (Nat.zero_le _),Rat.zero_mul]; rfl,Nat.zero_le _⟩⟩
theorem aXx {a b c d:Nat} (h1:a<=2^c) (h2:b<=2^d):a*b<=2^(c+d):=by rw[Nat.pow_add]; exact Nat.mul_le_mul h1 h2
theorem gW {a b:Int} {c d:Nat} (h1:a.natAbs<=2^c) (h2:b.natAbs<=2^d):(a*b).natAbs<=2^(c+d):=by rw[Int.natAbs_mul]; exact aXx h1 h2
theorem aYn {a b:Int} {c:Nat} (h1:a.natAbs<=2^c) (h2:b.natAbs<=2^c):(a+b).natAbs<=2^(c+1):=by rw[Nat.pow_succ]; omega
theorem aFl {a b:Int} {c:Nat} (h1:a.natAbs<=2^c) (h2:b.natAbs<=2^c):(a-b).natAbs<=2^(c+1):=by rw[Nat.pow_succ]; omega
theorem oE {g:Nat->Rat} {n k:Nat}:(aI (tab g n)).getD k 0=if k<n then g k else 0:=by rw[aDb,sF]
theorem Cb.scale {p:List Rat} {a:Rat} {c d:Nat} (hp:Cb p c) (ha:eE a d):Cb (aM p a) (c+d):=by
 obtain⟨m,m1,m2,m3⟩:=hp;obtain⟨z,n,n1,n2,n3,n4⟩:=ha;refine⟨m*n,Int.mul_ne_zero m1 n1,gW m2 n4,fun k=>?_⟩;obtain⟨y,y1,y2⟩:=m3 k;refine⟨y*z,?_,gW y2 n3⟩;have e:(aM p a).getD k 0=p.getD k 0*a:=by
  rw[aM,oE];split
  ·rfl
  ·rw[dI (by omega)]; grind
 rw[e,Rat.intCast_mul,Rat.intCast_mul,<- y1,<- n2];grind
theorem Cb.derive {p:List Rat} {c t:Nat} (hp:Cb p c) (ht:p.length<=2^t):Cb (bN p) (c+t):=by
 obtain⟨m,m1,m2,m3⟩:=hp;refine⟨m,m1,Nat.le_trans m2 (eJ (by omega)),fun k=>?_⟩;rw[bN,oE];by_cases hk:k<p.length-1
 ·rw[if_pos hk];obtain⟨y,y1,y2⟩:=m3 (k+1);refine⟨y*((k+1:Nat):Int),?_,gW y2 (by rw[Int.natAbs_natCast]; omega)⟩;rw[Rat.intCast_mul,<- y1,Rat.intCast_natCast];grind
 ·rw[if_neg hk];exact⟨0,by grind,Nat.zero_le _⟩
theorem aKd {f:Nat->Rat} {M:Rat} {e:Nat} (h:∀ i,∃ z:Int,f i*M=(z:Rat)/\z.natAbs<=2^e):∀ n,∃ z:Int,dE f n*M=(z:Rat)/\z.natAbs<=n*2^e
 | 0=>⟨0,by show (0:Rat)*M=((0:Int):Rat); rw[Rat.zero_mul]; rfl,Nat.zero_le _⟩
 | n+1=>by
  obtain⟨z,z1,z2⟩:=aKd h n;obtain⟨y,y1,y2⟩:=h n;refine⟨z+y,?_,by rw[Nat.succ_mul]; omega⟩;show (dE f n+f n)*M=_;rw[Rat.intCast_add,<- z1,<- y1];grind
theorem aOh {p q:List Rat} {k:Nat} (h:p.length+q.length<=k+1):fX p q k=0:=by
 refine nZ fun i _=>?_;rcases Nat.lt_or_ge i p.length with hi | hi
 ·rw[dI (l:=q) (by omega),Rat.mul_zero]
 ·rw[dI hi,Rat.zero_mul]
theorem zY (p q:List Rat) (k:Nat):(bD p q).getD k 0=fX p q k:=by
 rw[bD,oE];rcases Nat.eq_zero_or_pos q.length with h | h
 ·obtain rfl:=List.eq_nil_of_length_eq_zero h;have e:fX p [] k=0:=nZ fun i _=>by rw[dI (l:=[]) (Nat.zero_le _),Rat.mul_zero]
  rw[e];split
  ·exact nZ fun i hi=>by
    rw[List.length_drop,List.length_drop,List.length_reverse,List.length_nil] at hi;omega
  ·rfl
 ·split
  ·exact aFx h
  ·rw[aOh (by omega)]
theorem Cb.cv {p q:List Rat} {c d t:Nat} (hp:Cb p c) (hq:Cb q d) (ht:p.length+q.length<=2^t):∃ m:Int,m≠0/\m.natAbs<=2^(c+d+t)/\∀ k,∃ z:Int,fX p q k*(m:Rat)=(z:Rat)/\z.natAbs<=2^(c+d+t):=by
 obtain⟨m,m1,m2,m3⟩:=hp;obtain⟨n,n1,n2,n3⟩:=hq;refine⟨m*n,Int.mul_ne_zero m1 n1,Nat.le_trans (gW m2 n2) (eJ (by omega)),fun k=>?_⟩;rcases Nat.lt_or_ge (k+1) (p.length+q.length) with hk | hk
 ·obtain⟨z,z1,z2⟩:=aKd (f:=fun i=>p.getD i 0*q.getD (k-i) 0) (M:=((m*n:Int):Rat)) (e:=c+d) (fun i=>by
   obtain⟨y,y1,y2⟩:=m3 i;obtain⟨z,z1,z2⟩:=n3 (k-i);refine⟨y*z,?_,gW y2 z2⟩;rw[Rat.intCast_mul,Rat.intCast_mul,<- y1,<- z1];grind) (k+1)
  refine⟨z,z1,Nat.le_trans z2 ?_⟩;rw[Nat.pow_add 2 (c+d) t,Nat.mul_comm];exact Nat.mul_le_mul_left _ (by omega)
 ·rw[aOh hk];exact⟨0,by rw[Rat.zero_mul]; rfl,Nat.zero_le _⟩
theorem Cb.mul {p q:List Rat} {c d t:Nat} (hp:Cb p c) (hq:Cb q d) (ht:p.length+q.length<=2^t):Cb (bD p q) (c+d+t):=by
 obtain⟨m,h1,h2,h3⟩:=hp.cv hq ht;exact⟨m,h1,h2,fun k=>by rw[zY]; exact h3 k⟩
theorem eO {p:List Rat} (hp:aI p=p) (h0:p≠[]):aG p≠0:=by
 have:=aHn p;rw[hp] at this;exact this.resolve_left h0
theorem Cb.monic {p:List Rat} {c:Nat} (hp:Cb p c) (h0:aG p≠0):Cb (aY p) c:=by
 obtain⟨m,m1,m2,m3⟩:=hp;obtain⟨n,n1,n2⟩:=m3 (p.length-1);have hm:=nD m1;have hn:n≠0:=by
  rintro rfl;have h3:aG p*(m:Rat)=0:=n1;rcases Rat.mul_eq_zero.1 h3 with h | h
  ·exact h0 h
  ·exact hm h
 refine⟨n,hn,n2,fun k=>?_⟩;obtain⟨z,z1,z2⟩:=m3 k;refine⟨z,?_,z2⟩;have e:(aY p).getD k 0=p.getD k 0*(1/aG p):=by
  rw[aY,aM,oE];split
  ·rfl
  ·rw[dI (by omega)]; grind
 have n1':aG p*(m:Rat)=(n:Rat):=n1;rw[e,<- z1,<- n1'];grind
/-! vQ step of a division. -/
theorem aEz (p q:List Rat) (m:Rat) (k:Nat):(eB p q m).getD k 0=if k<p.length-1 then (if k<p.length-q.length then p.getD k 0 else p.getD k 0-m*q.getD (k-(p.length-q.length)) 0) else 0:=by rw[eB,oE]
theorem aAn (p q:List Rat) (m:Rat):(eB p q m).length<=p.length-1:=by
 unfold eB;refine Nat.le_trans (mX _) ?_;rw[gT];exact Nat.le_refl _
theorem aZ0 {p q:List Rat} {mp mq n:Int} {c d:Nat} (hp:Cm mp p c) (hq:Cm mq q d) (hm:mq≠0) (hn:aG q*(mq:Rat)=(n:Rat)) (hnb:n.natAbs<=2^d) (h0:aG q≠0):Cm (mp*n) (eB p q (aG p/aG q)) (c+d+1):=by
 intro k;obtain⟨l,l1,l2⟩:=hp (p.length-1);have l1':aG p*(mp:Rat)=(l:Rat):=l1;obtain⟨y,y1,y2⟩:=hp k;rw[aEz];have b1:(y*n).natAbs<=2^(c+d):=gW y2 hnb;have hq0:=nD hm;by_cases h1:k<p.length-1
 ·rw[if_pos h1];by_cases h2:k<p.length-q.length
  ·rw[if_pos h2];refine⟨y*n,?_,Nat.le_trans b1 (eJ (by omega))⟩;rw[Rat.intCast_mul,Rat.intCast_mul,<- y1];grind
  ·rw[if_neg h2];obtain⟨z,z1,z2⟩:=hq (k-(p.length-q.length));refine⟨y*n-l*z,?_,aFl b1 (gW l2 z2)⟩;rw[Rat.intCast_sub,Rat.intCast_mul,Rat.intCast_mul,Rat.intCast_mul,<- y1,<- l1',<- z1,<- hn];grind
 ·rw[if_neg h1];exact⟨0,by rw[Rat.zero_mul]; rfl,Nat.zero_le _⟩
/-! Shifted lists; the value of one step. -/
def eM (s:Nat) (q:List Rat):List Rat:=List.replicate s 0++q
theorem aAm {s:Nat} {q:List Rat} {k:Nat}:(eM s q).getD k 0=if k<s then 0 else q.getD (k-s) 0:=by
 unfold eM;rw[List.getD_eq_getElem?_getD];by_cases h:k<s
 ·rw[if_pos h,List.getElem?_append_left (by rw[List.length_replicate]; exact h),List.getElem?_replicate,if_pos h];rfl
 ·rw[if_neg h,List.getElem?_append_right (by rw[List.length_replicate]; omega),List.length_replicate,List.getD_eq_getElem?_getD]
theorem xT (q:List Rat) (x:Rat):∀ s,ev (eM s q) x=pw x s*ev q x
 | 0=>by show ev q x=1*ev q x; rw[Rat.one_mul]
 | s+1=>by
  show ev (List.replicate (s+1) 0++q) x=pw x s*x*ev q x;rw[List.replicate_succ,List.cons_append,ev];have:=xT q x s;unfold eM at this;rw[this];grind
theorem jX (p:List Rat) (a:Rat) (k:Nat):(aM p a).getD k 0=p.getD k 0*a:=by
 rw[aM,oE];split
 ·rfl
 ·rw[dI (by omega),Rat.zero_mul]
theorem aW8 (p q:List Rat) (k:Nat):(fJ p q).getD k 0=p.getD k 0-q.getD k 0:=by
 rw[fJ,oE];split
 ·rfl
 ·rw[dI (by omega),dI (by omega)]; grind
theorem aYm (p q:List Rat) (k:Nat):(eD p q).getD k 0=p.getD k 0+q.getD k 0:=by
 rw[eD,oE];split
 ·rfl
 ·rw[dI (by omega),dI (by omega)]; grind
theorem aXg {p q:List Rat} {m:Rat} (hl:q.length<=p.length) (h0:0<q.length) (hm:aG p=m*aG q) (k:Nat):(eB p q m).getD k 0=(fJ p (aM (eM (p.length-q.length) q) m)).getD k 0:=by
 rw[aEz,aW8,jX,aAm];by_cases h1:k<p.length-q.length
 ·rw[if_pos (by omega),if_pos h1,if_pos h1]; grind
 ·rw[if_neg h1,if_neg h1];by_cases h2:k<p.length-1
  ·rw[if_pos h2]; grind
  ·rw[if_neg h2];by_cases h3:k=p.length-1
   ·rw[show k-(p.length-q.length)=q.length-1 by omega,h3];unfold aG at hm;rw[hm];grind
   ·rw[dI (l:=p) (by omega),dI (l:=q) (by omega)]; grind
theorem aBe {p q:List Rat} {m:Rat} (hl:q.length<=p.length) (h0:0<q.length) (hm:aG p=m*aG q) (x:Rat):ev (eB p q m) x=ev p x-pw x (p.length-q.length)*ev q x*m:=by
 rw[xU (aXg hl h0 hm),lO,cD,xT]
theorem zW (p q:List Rat) (m:Rat):aI (eB p q m)=eB p q m:=cK _
/-! Division. -/
def dA (u:List (Option Rat)):List Rat:=u.map fun o=>o.getD 0
theorem sC {u:List (Option Rat)} {i:Nat}:(dA u).getD i 0=(u.getD i none).getD 0:=by
 unfold dA;rw[List.getD_eq_getElem?_getD,List.getD_eq_getElem?_getD,List.getElem?_map];cases u[i]?<;>rfl
theorem aTm {p q:List Rat} {mp mq l n:Int} {e:Nat} (h1:aG p*(mp:Rat)=(l:Rat)) (h2:aG q*(mq:Rat)=(n:Rat)) (hp:mp≠0) (hq:aG q≠0) (hn:n≠0) (hl:(l*mq).natAbs<=2^e) (hb:(mp*n).natAbs<=2^e):eE (aG p/aG q) e:=by
 refine⟨l*mq,mp*n,Int.mul_ne_zero hp hn,?_,hl,hb⟩;rw[Rat.intCast_mul,Rat.intCast_mul,<- h1,<- h2,Rat.div_def];have:=Rat.mul_inv_cancel _ hq;grind
theorem xO {q:List Rat} {mq n:Int} (h2:aG q*(mq:Rat)=(n:Rat)) (hm:mq≠0) (hq:aG q≠0):n≠0:=by
 rintro rfl;rcases Rat.mul_eq_zero.1 (h2:aG q*(mq:Rat)=0) with h | h
 ·exact hq h
 ·exact nD hm h
theorem uQ {u:List (Option Rat)} {s i:Nat} {o:Option Rat} (h:s<u.length):(u.set s o).getD i none=if s=i then o else u.getD i none:=by
 rw[List.getD_eq_getElem?_getD,List.getD_eq_getElem?_getD];by_cases e:s=i
 ·subst e;rw[List.getElem?_set_self h,if_pos rfl];rfl
 ·rw[List.getElem?_set_ne e,if_neg e]
theorem aFd {u:List (Option Rat)} {s:Nat} {a:Rat} (h:s<u.length) (hn:u.getD s none=none) (x:Rat):ev (dA (u.set s (some a))) x=ev (dA u) x+a*pw x s:=by
 have e:dA (u.set s (some a))=(dA u).set s ((dA u).getD s 0+a):=by
  rw[sC,hn];unfold dA;rw[List.map_set];show _=List.set _ s (0+a);rw[Rat.zero_add];rfl
 rw[e,aF6 _ _ _ _ (by unfold dA; rw[List.length_map]; exact h)]
theorem aWb {B:Nat} {q:List Rat} {mq n:Int} {d:Nat} (hB:1<=B) (hq:0<q.length) (h0:aG q≠0) (hm:mq≠0) (hmq:mq.natAbs<=2^d) (hqd:Cm mq q d) (hn:aG q*(mq:Rat)=(n:Rat)) (hnb:n.natAbs<=2^d) :
  ∀ (f:Nat) (r:List Rat) (u:List (Option Rat)) (mr:Int) (c:Nat),r.length<f->aI r=r->mr≠0->mr.natAbs<=2^c->Cm mr r c->r.length+1<=u.length+q.length->(q.length<=r.length->∀ i,i<=r.length-q.length->u.getD i none=none)->c+(r.length+1-q.length)*(d+1)+d<=29*B ->
  ∃ U R j,iY B q f u r=some (U,R)/\U.length=u.length/\aI R=R/\R.length<q.length/\(∀ x,ev (dA U) x*ev q x+ev R x=ev (dA u) x*ev q x+ev r x)/\j<=r.length+1-q.length/\Cm (mr*n^j) R (c+j*(d+1))/\(∀ i,∃ z:Int,((dA U).getD i 0-(dA u).getD i 0)*((mr*n^j:Int):Rat)=(z:Rat)/\z.natAbs<=2^(c+(r.length+1-q.length)*(d+1)+d))/\(∀ i,r.length-q.length<i\/r.length<q.length->U.getD i none=u.getD i none)/\(q.length<=r.length->U.getD (r.length-q.length) none=some (aG r/aG q)):=by
 have hn0:=xO hn hm h0;intro f
 induction f with
 | zero=>intro r u mr c hf; omega
 | succ f ih =>
  intro r u mr c hf htr hmr hmrb hrc hul hun hE;rw[iY];by_cases hl:q.length<=r.length
  ·rw[if_pos hl];obtain⟨l,l1,l2⟩:=hrc (r.length-1);have hr0:r≠[]:=fun e=>by rw[e,List.length_nil] at hl; omega
   obtain⟨t,ht⟩:∃ t,r.length+1-q.length=t+1:=⟨r.length-q.length,by omega⟩
   rw[ht,Nat.succ_mul] at hE;have hfew:eE (aG r/aG q) (c+d):=aTm l1 hn hmr h0 hn0 (gW l2 hmq) (gW hmrb hnb);have hs1:aH [aG r/aG q] B=true:=nE hB (by omega) hfew;have hlr:aG r=aG r/aG q*aG q:=by
    rw[Rat.div_def,Rat.mul_assoc,Rat.inv_mul_cancel _ h0,Rat.mul_one]
   have hred:=aZ0 hrc hqd hm hn hnb h0;have hmn:(mr*n).natAbs<=2^(c+d+1):=Nat.le_trans (gW hmrb hnb) (eJ (by omega));have hs2:aH (eB r q (aG r/aG q)) B=true:=Cb.sz ⟨mr*n,Int.mul_ne_zero hmr hn0,hmn,hred⟩ hB (by omega);rw[if_pos (by rw[hs1,hs2]; rfl)];have hlen:=aAn r q (aG r/aG q);generalize hs:r.length-q.length=s at *;have hsu:s<u.length:=by omega
   have hrl:r.length≠0:=fun e=>hr0 (List.eq_nil_of_length_eq_zero e);have hst:t=s:=by omega
   have hsteps:(eB r q (aG r/aG q)).length+1-q.length<=t:=by omega
   have hmulle:=Nat.mul_le_mul_right (d+1) hsteps;obtain⟨U,R,j,k1,k2,k3,k4,k5,k6,k7,k8,k9,-⟩:=ih (eB r q (aG r/aG q)) (u.set s (some (aG r/aG q))) (mr*n) (c+d+1) (by omega) (zW _ _ _) (Int.mul_ne_zero hmr hn0) hmn hred (by rw[List.length_set]; omega) (fun _ i hi=>by
    rw[uQ hsu,if_neg (by omega)];exact hun hl i (by omega)) (by omega)
   have hUs:U.getD s none=some (aG r/aG q):=by
    rw[k9 s (by omega),uQ hsu,if_pos rfl]
   refine⟨U,R,j+1,k1,by rw[k2,List.length_set],k3,k4,fun x=>?_,by omega,?_,fun i=>?_,fun i hi=>?_,fun _=>hUs⟩
   ·rw[k5,aFd hsu (hun hl s (Nat.le_refl _)),aBe hl hq hlr,hs];grind
   ·rw[Int.pow_succ',<- Int.mul_assoc];exact k7.mono (by rw[Nat.succ_mul]; omega)
   ·have e:mr*n^(j+1)=mr*n*n^j:=by rw[Int.pow_succ',<- Int.mul_assoc]
    rw[e,ht,Nat.succ_mul];by_cases his:i=s
    ·subst his;have hdj:=Nat.mul_le_mul_left d (show j<=t by omega);refine⟨l*mq*n^j,?_,Nat.le_trans (gW (gW l2 hmq) (c:=c+d) (d:=d*j) ?_) (eJ ?_)⟩
     ·rw[sC,sC,hUs,hun hl i (Nat.le_refl _)];show (aG r/aG q-0)*_=_;have h5:aG r/aG q*((mr*n:Int):Rat)=((l*mq:Int):Rat):=by
       rw[Rat.intCast_mul,Rat.intCast_mul,<- (show aG r*(mr:Rat)=(l:Rat) from l1),<- hn,Rat.div_def];have:=Rat.mul_inv_cancel _ h0;grind
      rw[Rat.intCast_mul (mr*n),Rat.intCast_mul (l*mq),<- h5];grind
     ·rw[Int.natAbs_pow,Nat.pow_mul];exact Nat.pow_le_pow_left hnb _
     ·have:d*j<=t*(d+1):=by
       rw[Nat.mul_comm d j];exact Nat.mul_le_mul (by omega) (by omega)
      omega
    ·obtain⟨z,z1,z2⟩:=k8 i;refine⟨z,?_,Nat.le_trans z2 (eJ (by omega))⟩;rw[<- z1];congr 2;rw[sC,sC,uQ hsu,if_neg (fun e=>his e.symm)]
   ·have h7:s<i:=by omega
    rw[k9 i (by omega),uQ hsu,if_neg (by omega)]
  ·rw[if_neg hl];refine⟨u,r,0,rfl,rfl,htr,by omega,fun x=>rfl,Nat.zero_le _,?_,fun i=>⟨0,?_,Nat.zero_le _⟩,fun i _=>rfl,fun h=>absurd h hl⟩
   ·rw[Int.pow_zero,Int.mul_one];exact hrc.mono (by omega)
   ·have:(dA u).getD i 0-(dA u).getD i 0=0:=by grind
    rw[this,Rat.zero_mul];rfl
theorem zL (n:Nat) (k:Nat):(dA (List.replicate n none)).getD k 0=0:=by
 rw[sC,List.getD_eq_getElem?_getD,List.getElem?_replicate];split<;>rfl
theorem sW {p:List Rat} (h:p=[]\/aG p≠0):aI p=p:=by
 rcases h with rfl | h
 ·rfl
 ·have hp:p≠[]:=by rintro rfl; exact h rfl
  obtain⟨m',a,rfl⟩:∃ m' a,p=m'++[a]:=⟨p.dropLast,p.getLast hp,(List.dropLast_concat_getLast _).symm⟩
  have ha:a≠0:=by simpa[aG] using h
  rw[rU,if_neg ha]
def jR (p q:List Rat) (c d:Nat):Nat:=c+(p.length+1-q.length)*(d+1)+d
theorem wQ {B:Nat} {p q:List Rat} {c d:Nat} (hB:1<=B) (hp:aI p=p) (hq:aI q=q) (h0:q≠[]) (hc:Cb p c) (hd:Cb q d) (hE:jR p q c d<=29*B) :
  ∃ U R,dK B p q=some (U,R)/\aI U=U/\aI R=R/\R.length<q.length/\U.length=p.length+1-q.length/\(∀ x,ev p x=ev U x*ev q x+ev R x)/\Cb U (jR p q c d)/\Cb R (jR p q c d-d):=by
 unfold jR at *;obtain⟨mp,m1,m2,m3⟩:=hc;obtain⟨mq,n1,n2,n3⟩:=hd;obtain⟨n,nn1,nn2⟩:=n3 (q.length-1);have hl:=eO hq h0;have hql:=List.length_pos_iff.2 h0;obtain⟨U,R,j,k1,k2,k3,k4,k5,k6,k7,k8,k9,k10⟩:=aWb hB hql hl n1 n2 n3 nn1 nn2 (p.length+2) p (List.replicate (p.length+1-q.length) none) mp c (by omega) hp m1 m2 m3 (by rw[List.length_replicate]; omega) (fun _ i _=>by rw[List.getD_eq_getElem?_getD,List.getElem?_replicate]; split<;>rfl) hE;have hz:=zL (p.length+1-q.length);rw[List.length_replicate] at k2;have hM:mp*n^j≠0:=Int.mul_ne_zero m1 (Int.pow_ne_zero (xO nn1 n1 hl));have hjd:j*(d+1)<=(p.length+1-q.length)*(d+1):=Nat.mul_le_mul_right _ k6;have hMb:(mp*n^j).natAbs<=2^(c+(p.length+1-q.length)*(d+1)):=by
  refine Nat.le_trans (gW m2 (d:=d*j) ?_) (eJ ?_)
  ·rw[Int.natAbs_pow,Nat.pow_mul];exact Nat.pow_le_pow_left nn2 _
  ·have:d*j<=j*(d+1):=by rw[Nat.mul_comm]; exact Nat.mul_le_mul_left _ (by omega)
   omega
 refine⟨dA U,R,?_,?_,k3,k4,by unfold dA; rw[List.length_map,k2],fun x=>?_,⟨_,hM,Nat.le_trans hMb (eJ (by omega)),fun i=>?_⟩,⟨_,hM,Nat.le_trans hMb (eJ (by omega)),k7.mono (by omega)⟩⟩
 ·rw[dK,if_neg h0,k1];rfl
 ·refine sW ?_;rcases Nat.lt_or_ge p.length q.length with hlt | hge
  ·left
   refine List.eq_nil_of_length_eq_zero ?_;unfold dA;rw[List.length_map,k2];omega
  ·right
   have hp0:p≠[]:=fun e=>by rw[e,List.length_nil] at hge; omega
   have e:(dA U).length-1=p.length-q.length:=by unfold dA; rw[List.length_map,k2]; omega
   rw[aG,e,sC,k10 hge];show aG p/aG q≠0;rw[Rat.div_def];intro h;rcases Rat.mul_eq_zero.1 h with h | h
   ·exact eO hp hp0 h
   ·exact hl (by rw[<- Rat.inv_inv (aG q),h,Rat.inv_zero])
 ·rw[k5,oH hz];grind
 ·obtain⟨z,z1,z2⟩:=k8 i;rw[hz] at z1;exact⟨z,by rw[<- z1]; grind,z2⟩
/-! Whole numbers. -/
theorem aC3 {a:Rat} {z m:Int} (hm:m≠0) (h1:a*(m:Rat)=(z:Rat)):a.num.natAbs<=z.natAbs/\a.den ∣ m.natAbs/\a.den<=m.natAbs:=by
 have e1:=xP a;have h4:a.num*m=z*a.den:=by
  have e2:((a.num*m:Int):Rat)=((z*a.den:Int):Rat):=by
   rw[Rat.intCast_mul,Rat.intCast_mul,<- h1,<- e1];rw[Rat.intCast_natCast];grind
  exact Rat.intCast_inj.1 e2
 have h5:a.num.natAbs*m.natAbs=z.natAbs*a.den:=by
  have:=congrArg Int.natAbs h4;rw[Int.natAbs_mul,Int.natAbs_mul,Int.natAbs_natCast] at this;exact this
 have hc:Nat.Coprime a.num.natAbs a.den:=a.reduced;have d1:a.den ∣ m.natAbs:=by
  have:a.den ∣ a.num.natAbs*m.natAbs:=⟨z.natAbs,by rw[h5,Nat.mul_comm]⟩
  exact(Nat.Coprime.symm hc).dvd_of_dvd_mul_left this
 have d2:a.num.natAbs ∣ z.natAbs:=by
  have:a.num.natAbs ∣ z.natAbs*a.den:=⟨m.natAbs,h5.symm⟩
  exact hc.dvd_of_dvd_mul_right this
 refine⟨?_,d1,Nat.le_of_dvd (by omega) d1⟩;by_cases hz:z.natAbs=0
 ·rw[hz,Nat.zero_mul] at h5;have h6:m.natAbs≠0:=by omega
  have:a.num.natAbs=0:=(Nat.mul_eq_zero.1 h5).resolve_right h6;omega
 ·exact Nat.le_of_dvd (by omega) d2
theorem oI (z:Int):wR z=(z:Rat):=by
 rw[show wR z=Rat.divInt z 1 from rfl,Rat.divInt_eq_div,Rat.div_def];show (z:Rat)*(1:Rat)⁻¹=_;have:(1:Rat)⁻¹=1:=by decide +kernel
 rw[this,Rat.mul_one]
theorem lE {p:List Rat} {a:Rat} (hp:aI p=p) (ha:a≠0):(aM p a).length=p.length/\aG (aM p a)=aG p*a:=by
 by_cases h0:p=[]
 ·subst h0;refine⟨rfl,?_⟩;show (0:Rat)=0*a;rw[Rat.zero_mul]
 ·have hpl:=List.length_pos_iff.2 h0;have e:(tab (fun k=>p.getD k 0*a) p.length).length=p.length:=gT;have hl:aG (tab (fun k=>p.getD k 0*a) p.length)=aG p*a:=by
   unfold aG;rw[e,sF,if_pos (by omega)]
  have ht:aM p a=tab (fun k=>p.getD k 0*a) p.length:=sW (.inr (by
   rw[hl];intro h;exact(Rat.mul_eq_zero.1 h).elim (eO hp h0) ha))
  rw[ht];exact⟨e,hl⟩
theorem Cm.scale1 {p:List Rat} {n c d:Nat} (hp:Cm 1 p c) (hn:n<=2^d):Cm 1 (aM p (wR (n:Int))) (c+d):=fun k=>by
 obtain⟨z,z1,z2⟩:=hp k;refine⟨z*(n:Int),?_,gW z2 (by rw[Int.natAbs_natCast]; exact hn)⟩;rw[jX,oI,Rat.intCast_mul,<- z1];grind
theorem mI (a:Rat):a*((1:Int):Rat)=a:=Rat.mul_one a
theorem nJ {p:List Rat} {c:Nat} (h:Cm 1 p c):Cb p c:=⟨1,by decide,Nat.one_le_two_pow,h⟩
theorem aD4 {B:Nat} {q:List Rat} {d:Nat} (hB:1<=B) (hq:0<q.length) (h0:aG q≠0) (hqd:Cm 1 q d) :
  ∀ (f:Nat) (p:List Rat) (c:Nat),p.length<f->aI p=p->Cm 1 p c->c+(p.length+1-q.length)*(d+1)<=29*B ->
  ∃ R,kZ B q f p=some R/\aI R=R/\R.length<q.length/\(p.length<q.length->R=p)/\Cm 1 R (c+(p.length+1-q.length)*(d+1))/\∃ (a:Rat) (u:List Rat),a≠0/\∀ x,ev R x=a*ev p x+ev u x*ev q x:=by
 intro f
 induction f with
 | zero=>intro p c hf; omega
 | succ f ih =>
  intro p c hf htr hpc hE;rw[kZ];by_cases hl:q.length<=p.length
  ·rw[if_pos hl];have hp0:p≠[]:=fun e=>by rw[e,List.length_nil] at hl; omega
   have hlp:=eO htr hp0;obtain⟨l,l1,l2⟩:=hpc (p.length-1);obtain⟨n,n1,n2⟩:=hqd (q.length-1);have l1':aG p*((1:Int):Rat)=(l:Rat):=l1;have n1':aG q*((1:Int):Rat)=(n:Rat):=n1;have hn0:=xO n1' (by decide) h0;obtain⟨t,ht⟩:∃ t,p.length+1-q.length=t+1:=⟨p.length-q.length,by omega⟩
   rw[ht,Nat.succ_mul] at hE;have hM:fU q p*(n:Rat)=(l:Rat):=by
    rw[<- l1',<- n1',mI,mI,fU,Rat.div_def,Rat.mul_assoc,Rat.inv_mul_cancel _ h0,Rat.mul_one]
   obtain⟨f1,_,f3⟩:=aC3 hn0 hM;have hMl:aG p=fU q p*aG q:=by rw[fU,Rat.div_def,Rat.mul_assoc,Rat.inv_mul_cancel _ h0,Rat.mul_one]
   have hden:((fU q p).den:Rat)≠0:=fun e=>(fU q p).den_nz (by
    have:(((fU q p).den:Int):Rat)=((0:Int):Rat):=by rw[Rat.intCast_natCast]; exact e
    have:=Rat.intCast_inj.1 this;omega)
   have hw:wR ((fU q p).den:Int)≠0:=by rw[oI,Rat.intCast_natCast]; exact hden
   obtain⟨s1,s2⟩:=lE htr hw;have hS:Cm 1 (jP q p) (c+d):=hpc.scale1 (Nat.le_trans f3 n2);have hSl:(jP q p).length=p.length:=s1;have hnum:=xP (fU q p);have hSm:aG (jP q p)=wR (fU q p).num*aG q:=by
    show aG (aM p _)=_;rw[s2,oI,oI,Rat.intCast_natCast,hMl,<- hnum];grind
   have hN:Cm 1 (mulN q p) (c+d+1):=fun k=>by
    obtain⟨y,y1,y2⟩:=hS k;rw[mulN,aEz];by_cases h1:k<(jP q p).length-1
    ·rw[if_pos h1];by_cases h2:k<(jP q p).length-q.length
     ·rw[if_pos h2];exact⟨y,y1,Nat.le_trans y2 (eJ (by omega))⟩
     ·rw[if_neg h2];obtain⟨z,z1,z2⟩:=hqd (k-((jP q p).length-q.length));refine⟨y-(fU q p).num*z,?_,aFl y2 (gW (Nat.le_trans f1 l2) z2)⟩;rw[mI] at y1 z1 |-;rw[y1,z1,oI,Rat.intCast_sub,Rat.intCast_mul]
    ·rw[if_neg h1];exact⟨0,by rw[Rat.zero_mul]; rfl,Nat.zero_le _⟩
   have hNl:(mulN q p).length<p.length:=by
    have:=aAn (jP q p) q (wR (fU q p).num);rw[hSl] at this;have:=List.length_pos_iff.2 hp0;show (eB _ _ _).length<_;omega
   have hpos:0<t*(d+1)\/t=0:=by
    rcases Nat.eq_zero_or_pos t with h | h
    ·exact .inr h
    ·exact .inl (Nat.mul_pos h (by omega))
   have o1:aH [fU q p] B=true:=uX (e:=c+d) hB (by omega) fun b hb=>by
    obtain rfl:=List.mem_singleton.1 hb;exact⟨Nat.le_trans f1 (Nat.le_trans l2 (eJ (by omega))),Nat.le_trans f3 (Nat.le_trans n2 (eJ (by omega)))⟩
   have o2:aH (jP q p) B=true:=(nJ hS).sz hB (by omega);have o3:aH (mulN q p) B=true:=(nJ hN).sz hB (by omega);have hok:vJ B q p=true:=by
    unfold vJ;rw[o1,o2,o3,decide_eq_true (by rw[hSl]; exact hl),decide_eq_true hNl];rfl
   rw[if_pos hok];have hsteps:(mulN q p).length+1-q.length<=t:=by omega
   have hmulle:=Nat.mul_le_mul_right (d+1) hsteps;obtain⟨R,k1,k2,k3,_,k5,a,u,k6,k7⟩:=ih (mulN q p) (c+d+1) (by omega) (zW _ _ _) hN (by omega);refine⟨R,k1,k2,k3,fun h=>by omega,k5.mono (by rw[ht,Nat.succ_mul]; omega),a*wR ((fU q p).den:Int),eD u (aM (eM ((jP q p).length-q.length) [wR (fU q p).num]) (-a)),fun h=>(Rat.mul_eq_zero.1 h).elim k6 hw,fun x=>?_⟩;rw[k7,mulN,aBe (by rw[hSl]; exact hl) hq hSm,jP,cD,fP,cD,xT,ev,ev];grind
  ·rw[if_neg hl];refine⟨p,rfl,htr,by omega,fun _=>rfl,hpc.mono (by omega),1,[],by decide,fun x=>?_⟩;rw[ev];grind
theorem aDh {B:Nat} {m:Int} {c:Nat} (hB:1<=B) (hE:c<=29*B) (hm:m≠0) (hmb:m.natAbs<=2^c) :
  ∀ (l:List Rat) (e:Rat) (g:Int),(∀ a∈l,∃ z:Int,a*(m:Rat)=(z:Rat)/\z.natAbs<=2^c)->e*(m:Rat)=(g:Rat)->g≠0->g.natAbs<=2^c ->
  ∃ (D:Rat) (h:Int),gM B l e=some D/\D*(m:Rat)=(h:Rat)/\h≠0/\h.natAbs<=2^c/\(∃ y:Int,e=D*(y:Rat))/\∀ a∈l,∃ y:Int,a=D*(y:Rat)
 | [],e,g,_,h1,h2,h3=>⟨e,g,rfl,h1,h2,h3,⟨1,by rw[mI]⟩,fun a ha=>nomatch ha⟩
 | a::l,e,g,hl,h1,h2,h3=>by
  have hm0:=nD hm;have he:e≠0:=by
   rintro rfl;rw[Rat.zero_mul] at h1;exact h2 (Rat.intCast_inj.1 h1.symm)
  obtain⟨z,z1,z2⟩:=hl a List.mem_cons_self;have hi:=Rat.mul_inv_cancel e he;have r1:a/e*(g:Rat)=(z:Rat):=by
   rw[<- h1,<- z1,Rat.div_def];grind
  obtain⟨f1,⟨g1,f2⟩,f3⟩:=aC3 h2 r1;obtain⟨g2,hg2⟩:∃ g2:Int,g=((a/e).den:Int)*g2:=by
   rcases Int.natAbs_eq g with h | h
   ·exact⟨g1,by rw[h,f2,Int.natCast_mul]⟩
   ·exact⟨-g1,by rw[h,f2,Int.natCast_mul,Int.mul_neg]⟩
  have hden:((a/e).den:Rat)≠0:=fun q=>(a/e).den_nz (by
   have:(((a/e).den:Int):Rat)=((0:Int):Rat):=by rw[Rat.intCast_natCast]; exact q
   have:=Rat.intCast_inj.1 this;omega)
  have hnum:=xP (a/e);have hg20:g2≠0:=by rintro rfl; exact h2 (by rw[hg2,Int.mul_zero])
  have hg2b:g2.natAbs<=2^c:=by
   have:=congrArg Int.natAbs hg2;rw[Int.natAbs_mul,Int.natAbs_natCast] at this;have h5:=Nat.le_mul_of_pos_left g2.natAbs (Nat.pos_of_ne_zero (a/e).den_nz);omega
  have hdi:=Rat.mul_inv_cancel _ hden;have r2:e/wR ((a/e).den:Int)*(m:Rat)=(g2:Rat):=by
   rw[oI,Rat.intCast_natCast,Rat.div_def];have h6:e*(m:Rat)=((a/e).den:Rat)*(g2:Rat):=by rw[h1,hg2,Rat.intCast_mul,Rat.intCast_natCast]
   grind
  have s1:aH [a/e] B=true:=uX (e:=c) hB hE fun b hb=>by
   obtain rfl:=List.mem_singleton.1 hb;exact⟨Nat.le_trans f1 z2,Nat.le_trans f3 h3⟩
  have s2:aH [e/wR ((a/e).den:Int)] B=true:=nE hB hE ⟨g2,m,hm,r2,hg2b,hmb⟩;obtain⟨D,h,k1,k2,k3,k4,⟨y,k5⟩,k6⟩:=aDh hB hE hm hmb l (e/wR ((a/e).den:Int)) g2 (fun b hb=>hl b (List.mem_cons_of_mem _ hb)) r2 hg20 hg2b;have hey:e=D*((y*((a/e).den:Int):Int):Rat):=by
   rw[oI,Rat.intCast_natCast,Rat.div_def] at k5;rw[Rat.intCast_mul,Rat.intCast_natCast];grind
  refine⟨D,h,by rw[gM,if_pos (by rw[s1,s2]; rfl),k1],k2,k3,k4,⟨_,hey⟩,fun b hb=>?_⟩;rcases List.mem_cons.1 hb with rfl | hb
  ·refine⟨y*(b/e).num,?_⟩;have h7:b=b/e*e:=by rw[Rat.div_def,Rat.mul_assoc,Rat.inv_mul_cancel _ he,Rat.mul_one]
   rw[oI,Rat.intCast_natCast,Rat.div_def] at k5;rw[Rat.intCast_mul,<- hnum];grind
  ·exact k6 b hb
theorem zK {B:Nat} {p:List Rat} {c:Nat} (hB:1<=B) (hp:aI p=p) (hc:Cb p c) (hE:c<=29*B) :
  ∃ R,jN B p=some R/\aI R=R/\R.length=p.length/\Cm 1 R c/\∃ a:Rat,a≠0/\∀ x,ev R x=a*ev p x:=by
 by_cases h0:p=[]
 ·subst h0;refine⟨[],?_,rfl,rfl,fun k=>⟨0,by rw[dI (Nat.zero_le _),Rat.zero_mul]; rfl,Nat.zero_le _⟩,1,by decide,fun x=>by rw[ev]; grind⟩;have z:aH [(0:Rat)] B=true:=uX (e:=0) hB (Nat.zero_le _) fun b hb=>by
   obtain rfl:=List.mem_singleton.1 hb;exact⟨by decide,by decide⟩
  show (if (aH [1/0] B&&_)=true then some _ else none)=_;rw[show (1:Rat)/0=0 by decide +kernel,z];rfl
 ·obtain⟨m,m1,m2,m3⟩:=hc;obtain⟨g,g1,g2⟩:=m3 (p.length-1);have hl:=eO hp h0;have hm0:=nD m1;have g1':aG p*(m:Rat)=(g:Rat):=g1;have hg:g≠0:=xO g1' m1 hl;have hmem:∀ a∈p,∃ k,a=p.getD k 0:=fun a ha=>by
   obtain⟨i,hi,rfl⟩:=List.getElem_of_mem ha;exact⟨i,by rw[List.getD_eq_getElem?_getD,List.getElem?_eq_getElem hi]; rfl⟩
  obtain⟨D,h,k1,k2,k3,k4,_,k6⟩:=aDh hB hE m1 m2 p (aG p) g (fun a ha=>by
   obtain⟨k,rfl⟩:=hmem a ha;exact m3 k) g1' hg g2
  have hD:D≠0:=by
   rintro rfl;rw[Rat.zero_mul] at k2;exact k3 (Rat.intCast_inj.1 k2.symm)
  have hDi:=Rat.mul_inv_cancel D hD;have h1D:(1:Rat)/D=D⁻¹:=by rw[Rat.div_def,Rat.one_mul]
  have hD1:(1:Rat)/D≠0:=by
   rw[h1D];intro e;rw[e] at hDi;grind
  have hCR:Cm 1 (aM p (1/D)) c:=fun k=>by
   rw[jX,mI,h1D];rcases Nat.lt_or_ge k p.length with hk | hk
   ·obtain⟨y,y1⟩:=k6 (p.getD k 0) (by rw[List.getD_eq_getElem?_getD,List.getElem?_eq_getElem hk]; exact List.getElem_mem hk);obtain⟨z,z1,z2⟩:=m3 k;refine⟨y,by rw[y1]; grind,?_⟩;have e:((h*y:Int):Rat)=(z:Rat):=by
     rw[Rat.intCast_mul,<- z1,y1,<- k2];grind
    have e:=congrArg Int.natAbs (Rat.intCast_inj.1 e);rw[Int.natAbs_mul] at e;have:=Nat.le_mul_of_pos_left y.natAbs (show 0<h.natAbs by omega);omega
   ·rw[dI hk];exact⟨0,by rw[Rat.zero_mul]; rfl,Nat.zero_le _⟩
  have s1:aH [1/D] B=true:=nE hB hE ⟨m,h,k3,by rw[h1D,<- k2]; grind,m2,k4⟩;have s2:=(nJ hCR).sz hB hE;refine⟨aM p (1/D),?_,cK _,(lE hp hD1).1,hCR,1/D,hD1,fun x=>by rw[cD,Rat.mul_comm]⟩;unfold jN;rw[k1];show (if _ then some _ else none)=_;rw[s1,s2];rfl
/-! Divisors. -/
def Dv (g p:List Rat):Prop:=∃ u:List Rat,∀ x,ev p x=ev u x*ev g x
def cQ (p q g:List Rat):Prop:=Dv g p/\Dv g q/\∃ a b:List Rat,∀ x,ev g x=ev a x*ev p x+ev b x*ev q x
theorem cQ.symm {p q g:List Rat} (h:cQ p q g):cQ q p g:=by
 obtain⟨h1,h2,a,b,h3⟩:=h;exact⟨h2,h1,b,a,fun x=>by rw[h3]; grind⟩
theorem aLy (p:List Rat):cQ p [] p:=⟨⟨[1],fun x=>by rw[ev,ev]; grind⟩,⟨[],fun x=>by rw[ev]; grind⟩,[1],[],fun x=>by rw[ev,ev,ev]; grind⟩
theorem cQ.step {p q r g u:List Rat} {a:Rat} (ha:a≠0) (h:∀ x,ev r x=a*ev p x+ev u x*ev q x) (hg:cQ q r g):cQ p q g:=by
 obtain⟨⟨s,h1⟩,⟨t,h2⟩,c,d,h3⟩:=hg;have hi:=Rat.inv_mul_cancel a ha;refine⟨⟨aM (fJ t (bD u s)) a⁻¹,fun x=>?_⟩,⟨s,h1⟩,aM d a,eD c (bD d u),fun x=>?_⟩
 ·rw[cD,lO,cM];have e1:=h x;have e2:=h1 x;have e3:=h2 x;grind
 ·rw[cD,fP,cM,h3,h x];grind
theorem cQ.left {p p' q g:List Rat} {a:Rat} (ha:a≠0) (h:∀ x,ev p' x=a*ev p x) (hg:cQ p' q g):cQ p q g:=by
 obtain⟨⟨s,h1⟩,h2,c,d,h3⟩:=hg;have hi:=Rat.inv_mul_cancel a ha;refine⟨⟨aM s a⁻¹,fun x=>?_⟩,h2,aM c a,d,fun x=>?_⟩
 ·rw[cD];have e1:=h x;have e2:=h1 x;grind
 ·rw[cD,h3,h x];grind
theorem cQ.right {p q q' g:List Rat} {a:Rat} (ha:a≠0) (h:∀ x,ev q' x=a*ev q x) (hg:cQ p q' g):cQ p q g:=(cQ.left ha h hg.symm).symm
theorem cQ.res {p q g g':List Rat} {a:Rat} (ha:a≠0) (h:∀ x,ev g' x=a*ev g x) (hg:cQ p q g):cQ p q g':=by
 obtain⟨⟨s,h1⟩,⟨t,h2⟩,c,d,h3⟩:=hg;have hi:=Rat.inv_mul_cancel a ha;refine⟨⟨aM s a⁻¹,fun x=>?_⟩,⟨aM t a⁻¹,fun x=>?_⟩,aM c a,aM d a,fun x=>?_⟩
 ·rw[cD];have e1:=h x;have e2:=h1 x;grind
 ·rw[cD];have e1:=h x;have e2:=h2 x;grind
 ·rw[cD,cD,h x,h3];grind
/-! Degrees. -/
theorem uS {p q:List Rat} (hp:aI p=p) (hq:aI q=q) (hp0:p≠[]) (hq0:q≠[]):(bD p q).length=p.length+q.length-1/\aG (bD p q)=aG p*aG q:=by
 have h1:=List.length_pos_iff.2 hp0;have h2:=List.length_pos_iff.2 hq0;have e:(tab (nO p q) (p.length+q.length-1)).length=p.length+q.length-1:=gT;have hl:aG (tab (nO p q) (p.length+q.length-1))=aG p*aG q:=by
  unfold aG;rw[e,sF,if_pos (by omega),aFx h2,fX,show p.length+q.length-1-1+1=(p.length-1)+(1+(q.length-1)) by omega,sB,nZ,Rat.zero_add,sB,nZ (n:=q.length-1),Rat.add_zero]
  ·show (0:Rat)+p.getD (p.length-1+0) 0*q.getD _ 0=_;rw[Nat.add_zero,Rat.zero_add,show p.length+q.length-1-1-(p.length-1)=q.length-1 by omega]
  ·intro i hi;rw[dI (l:=p) (by omega),Rat.zero_mul]
  ·intro i hi;rw[dI (l:=q) (by omega),Rat.mul_zero]
 have ht:bD p q=tab (nO p q) (p.length+q.length-1):=sW (.inr (by
  rw[hl];intro h;exact(Rat.mul_eq_zero.1 h).elim (eO hp hp0) (eO hq hq0)))
 rw[ht];exact⟨e,hl⟩
theorem aKv (p q:List Rat):aI (bD p q)=bD p q:=cK _
theorem uO {p:List Rat} (hp:aI p=p) (h0:p≠[]):aI p≠[]:=by rw[hp]; exact h0
theorem nI {g p:List Rat} (hg:aI g=g) (hp:aI p=p) (h0:p≠[]) (h:Dv g p):g≠[]/\g.length<=p.length/\(g.length=p.length->∃ c:Rat,c≠0/\∀ x,ev p x=c*ev g x):=by
 obtain⟨u,hu⟩:=h;have hu':∀ x,ev p x=ev (aI u) x*ev g x:=fun x=>by rw[kC,hu]
 have hg0:g≠[]:=by
  rintro rfl;exact uO hp h0 (rD fun x=>by rw[hu,ev,Rat.mul_zero])
 have hu0:aI u≠[]:=by
  intro e;exact uO hp h0 (rD fun x=>by rw[hu',e,ev,Rat.zero_mul])
 have hpe:p=bD (aI u) g:=lQ hp (aKv _ _) fun x=>by rw[cM,hu']
 obtain⟨m1,_⟩:=uS (cK u) hg hu0 hg0;have hul:=List.length_pos_iff.2 hu0;refine⟨hg0,by rw[hpe,m1]; omega,fun he=>?_⟩;have h1:(aI u).length=1:=by
  rw[hpe,m1] at he;omega
 obtain⟨c,hc⟩:∃ c,aI u=[c]:=List.length_eq_one_iff.1 h1;have hc0:c≠0:=by
  have:=eO (cK u) hu0;rw[hc] at this;exact this
 exact⟨c,hc0,fun x=>by rw[hu',hc,ev,ev]; grind⟩
theorem aRv {p q g h:List Rat} (hg:cQ p q g) (hh:cQ p q h) (tg:aI g=g) (th:aI h=h) (h0:g≠[]) (hl:aG g=aG h):g=h:=by
 have dv:∀ {g h:List Rat},cQ p q g->cQ p q h->Dv g h:=by
  rintro g h ⟨⟨s,h1⟩,⟨t,h2⟩,_⟩ ⟨_,_,a,b,h3⟩;exact⟨eD (bD a s) (bD b t),fun x=>by rw[fP,cM,cM,h3,h1,h2]; grind⟩
 obtain⟨n1,l1,_⟩:=nI th tg h0 (dv hh hg);obtain⟨_,l2,c1⟩:=nI tg th n1 (dv hg hh);obtain⟨c,hc,he⟩:=c1 (by omega);have e2:h=aM g c:=lQ th (cK _) fun x=>by rw[cD,he,Rat.mul_comm]
 have hlast:=(lE tg hc).2;rw[<- e2,<- hl] at hlast;have hg1:=eO tg h0;have hi:=Rat.mul_inv_cancel _ hg1;have hc1:c=1:=by grind
 refine lQ tg th fun x=>by rw[he,hc1,Rat.one_mul]
/-! poly.Gcd. -/
theorem aFv:∀ {g:Nat},1<=g->2^g*5<=5^g*2
 | 1,_=>by decide
 | g+2,_=>by
  have:=aFv (g:=g+1) (by omega);rw[Nat.pow_succ 2,Nat.pow_succ 5];omega
theorem aNu:∀ {g:Nat},1<=g->2^g*(5*g+7)<=5^g*5
 | 1,_=>by decide
 | g+2,_=>by
  have h:=aNu (g:=g+1) (by omega);have h2:=aFv (g:=g+1) (by omega);rw[Nat.pow_succ 2,Nat.pow_succ 5];generalize 5^(g+1)=y at *;generalize 2^(g+1)=x at *;have e:x*2*(5*(g+2)+7)=2*(x*(5*(g+1)+7))+2*(x*5):=by grind
  rw[e];omega
def gE (M n:Nat):Nat:=5^n*2^(M-n)
theorem aFp {M n:Nat} (h:n<=M):gE M n<=5^M:=by
 unfold gE;obtain⟨k,rfl⟩:∃ k,M=n+k:=⟨M-n,by omega⟩
 rw[Nat.pow_add,Nat.add_sub_cancel_left];exact Nat.mul_le_mul_left _ (Nat.pow_le_pow_left (by decide) _)
theorem aW1 {M n:Nat} (h1:1<=n) (h:n<=M):5*2^(M-1)<=gE M n:=by
 unfold gE;obtain⟨k,rfl⟩:∃ k,n=k+1:=⟨n-1,by omega⟩
 obtain⟨j,rfl⟩:∃ j,M=k+1+j:=⟨M-(k+1),by omega⟩
 rw[show k+1+j-1=k+j by omega,show k+1+j-(k+1)=j by omega,Nat.pow_add,Nat.pow_succ,Nat.mul_comm (5^k) 5,Nat.mul_assoc 5,];refine Nat.mul_le_mul_left 5 (Nat.mul_le_mul_right _ (Nat.pow_le_pow_left (by decide) _))
theorem aDt {M n g c d Z:Nat} (hg:1<=g) (hM:n+g<=M) (h:(2*(c+1)+5*(d+1))*gE M (n+g)<=Z):(2*(d+1)+5*(c+(g+1)*(d+1)+1))*gE M n<=Z:=by
 refine Nat.le_trans ?_ h;unfold gE;obtain⟨k,rfl⟩:∃ k,M=n+g+k:=⟨M-(n+g),by omega⟩
 rw[show n+g+k-n=g+k by omega,show n+g+k-(n+g)=k by omega,Nat.pow_add 2,Nat.pow_add 5];have h1:=aFv hg;have h2:=aNu hg;generalize 2^g=x at *;generalize 5^g=y at *;have e1:2*(d+1)+5*(c+(g+1)*(d+1)+1)=5*(c+1)+(5*g+7)*(d+1):=by grind
 have e2:(5*(c+1)+(5*g+7)*(d+1))*x<=(2*(c+1)+5*(d+1))*y:=by
  have q1:=Nat.mul_le_mul_right (c+1) h1;have q2:=Nat.mul_le_mul_right (d+1) h2;have q3:(5*(c+1)+(5*g+7)*(d+1))*x=x*5*(c+1)+x*(5*g+7)*(d+1):=by grind
  have q4:(2*(c+1)+5*(d+1))*y=y*2*(c+1)+y*5*(d+1):=by grind
  omega
 rw[e1];generalize 5*(c+1)+(5*g+7)*(d+1)=u at *;generalize 2*(c+1)+5*(d+1)=v at *;have e3:u*(5^n*(x*2^k))=u*x*(5^n*2^k):=by grind
 have e4:v*(5^n*y*2^k)=v*y*(5^n*2^k):=by grind
 rw[e3,e4];exact Nat.mul_le_mul_right _ e2
theorem wI {M n A B Z s:Nat} (h1:1<=n) (h:n<=M) (hA:A*gE M n<=Z) (hZ:Z<=s*5*2^(M-1)*B):A<=s*B:=by
 have h2:=Nat.le_trans (Nat.le_trans (Nat.mul_le_mul_left A (aW1 h1 h)) hA) hZ;have h3:0<5*2^(M-1):=Nat.mul_pos (by decide) (Nat.pow_pos (by decide));have e1:s*5*2^(M-1)*B=s*B*(5*2^(M-1)):=by grind
 rw[e1] at h2;exact Nat.le_of_mul_le_mul_right h2 h3
theorem aJl {B Z M:Nat} (hB:1<=B) (hZ:Z<=5*5*2^(M-1)*(29*B)) :
  ∀ (f:Nat) (p q:List Rat) (c d:Nat),q.length<f->aI p=p->aI q=q->p≠[]->q.length<p.length->p.length<=M->Cm 1 p c->Cm 1 q d->c<=29*B->d<=29*B->(2*(c+1)+5*(d+1))*gE M p.length<=Z ->
  ∃ R e,jQ B f p q=some R/\R≠[]/\aI R=R/\cQ p q R/\R.length<=M/\Cm 1 R e/\e<=29*B/\2*(e+1)*gE M R.length<=Z:=by
 intro f
 induction f with
 | zero=>intro p q c d h; omega
 | succ f ih =>
  intro p q c d hf tp tq hp0 hlt hpM hpc hqd hcB hdB hX;rw[jQ];by_cases hq:0<q.length
  ·rw[if_pos hq];have hq0:q≠[]:=List.length_pos_iff.1 hq;obtain⟨g,hg⟩:∃ g,p.length=q.length+g:=⟨p.length-q.length,by omega⟩
   have hsteps:p.length+1-q.length=g+1:=by omega
   rw[hg] at hX;have hW:=aDt (by omega) (by omega) hX;have hbd:=wI hq (by omega) (Nat.le_trans (Nat.mul_le_mul_right _ (show 5*(c+(g+1)*(d+1)+1)<=_ by omega)) hW) hZ;have hE:c+(p.length+1-q.length)*(d+1)<=29*B:=by
    rw[hsteps];omega
   obtain⟨r,k1,k2,k3,_,k5,a,u,k6,k7⟩:=aD4 hB hq (eO tq hq0) hqd (p.length+2) p c (by omega) tp hpc hE;rw[hsteps] at k5;obtain⟨s,s1,s2,s3,s4,b,s5,s6⟩:=zK hB k2 (nJ k5) (by omega);obtain⟨R,e,r1,r2,r3,r4,r5,r6,r7⟩:=ih q s d (c+(g+1)*(d+1)) (by omega) tq s2 hq0 (by omega) (by omega) hqd s4 hdB (by omega) hW;refine⟨R,e,?_,r2,r3,(r4.right s5 s6).step k6 k7,r5,r6,r7⟩;rw[k1];show (jN B r).bind _=_;rw[s1];show (if s.length<q.length then jQ B f q s else none)=_;rw[if_pos (by omega),r1]
  ·rw[if_neg hq];obtain rfl:=List.eq_nil_of_length_eq_zero (show q.length=0 by omega);exact⟨p,c,rfl,hp0,tp,aLy p,hpM,hpc,hcB,Nat.le_trans (Nat.mul_le_mul_right _ (by omega)) hX⟩
theorem qH {p:List Rat} (hp:aI p=p) (h0:p≠[]):aI (aY p)=aY p/\(aY p).length=p.length/\aG (aY p)=1/\∃ a:Rat,a≠0/\∀ x,ev (aY p) x=a*ev p x:=by
 have hl:=eO hp h0;have hi:=Rat.mul_inv_cancel _ hl;have e:(1:Rat)/aG p=(aG p)⁻¹:=by rw[Rat.div_def,Rat.one_mul]
 have ha:(1:Rat)/aG p≠0:=by
  rw[e];intro h;rw[h] at hi;grind
 obtain⟨h1,h2⟩:=lE hp ha;exact⟨cK _,h1,by rw[aY,h2,e,hi],_,ha,fun x=>by rw[aY,cD,Rat.mul_comm]⟩
def pY (p q:List Rat) (c d:Nat):Nat:=if q.length<p.length then 2*(c+1)+5*(d+1) else 5*(c+1)+7*(d+1)
theorem aJk {B M Q:Nat} {p q:List Rat} {c d:Nat} (hB:1<=B) (tp:aI p=p) (tq:aI q=q) (h0:p≠[]\/q≠[]) (hpM:p.length<=M) (hqM:q.length<=M) (hc:Cb p c) (hd:Cb q d) (hcB:c<=29*B) (hdB:d<=29*B) (hQ:pY p q c d<=Q) (hZ:Q*5^M<=5*5*2^(M-1)*(29*B)) :
  ∃ G e,nQ B p q=some G/\G≠[]/\aI G=G/\aG G=1/\cQ p q G/\G.length<=M/\Cb G e/\2*(e+1)*gE M G.length<=Q*5^M:=by
 have hM1:1<=M:=by
  rcases h0 with h | h
  ·have:=List.length_pos_iff.2 h; omega
  ·have:=List.length_pos_iff.2 h; omega
 have hQB:Q<=5*(29*B):=wI (M:=M) (n:=M) hM1 (Nat.le_refl _) (by unfold gE; rw[Nat.sub_self,Nat.pow_zero,Nat.mul_one]; exact Nat.le_refl _) hZ;have hle:∀ {n A:Nat},n<=M->A<=Q->A*gE M n<=Q*5^M:=fun hn hA=>Nat.mul_le_mul hA (aFp hn);obtain⟨p1,a1,a2,a3,a4,a,a5,a6⟩:=zK hB tp hc hcB;obtain⟨q1,b1,b2,b3,b4,b,b5,b6⟩:=zK hB tq hd hdB;have chain:∃ R e,jQ B (p.length+q.length+3) p1 q1=some R/\R≠[]/\aI R=R/\cQ p1 q1 R/\R.length<=M/\Cm 1 R e/\e<=29*B/\2*(e+1)*gE M R.length<=Q*5^M:=by
  unfold pY at hQ;rcases Nat.lt_or_ge q.length p.length with hlt | hge
  ·rw[if_pos hlt] at hQ;exact aJl hB hZ _ p1 q1 c d (by omega) a2 b2 (fun e=>by rw[e,List.length_nil] at a3; omega) (by omega) (by omega) a4 b4 hcB hdB (hle (by omega) hQ)
  ·rw[if_neg (by omega)] at hQ;have hq0:q1≠[]:=by
    intro e;rw[e,List.length_nil] at b3;rcases h0 with h | h
    ·exact h (List.eq_nil_of_length_eq_zero (by omega))
    ·exact h (List.eq_nil_of_length_eq_zero (by omega))
   have hql:=List.length_pos_iff.2 hq0;rw[show p.length+q.length+3=(p.length+q.length+2)+1 by omega,jQ,if_pos hql];have hs:(p1.length+1-q1.length)*(d+1)<=d+1:=by
    rcases Nat.lt_or_ge p1.length q1.length with h | h
    ·rw[show p1.length+1-q1.length=0 by omega,Nat.zero_mul]; omega
    ·rw[show p1.length+1-q1.length=1 by omega,Nat.one_mul]; omega
   obtain⟨r,k1,k2,k3,_,k5,a',u,k6,k7⟩:=aD4 hB hql (eO b2 hq0) b4 (p1.length+2) p1 c (by omega) a2 a4 (by omega);obtain⟨s,s1,s2,s3,s4,b',s5,s6⟩:=zK hB k2 (nJ (k5.mono (e:=c+d+1) (by omega))) (by omega);obtain⟨R,e,r1,r2,r3,r4,r5,r6,r7⟩:=aJl hB hZ (p.length+q.length+2) q1 s d (c+d+1) (by omega) b2 s2 hq0 (by omega) (by omega) b4 s4 hdB (by omega) (hle (by omega) (by omega));refine⟨R,e,?_,r2,r3,(r4.right s5 s6).step k6 k7,r5,r6,r7⟩;rw[k1];show (jN B r).bind _=_;rw[s1];show (if s.length<q1.length then jQ B _ q1 s else none)=_;rw[if_pos (by omega),r1]
 obtain⟨R,e,r1,r2,r3,r4,r5,r6,he,r7⟩:=chain;obtain⟨m1,m2,m3,m,m4,m5⟩:=qH r3 r2;have hcb:=(nJ r6).monic (eO r3 r2);refine⟨aY R,e,?_,fun h=>by rw[h,List.length_nil] at m2; exact r2 (List.eq_nil_of_length_eq_zero m2.symm),m1,m3,((r4.left a5 a6).right b5 b6).res m4 m5,by omega,hcb,by rw[m2]; exact r7⟩;unfold nQ;rw[a1];show (jN B q).bind _=_;rw[b1];show (jQ B _ p1 q1).bind _=_;rw[r1];show (if aH (aY R) B=true then some (aY R) else none)=_;rw[if_pos (hcb.sz hB he)]
theorem aK6 {B:Nat} (hB:1<=B):nQ B [] []=some []:=by
 have z:∀ l:List Rat,(∀ a∈l,a=0)->aH l B=true:=fun l hl=>uX (e:=0) hB (Nat.zero_le _) fun b hb=>by
  obtain rfl:=hl b hb;exact⟨by decide,by decide⟩
 have hp:jN B []=some []:=by
  show (if (aH [1/0] B&&aH [] B)=true then some _ else none)=_;rw[show (1:Rat)/0=0 by decide +kernel,z [0] (by simp),z [] (by simp)];rfl
 unfold nQ;rw[hp];show (if aH (aY []) B=true then some _ else none)=_;rw[show aY []=[] from rfl,z [] (by simp)];rfl
/-! The reference's Gcd: the same chain with monic polynomials. -/
def kF (B:Nat):Nat->List Rat->List Rat->Option (List Rat)
 | 0,_,_=>none
 | n+1,a,b=>if 0<b.length then (dK B a b).bind fun x=>if (aH (aY x.2) B&&decide (x.2.length<b.length))=true then kF B n b (aY x.2) else none else some a
def pV (B:Nat) (p q:List Rat):Option (List Rat):=if (aH (aY p) B&&aH (aY q) B)=true then kF B (p.length+q.length+3) (aY p) (aY q) else none
theorem wP {p:List Rat} {c:Nat} (hp:aI p=p) (hc:Cb p c):aI (aY p)=aY p/\(aY p).length=p.length/\Cb (aY p) c/\∃ a:Rat,a≠0/\∀ x,ev (aY p) x=a*ev p x:=by
 by_cases h0:p=[]
 ·subst h0;exact⟨rfl,rfl,Cb.nil c,1,by decide,fun x=>by rw[Rat.one_mul]; rfl⟩
 ·obtain⟨h1,h2,_,a,h3,h4⟩:=qH hp h0;exact⟨h1,h2,hc.monic (eO hp h0),a,h3,h4⟩
theorem aHp {B Z M:Nat} (hB:1<=B) (hZ:Z<=2*5*2^(M-1)*(29*B)) :
  ∀ (f:Nat) (p q:List Rat) (c d:Nat),q.length<f->aI p=p->aI q=q->p≠[]->aG p=1->(q≠[]->aG q=1)->q.length<p.length->p.length<=M->Cb p c->Cb q d->(2*(c+1)+5*(d+1))*gE M p.length<=Z ->
  ∃ R,kF B f p q=some R/\R≠[]/\aI R=R/\aG R=1/\R.length<=p.length/\cQ p q R:=by
 intro f
 induction f with
 | zero=>intro p q c d h; omega
 | succ f ih =>
  intro p q c d hf tp tq hp0 lp lq hlt hpM hpc hqd hX;rw[kF];by_cases hq:0<q.length
  ·rw[if_pos hq];have hq0:q≠[]:=List.length_pos_iff.1 hq;obtain⟨g,hg⟩:∃ g,p.length=q.length+g:=⟨p.length-q.length,by omega⟩
   have hsteps:p.length+1-q.length=g+1:=by omega
   rw[hg] at hX;have hW:=aDt (by omega) (by omega) hX;have hbd:=wI hq (by omega) (Nat.le_trans (Nat.mul_le_mul_right _ (show 2*(d+1)+2*(c+(g+1)*(d+1)+1)<=_ by omega)) hW) hZ;have hE:jR p q c d<=29*B:=by
    unfold jR;rw[hsteps];omega
   obtain⟨U,R,k1,k2,k3,k4,k5,k6,k7,k8⟩:=wQ hB tp tq hq0 hpc hqd hE;have k8':Cb R (c+(g+1)*(d+1)):=by
    unfold jR at k8;rw[hsteps] at k8;exact k8.mono (by omega)
   obtain⟨m1,m2,m3,b,m4,m5⟩:=wP k3 k8';have hlm:aY R≠[]->aG (aY R)=1:=fun h=>by
    refine(qH k3 ?_).2.2.1;rintro rfl;exact h rfl
   obtain⟨G,r1,r2,r3,r4,r5,r6⟩:=ih q (aY R) d (c+(g+1)*(d+1)) (by omega) tq m1 hq0 (lq hq0) hlm (by omega) (by omega) hqd m3 hW;refine⟨G,?_,r2,r3,r4,by omega,(r6.right m4 m5).step (a:=1) (u:=aM U (-1)) (by decide) fun x=>?_⟩
   ·rw[k1];show (if (aH (aY R) B&&decide (R.length<q.length))=true then kF B f q (aY R) else none)=_;rw[m3.sz hB (by omega),decide_eq_true k4,Bool.and_true,if_pos rfl,r1]
   ·rw[cD,k6 x];grind
  ·rw[if_neg hq];obtain rfl:=List.eq_nil_of_length_eq_zero (show q.length=0 by omega);exact⟨p,rfl,hp0,tp,lp,Nat.le_refl _,aLy p⟩
theorem aRc {B M Q:Nat} {p q:List Rat} {c d:Nat} (hB:1<=B) (tp:aI p=p) (tq:aI q=q) (h0:p≠[]\/q≠[]) (hpM:p.length<=M) (hqM:q.length<=M) (hc:Cb p c) (hd:Cb q d) (hcB:c<=29*B) (hdB:d<=29*B) (hQ:pY p q c d<=Q) (hZ:Q*5^M<=2*5*2^(M-1)*(29*B)) :
  ∃ G,pV B p q=some G/\G≠[]/\aI G=G/\aG G=1/\cQ p q G:=by
 have hM1:1<=M:=by
  rcases h0 with h | h
  ·have:=List.length_pos_iff.2 h; omega
  ·have:=List.length_pos_iff.2 h; omega
 have hQB:Q<=2*(29*B):=wI (M:=M) (n:=M) hM1 (Nat.le_refl _) (by unfold gE; rw[Nat.sub_self,Nat.pow_zero,Nat.mul_one]; exact Nat.le_refl _) hZ;have hle:∀ {n A:Nat},n<=M->A<=Q->A*gE M n<=Q*5^M:=fun hn hA=>Nat.mul_le_mul hA (aFp hn);obtain⟨a2,a3,a4,a,a5,a6⟩:=wP tp hc;obtain⟨b2,b3,b4,b,b5,b6⟩:=wP tq hd;have hlast:∀ {r:List Rat},aI r=r->aY r≠[]->aG (aY r)=1:=fun tr h=>by
  refine(qH tr ?_).2.2.1;rintro rfl;exact h rfl
 have chain:∃ R,kF B (p.length+q.length+3) (aY p) (aY q)=some R/\R≠[]/\aI R=R/\aG R=1/\cQ (aY p) (aY q) R:=by
  unfold pY at hQ;rcases Nat.lt_or_ge q.length p.length with hlt | hge
  ·rw[if_pos hlt] at hQ;have hp0:aY p≠[]:=fun e=>by rw[e,List.length_nil] at a3; omega
   obtain⟨R,r1,r2,r3,r4,_,r6⟩:=aHp hB hZ (p.length+q.length+3) (aY p) (aY q) c d (by omega) a2 b2 hp0 (hlast tp hp0) (hlast tq) (by omega) (by omega) a4 b4 (hle (by omega) hQ);exact⟨R,r1,r2,r3,r4,r6⟩
  ·rw[if_neg (by omega)] at hQ;have hq0:aY q≠[]:=by
    intro e;rw[e,List.length_nil] at b3;rcases h0 with h | h
    ·exact h (List.eq_nil_of_length_eq_zero (by omega))
    ·exact h (List.eq_nil_of_length_eq_zero (by omega))
   have hql:=List.length_pos_iff.2 hq0;rw[show p.length+q.length+3=(p.length+q.length+2)+1 by omega,kF,if_pos hql];have hs:((aY p).length+1-(aY q).length)*(d+1)<=d+1:=by
    rcases Nat.lt_or_ge (aY p).length (aY q).length with h | h
    ·rw[show (aY p).length+1-(aY q).length=0 by omega,Nat.zero_mul]; omega
    ·rw[show (aY p).length+1-(aY q).length=1 by omega,Nat.one_mul]; omega
   obtain⟨U,r,k1,k2,k3,k4,k5,k6,k7,k8⟩:=wQ hB a2 b2 hq0 a4 b4 (by unfold jR; omega);have k8':Cb r (c+d+1):=by
    unfold jR at k8;exact k8.mono (by omega)
   obtain⟨m1,m2,m3,b',m4,m5⟩:=wP k3 k8';obtain⟨R,r1,r2,r3,r4,_,r6⟩:=aHp hB hZ (p.length+q.length+2) (aY q) (aY r) d (c+d+1) (by omega) b2 m1 hq0 (hlast tq hq0) (hlast k3) (by omega) (by omega) b4 m3 (hle (by omega) (by omega));refine⟨R,?_,r2,r3,r4,(r6.right m4 m5).step (a:=1) (u:=aM U (-1)) (by decide) fun x=>?_⟩
   ·rw[k1];show (if (aH (aY r) B&&decide (r.length<(aY q).length))=true then kF B _ (aY q) (aY r) else none)=_;rw[m3.sz hB (by omega),decide_eq_true k4,Bool.and_true,if_pos rfl,r1]
   ·rw[cD,k6 x];grind
 obtain⟨R,r1,r2,r3,r4,r5⟩:=chain;refine⟨R,?_,r2,r3,r4,(r5.left a5 a6).right b5 b6⟩;rw[pV,a4.sz hB hcB,b4.sz hB hdB,Bool.and_true,if_pos rfl,r1]
theorem aSp {B:Nat}:pV B [] []=some []:=rfl
theorem aVw {B M Q:Nat} {p q:List Rat} {c d:Nat} (hB:1<=B) (tp:aI p=p) (tq:aI q=q) (hpM:p.length<=M) (hqM:q.length<=M) (hc:Cb p c) (hd:Cb q d) (hcB:c<=29*B) (hdB:d<=29*B) (hQ:pY p q c d<=Q) (hZ:Q*5^M<=2*5*2^(M-1)*(29*B)) :
  ∃ G e,nQ B p q=some G/\pV B p q=some G/\aI G=G/\(p≠[]\/q≠[]->G≠[]/\aG G=1/\cQ p q G)/\(p=[]/\q=[]->G=[])/\Cb G e/\2*(e+1)*gE M G.length<=max (2*(e+1)*gE M 0) (Q*5^M)/\(G=[]\/2*(e+1)*gE M G.length<=Q*5^M):=by
 by_cases h0:p=[]/\q=[]
 ·obtain⟨rfl,rfl⟩:=h0;exact⟨[],0,aK6 hB,aSp,rfl,fun h=>by simp at h,fun _=>rfl,Cb.nil 0,Nat.le_max_left _ _,.inl rfl⟩
 ·have h1:p≠[]\/q≠[]:=by
   by_cases hp:p=[]
   ·exact .inr fun hq=>h0 ⟨hp,hq⟩
   ·exact .inl hp
  have hZ':Q*5^M<=5*5*2^(M-1)*(29*B):=Nat.le_trans hZ (Nat.mul_le_mul_right _ (Nat.mul_le_mul_right _ (by decide)));obtain⟨G,e,g1,g2,g3,g4,g5,g6,g7,g8⟩:=aJk hB tp tq h1 hpM hqM hc hd hcB hdB hQ hZ';obtain⟨H,k1,k2,k3,k4,k5⟩:=aRc hB tp tq h1 hpM hqM hc hd hcB hdB hQ hZ;have he:G=H:=aRv g5 k5 g3 k3 g2 (by rw[g4,k4]);subst he;exact⟨G,e,g1,k1,g3,fun _=>⟨g2,g4,g5⟩,fun h=>absurd h h0,g7,Nat.le_trans g8 (Nat.le_max_right _ _),.inr g8⟩
/-! Divisors of a polynomial have short numbers: at whole numbers beyond the zeros a divisor is no greater than the polynomial,and its values there tell its coefficients. -/
def Zl (l:List Rat):Prop:=∀ k,∃ z:Int,l.getD k 0=(z:Rat)
def Dd (d:Int) (l:List Rat):Prop:=∀ k,∃ z:Int,l.getD k 0=((d*z:Int):Rat)
theorem aTf:∀ m:Nat,1<m->∃ p,1<p/\p ∣ m/\∀ d,d ∣ p->d=1\/d=p:=by
 intro m
 induction m using Nat.strongRecOn with
 | ind m ih =>
  intro h;by_cases hd:∃ d,1<d/\d<m/\d ∣ m
  ·obtain⟨d,h1,h2,h3⟩:=hd;obtain⟨p,p1,p2,p3⟩:=ih d h2 h1;exact⟨p,p1,Nat.dvd_trans p2 h3,p3⟩
  ·refine⟨m,h,Nat.dvd_refl m,fun d h1=>?_⟩;have hle:=Nat.le_of_dvd (by omega) h1;have h0:d≠0:=by
    rintro rfl;have:=Nat.eq_zero_of_zero_dvd h1;omega
   rcases Nat.lt_or_ge 1 d with h2 | h2
   ·rcases Nat.lt_or_ge d m with h3 | h3
    ·exact absurd ⟨d,h2,h3,h1⟩ hd
    ·exact .inr (by omega)
   ·exact .inl (by omega)
theorem aS1 {p:Nat} (hp:∀ d,d ∣ p->d=1\/d=p) {a b:Int} (h:(p:Int) ∣ a*b):(p:Int) ∣ a\/(p:Int) ∣ b:=by
 have h':p ∣ a.natAbs*b.natAbs:=by rw[<- Int.natAbs_mul]; exact Int.ofNat_dvd_left.1 h
 rcases hp (Nat.gcd p a.natAbs) (Nat.gcd_dvd_left _ _) with h1 | h1
 ·exact .inr (Int.ofNat_dvd_left.2 (Nat.Coprime.dvd_of_dvd_mul_left h1 h'))
 ·exact .inl (Int.ofNat_dvd_left.2 (by rw[<- h1]; exact Nat.gcd_dvd_right _ _))
theorem aM6 (p q:List Rat) (k:Nat):fX p q k=fX q p k:=by
 rw[<- zY,<- zY];exact xL (fun x=>by rw[cM,cM,Rat.mul_comm]) k
theorem Zl.tail {a:Rat} {l:List Rat} (h:Zl (a::l)):Zl l:=fun k=>h (k+1)
theorem Dd.cons {d:Int} {a:Rat} {l:List Rat} (h0:∃ z:Int,a=((d*z:Int):Rat)) (h:Dd d l):Dd d (a::l):=fun k=>by
 cases k with
 | zero=>exact h0
 | succ k=>exact h k
theorem Dd.nil (d:Int):Dd d []:=fun k=>⟨0,by rw[dI (Nat.zero_le _),Int.mul_zero]; rfl⟩
theorem aZ9 {p:Nat} (hp:∀ d,d ∣ p->d=1\/d=p):∀ (n:Nat) (g h:List Rat),g.length+h.length<=n->Zl g->Zl h->(∀ k,∃ z:Int,fX g h k=(((p:Int)*z:Int):Rat))->Dd p g\/Dd p h:=by
 intro n
 induction n with
 | zero =>
  intro g h hn _ _ _;obtain rfl:=List.eq_nil_of_length_eq_zero (show g.length=0 by omega);exact .inl (Dd.nil p)
 | succ n ih =>
  have cut:∀ (a:Rat) (g h:List Rat),Zl (a::g)->Zl h->(∀ k,∃ z:Int,fX (a::g) h k=(((p:Int)*z:Int):Rat))->(∃ z:Int,a=(((p:Int)*z:Int):Rat))->∀ k,∃ z:Int,fX g h k=(((p:Int)*z:Int):Rat):=by
   rintro a g h hg hh hc ⟨y,hy⟩ k;obtain⟨z,hz⟩:=hc (k+1);rw[aFg,if_neg (by omega),Nat.add_sub_cancel] at hz;obtain⟨u,hu⟩:=hh (k+1);refine⟨z-u*y,?_⟩;rw[hu,hy] at hz;rw[Int.mul_sub,Rat.intCast_sub,<- hz,Rat.intCast_mul,Rat.intCast_mul,Rat.intCast_mul];grind
  intro g h hn hg hh hc
  match g,h with
  | [],_=>exact .inl (Dd.nil p)
  | _::_,[]=>exact .inr (Dd.nil p)
  | a::g,b::h =>
   obtain⟨a',ha⟩:=hg 0;obtain⟨b',hb⟩:=hh 0;have ha':a=(a':Rat):=ha;have hb':b=(b':Rat):=hb;simp only[List.length_cons] at hn;have h0:(p:Int) ∣ a'*b':=by
    obtain⟨z,hz⟩:=hc 0;rw[aFg,if_pos rfl] at hz;have e:((a'*b':Int):Rat)=(((p:Int)*z:Int):Rat):=by
     rw[<- hz,Rat.intCast_mul,<- ha',<- hb'];show _=b*a+0;grind
    exact⟨z,Rat.intCast_inj.1 e⟩
   rcases aS1 hp h0 with ⟨y,hy⟩ | ⟨y,hy⟩
   ·have hd:∃ z:Int,a=(((p:Int)*z:Int):Rat):=⟨y,by rw[ha',hy]⟩
    rcases ih g (b::h) (by simp only[List.length_cons]; omega) hg.tail hh (cut a g (b::h) hg hh hc hd) with q | q
    ·exact .inl (q.cons hd)
    ·exact .inr q
   ·have hd:∃ z:Int,b=(((p:Int)*z:Int):Rat):=⟨y,by rw[hb',hy]⟩
    have hc':=cut b h (a::g) hh hg (fun k=>by rw[aM6]; exact hc k) hd;rcases ih (a::g) h (by simp only[List.length_cons]; omega) hg hh.tail (fun k=>by rw[aM6]; exact hc' k) with q | q
    ·exact .inl q
    ·exact .inr (q.cons hd)
def aGq (g:List Rat):Prop:=Zl g/\∀ d:Nat,1<d->¬ Dd d g
theorem aQ4 {P G H:List Rat} (hP:Zl P) (hG:aGq G) (h:∀ x,ev P x=ev G x*ev H x):∀ m:Nat,0<m->(∀ k,∃ z:Int,H.getD k 0*((m:Nat):Rat)=(z:Rat))->Zl H:=by
 intro m
 induction m using Nat.strongRecOn with
 | ind m ih =>
  intro hm hH;by_cases h1:m=1
  ·subst h1;intro k;obtain⟨z,hz⟩:=hH k;exact⟨z,by rw[<- hz]; show _=_*(1:Rat); grind⟩
  ·obtain⟨p,p1,⟨m',p2⟩,p3⟩:=aTf m (by omega);have hm':0<m':=by
    rcases Nat.eq_zero_or_pos m' with q | q
    ·subst q; omega
    ·exact q
   have hp0:((p:Nat):Rat)≠0:=fun e=>by
    have:(((p:Int)):Rat)=((0:Int):Rat):=by rw[Rat.intCast_natCast]; exact e
    have:=Rat.intCast_inj.1 this;omega
   have hmm:((m:Nat):Rat)=((p:Nat):Rat)*((m':Nat):Rat):=by rw[p2,Rat.natCast_mul]
   have hS:Zl (aM H ((m:Nat):Rat)):=fun k=>by rw[jX]; exact hH k
   have hcv:∀ k,∃ z:Int,fX G (aM H ((m:Nat):Rat)) k=(((p:Int)*z:Int):Rat):=fun k=>by
    obtain⟨z,hz⟩:=hP k;refine⟨m'*z,?_⟩;have e:fX G (aM H ((m:Nat):Rat)) k=(aM P ((m:Nat):Rat)).getD k 0:=by
     rw[<- zY];exact xL (fun x=>by rw[cM,cD,cD,h]; grind) k
    rw[e,jX,hz,hmm,Rat.intCast_mul,Rat.intCast_mul,Rat.intCast_natCast,Rat.intCast_natCast];grind
   rcases aZ9 p3 _ G (aM H ((m:Nat):Rat)) (Nat.le_refl _) hG.1 hS hcv with q | q
   ·exact absurd q (hG.2 p p1)
   ·have hlt:m'<m:=by
     rw[p2];have:=Nat.mul_le_mul_right m' p1;omega
    refine ih m' hlt hm' fun k=>?_;obtain⟨z,hz⟩:=q k;rw[jX,hmm,Rat.intCast_mul,Rat.intCast_natCast] at hz;refine⟨z,?_⟩;have hi:=Rat.mul_inv_cancel _ hp0;grind
theorem aFh:∀ l:List Rat,∃ m:Nat,0<m/\∀ k,∃ z:Int,l.getD k 0*((m:Nat):Rat)=(z:Rat)
 | []=>⟨1,Nat.one_pos,fun k=>⟨0,by rw[dI (Nat.zero_le _),Rat.zero_mul]; rfl⟩⟩
 | a::l=>by
  obtain⟨m,h1,h2⟩:=aFh l;refine⟨a.den*m,Nat.mul_pos (Nat.pos_of_ne_zero a.den_nz) h1,fun k=>?_⟩;cases k with
  | zero =>
   refine⟨a.num*m,?_⟩;show a*_=_;rw[Rat.natCast_mul,Rat.intCast_mul,<- xP a,Rat.intCast_natCast];grind
  | succ k =>
   obtain⟨z,hz⟩:=h2 k;refine⟨a.den*z,?_⟩;show l.getD k 0*_=_;rw[Rat.natCast_mul,Rat.intCast_mul,<- hz,Rat.intCast_natCast];grind
theorem aZs {d:Nat} (hd:0<d) {g:List Rat} (h:Dd d g):Zl (aM g (1/((d:Nat):Rat))):=fun k=>by
 obtain⟨z,hz⟩:=h k;refine⟨z,?_⟩;have hd0:((d:Nat):Rat)≠0:=fun e=>by
  have:(((d:Int)):Rat)=((0:Int):Rat):=by rw[Rat.intCast_natCast]; exact e
  have:=Rat.intCast_inj.1 this;omega
 have hi:=Rat.mul_inv_cancel _ hd0;rw[jX,hz,Rat.div_def,Rat.one_mul,Rat.intCast_mul,Rat.intCast_natCast];grind
theorem aU7:∀ (n:Nat) (g:List Rat),aI g=g->g≠[]->Zl g->(∀ z:Int,aG g=(z:Rat)->z.natAbs<=n)->∃ (r:List Rat) (c:Rat),c≠0/\aI r=r/\r.length=g.length/\aGq r/\∀ x,ev r x=c*ev g x:=by
 intro n
 induction n with
 | zero =>
  intro g tg hg0 hz hl;obtain⟨z,hz'⟩:=hz (g.length-1);have:=hl z hz';exact absurd (show aG g=0 by show g.getD _ 0=0; rw[hz',show z=0 by omega]; rfl) (eO tg hg0)
 | succ n ih =>
  intro g tg hg0 hz hl;by_cases hd:∃ d:Nat,1<d/\Dd d g
  ·obtain⟨d,d1,d2⟩:=hd;have hd0:((d:Nat):Rat)≠0:=fun e=>by
    have:(((d:Int)):Rat)=((0:Int):Rat):=by rw[Rat.intCast_natCast]; exact e
    have:=Rat.intCast_inj.1 this;omega
   have hi:=Rat.mul_inv_cancel _ hd0;have e1:(1:Rat)/((d:Nat):Rat)=((d:Nat):Rat)⁻¹:=by rw[Rat.div_def,Rat.one_mul]
   have hc:(1:Rat)/((d:Nat):Rat)≠0:=by
    rw[e1];intro e;rw[e] at hi;grind
   obtain⟨s1,s2⟩:=lE tg hc;obtain⟨r,c,r1,r2,r3,r4,r5⟩:=ih (aM g (1/((d:Nat):Rat))) (cK _) (fun e=>by
    rw[e] at s1;exact hg0 (List.eq_nil_of_length_eq_zero s1.symm)) (aZs (by omega) d2) (fun z hz2=>by
     obtain⟨y,hy⟩:=d2 (g.length-1);have hy':aG g=(((d:Int)*y:Int):Rat):=hy;have hb:=hl _ hy';rw[s2,hy',e1,Rat.intCast_mul,Rat.intCast_natCast] at hz2;have e2:(y:Rat)=(z:Rat):=by rw[<- hz2]; grind
     obtain rfl:=Rat.intCast_inj.1 e2;rw[Int.natAbs_mul,Int.natAbs_natCast] at hb;have hy0:y.natAbs≠0:=fun e=>eO tg hg0 (by rw[hy',show y=0 by omega,Int.mul_zero]; rfl);have:=Nat.mul_le_mul_right y.natAbs d1;omega)
   exact⟨r,c*(1/((d:Nat):Rat)),fun e=>(Rat.mul_eq_zero.1 e).elim r1 hc,r2,by rw[r3,s1],r4,fun x=>by rw[r5,cD]; grind⟩
  ·exact⟨g,1,by decide,tg,rfl,⟨hz,fun d d1 d2=>hd ⟨d,d1,d2⟩⟩,fun x=>by rw[Rat.one_mul]⟩
theorem aXk {g:List Rat} (tg:aI g=g) (hg0:g≠[]):∃ (r:List Rat) (c:Rat),c≠0/\aI r=r/\r.length=g.length/\aGq r/\∀ x,ev r x=c*ev g x:=by
 obtain⟨m,m1,m2⟩:=aFh g;have hm0:((m:Nat):Rat)≠0:=fun e=>by
  have:(((m:Int)):Rat)=((0:Int):Rat):=by rw[Rat.intCast_natCast]; exact e
  have:=Rat.intCast_inj.1 this;omega
 obtain⟨s1,s2⟩:=lE tg hm0;have hz:Zl (aM g ((m:Nat):Rat)):=fun k=>by rw[jX]; exact m2 k
 obtain⟨z,hz2⟩:=hz ((aM g ((m:Nat):Rat)).length-1);obtain⟨r,c,r1,r2,r3,r4,r5⟩:=aU7 z.natAbs (aM g ((m:Nat):Rat)) (cK _) (fun e=>by
  rw[e] at s1;exact hg0 (List.eq_nil_of_length_eq_zero s1.symm)) hz (fun y hy=>by
   have e:(y:Rat)=(z:Rat):=by rw[<- hy]; exact hz2
   rw[Rat.intCast_inj.1 e];exact Nat.le_refl _)
 exact⟨r,c*((m:Nat):Rat),fun e=>(Rat.mul_eq_zero.1 e).elim r1 hm0,r2,by rw[r3,s1],r4,fun x=>by rw[r5,cD]; grind⟩
/-! Whole numbers as they are. -/
def eS:List Int->Int->Int
 | [],_=>0
 | a::l,x=>a+x*eS l x
def sT (L:List Int):List Rat:=L.map fun z:Int=>(z:Rat)
theorem aGg {l:List Rat} (h:Zl l):∃ L:List Int,l=sT L:=by
 induction l with
 | nil=>exact⟨[],rfl⟩
 | cons a l ih =>
  obtain⟨L,hL⟩:=ih h.tail;obtain⟨z,hz⟩:=h 0;exact⟨z::L,by rw[hL,show a=(z:Rat) from hz]; rfl⟩
theorem aBd (x:Int):∀ L:List Int,ev (sT L) (x:Rat)=(eS L x:Rat)
 | []=>rfl
 | a::L=>by
  show (a:Rat)+(x:Rat)*ev (sT L) x=_;rw[aBd x L,eS,Rat.intCast_add,Rat.intCast_mul]
theorem aEs (L:List Int) (k:Nat):(sT L).getD k 0=(L.getD k 0:Rat):=by
 unfold sT;rw[List.getD_eq_getElem?_getD,List.getD_eq_getElem?_getD,List.getElem?_map];cases L[k]?<;>rfl
theorem aMs {c:Nat} {x:Int} (hx:2^c+1<=x):∀ (L:List Int),(∀ k,(L.getD k 0).natAbs<=2^c)->L≠[]->L.getD (L.length-1) 0≠0->1<=(eS L x).natAbs
 | [],_,h,_=>absurd rfl h
 | [a],_,_,h=>by
  have h':a≠0:=h;show 1<=(a+x*0).natAbs;omega
 | a::b::L,hb,_,hl=>by
  have ih:=aMs hx (b::L) (fun k=>hb (k+1)) (by simp) (by simpa using hl);have ha:a.natAbs<=2^c:=hb 0;rw[eS];have h1:(x*eS (b::L) x).natAbs=x.natAbs*(eS (b::L) x).natAbs:=Int.natAbs_mul _ _;have h2:=Nat.le_mul_of_pos_right x.natAbs (show 0<(eS (b::L) x).natAbs by omega);have h3:(2:Int)^c=((2^c:Nat):Int):=by simp
  rw[h3] at hx;generalize 2^c=y at *;omega
theorem aK5 {c s:Nat} {x:Int} (hx:x.natAbs<=2^s):∀ (L:List Int),(∀ k,(L.getD k 0).natAbs<=2^c)->(eS L x).natAbs<=2^(c+L.length*(s+1))
 | [],_=>Nat.zero_le _
 | a::L,hb=>by
  have ih:=aK5 hx L (fun k=>hb (k+1));have ha:a.natAbs<=2^c:=hb 0;rw[eS];refine Nat.le_trans (aYn (c:=c+L.length*(s+1)+s) (Nat.le_trans ha (eJ (by omega))) (Nat.le_trans (gW hx ih) (eJ (by omega)))) (eJ ?_);rw[List.length_cons,Nat.succ_mul];omega
def iC (s:Int):Int->List Int->Int × List Int
 | a,[]=>(a,[])
 | a,b::l=>(a+s*(iC s b l).1,(iC s b l).1::(iC s b l).2)
theorem aL6 (s:Int):∀ (l:List Int) (a:Int),(iC s a l).2.length=l.length
 | [],_=>rfl
 | b::l,_=>by rw[iC,List.length_cons,aL6 s l b,List.length_cons]
theorem aNr (s x:Int):∀ (l:List Int) (a:Int),a+x*eS l x=(iC s a l).1+(x-s)*eS (iC s a l).2 x
 | [],a=>by show a+x*0=a+(x-s)*0; grind
 | b::l,a=>by
  have ih:=aNr s x l b;rw[iC,eS,eS];show a+x*(b+x*eS l x)=a+s*(iC s b l).1+(x-s)*((iC s b l).1+x*eS (iC s b l).2 x);rw[ih];grind
theorem aL7 (s:Int):∀ (l:List Int) (a:Int),a=(iC s a l).1-s*(iC s a l).2.getD 0 0/\∀ k,l.getD k 0=(iC s a l).2.getD k 0-s*(iC s a l).2.getD (k+1) 0
 | [],a=>⟨by show a=a-s*0; grind,fun k=>by show (0:Int)=0-s*0; grind⟩
 | b::l,a=>by
  obtain⟨h1,h2⟩:=aL7 s l b;rw[iC];refine⟨?_,fun k=>?_⟩
  ·show a=a+s*(iC s b l).1-s*(iC s b l).1;grind
  ·cases k with
   | zero=>exact h1
   | succ k=>exact h2 k
theorem aN1:∀ (n:Nat) (L:List Int) (s:Int) (v t:Nat),L.length<=n->(∀ j:Nat,j<n->(eS L (s+j)).natAbs<=2^v)->s.natAbs+n<=2^t->∀ k,(L.getD k 0).natAbs<=2^(v+n*(t+2))
 | 0,L,s,v,t,hL,_,_,k=>by
  obtain rfl:=List.eq_nil_of_length_eq_zero (show L.length=0 by omega);exact Nat.zero_le _
 | n+1,[],_,_,_,_,_,_,k=>Nat.zero_le _
 | n+1,a::L,s,v,t,hL,hv,ht,k=>by
  rw[List.length_cons] at hL;obtain⟨g1,g2⟩:=aL7 s L a;have hev:=fun x=>aNr s x L a;have hl:=aL6 s L a;generalize (iC s a L).1=c at *;generalize (iC s a L).2=L' at *;have hc:c.natAbs<=2^v:=by
   have h0:=hv 0 (by omega);have e:=hev s;rw[show s-s=0 by omega,Int.zero_mul,Int.add_zero] at e;rw[show s+((0:Nat):Int)=s by omega,eS,e] at h0;exact h0
  have ih:=aN1 n L' (s+1) (v+1) t (by omega) (fun j hj=>by
   have h1:=hv (j+1) (by omega);rw[show s+((j+1:Nat):Int)=s+1+j by omega,eS,hev] at h1;have h2:((s+1+j-s)*eS L' (s+1+j)).natAbs=(s+1+j-s).natAbs*(eS L' (s+1+j)).natAbs:=Int.natAbs_mul _ _;have h3:=Nat.le_mul_of_pos_left (eS L' (s+1+j)).natAbs (show 0<(s+1+j-s).natAbs by omega);rw[Nat.pow_succ];omega) (by omega)
  have hs:s.natAbs<=2^t:=by omega
  have hsum:∀ {y z:Int} {w:Nat},y.natAbs<=2^w->z.natAbs<=2^w->(y-s*z).natAbs<=2^(w+t+1):=fun hy hz=>by
   refine aFl (Nat.le_trans hy (eJ (by omega))) ?_;rw[Nat.add_comm];exact gW hs hz
  have hexp:v+1+n*(t+2)+t+1=v+(n+1)*(t+2):=by rw[Nat.succ_mul]; omega
  rw[<- hexp];cases k with
  | zero =>
   show a.natAbs<=_;rw[g1];exact hsum (Nat.le_trans hc (eJ (by omega))) (ih 0)
  | succ k =>
   show (L.getD k 0).natAbs<=_;rw[g2];exact hsum (ih k) (ih (k+1))
def sS (c n:Nat):Nat:=c+n*(c+3)+n*(c+4)
theorem Cm.whole {m:Int} {p:List Rat} {c:Nat} (h:Cm m p c):Zl (aM p (m:Rat)):=fun k=>by
 obtain⟨z,z1,_⟩:=h k;exact⟨z,by rw[jX,z1]⟩
theorem aLf {P G:List Rat} {c n:Nat} (tP:aI P=P) (hP0:P≠[]) (hc:Cb P c) (hn:P.length<=n) (hn2:n<=2^c) (tG:aI G=G) (h:Dv G P):Cb (aY G) (sS c n):=by
 obtain⟨hG0,hGl,_⟩:=nI tG tP hP0 h;obtain⟨m,m1,_,m3⟩:=hc;obtain⟨u,hu⟩:=h;have hm0:=nD m1;obtain⟨s1,s2⟩:=lE tP hm0;obtain⟨r,a,a1,r1,r2,r3,r4⟩:=aXk tG hG0;have hai:=Rat.inv_mul_cancel a a1;have hPz:=m3.whole;have hq:∀ x,ev (aM P (m:Rat)) x=ev r x*ev (aM u (a⁻¹*(m:Rat))) x:=fun x=>by
  rw[cD,cD,r4,hu];grind
 obtain⟨d,d1,d2⟩:=aFh (aM u (a⁻¹*(m:Rat)));have hHz:=aQ4 hPz r3 hq d d1 d2;obtain⟨LP,eP⟩:=aGg hPz;obtain⟨LG,eG⟩:=aGg r3.1;obtain⟨LH,eH⟩:=aGg hHz;have hmul:∀ x:Int,eS LP x=eS LG x*eS LH x:=fun x=>by
  have:=hq (x:Rat);rw[eP,eG,eH,aBd,aBd,aBd,<- Rat.intCast_mul] at this;exact Rat.intCast_inj.1 this
 have hPb:∀ k,(LP.getD k 0).natAbs<=2^c:=fun k=>by
  obtain⟨z,z1,z2⟩:=m3 k;have e:((LP.getD k 0:Int):Rat)=(z:Rat):=by rw[<- aEs,<- eP,jX,z1]
  rw[Rat.intCast_inj.1 e];exact z2
 have hLPl:LP.length=P.length:=by
  have:=congrArg List.length eP;rw[s1] at this;rw[this];simp[sT]
 have hP0':LP≠[]:=fun e=>by
  rw[e,List.length_nil] at hLPl;exact hP0 (List.eq_nil_of_length_eq_zero hLPl.symm)
 have hPl:LP.getD (LP.length-1) 0≠0:=fun e=>by
  have h1:aG (aM P (m:Rat))=0:=by
   unfold aG;rw[s1,eP,aEs,<- hLPl,e];rfl
  rw[s2] at h1;exact(Rat.mul_eq_zero.1 h1).elim (eO tP hP0) hm0
 have hLGl:LG.length=r.length:=by rw[eG]; simp[sT]
 have hval:∀ j:Nat,j<n->(eS LG ((2^(c+1):Nat)+(j:Int))).natAbs<=2^(c+n*(c+3)):=fun j hj=>by
  have hlo:1<=(eS LP ((2^(c+1):Nat)+(j:Int))).natAbs:=aMs (c:=c) (by
   have e:(2:Int)^c=((2^c:Nat):Int):=by simp
   rw[e,Nat.pow_succ];have:=Nat.one_le_two_pow (n:=c);omega) LP hPb hP0' hPl
  have hhi:=aK5 (c:=c) (s:=c+2) (x:=(2^(c+1):Nat)+(j:Int)) (by
   rw[Nat.pow_succ 2 (c+1),Nat.pow_succ];omega) LP hPb
  rw[hmul,Int.natAbs_mul] at hlo hhi;have h0:0<(eS LH ((2^(c+1):Nat)+(j:Int))).natAbs:=Nat.pos_of_ne_zero fun e=>by rw[e,Nat.mul_zero] at hlo; omega
  refine Nat.le_trans (Nat.le_trans (Nat.le_mul_of_pos_right _ h0) hhi) (eJ ?_);exact Nat.add_le_add_left (Nat.mul_le_mul_right (c+3) (show LP.length<=n by omega)) c
 have hcoef:=aN1 n LG ((2^(c+1):Nat):Int) (c+n*(c+3)) (c+2) (by omega) hval (by
  rw[Int.natAbs_natCast,Nat.pow_succ 2 (c+1),Nat.pow_succ];omega)
 have hr0:r≠[]:=fun e=>by
  rw[e] at r2;exact hG0 (List.eq_nil_of_length_eq_zero r2.symm)
 have hCr:Cm 1 r (sS c n):=fun k=>⟨LG.getD k 0,by rw[mI,eG,aEs],hcoef k⟩
 have hmr:=(nJ hCr).monic (eO r1 hr0);obtain⟨x1,x2,x3,b,b1,b2⟩:=qH r1 hr0;obtain⟨y1,y2,y3,b',b3,b4⟩:=qH tG hG0;have hab:∃ e:Rat,∀ x,ev (aY G) x=e*ev (aY r) x:=by
  have hbi:=Rat.inv_mul_cancel b b1;exact⟨b'*a⁻¹*b⁻¹,fun x=>by rw[b2,b4,r4]; grind⟩
 obtain⟨e,he⟩:=hab;have hco:=xL (p:=aY G) (q:=aM (aY r) e) fun x=>by rw[cD,he,Rat.mul_comm]
 have he1:e=1:=by
  have h1:=hco (G.length-1);rw[jX] at h1;have h2:aG (aY G)=(aY G).getD (G.length-1) 0:=by unfold aG; rw[y2]
  have h3:aG (aY r)=(aY r).getD (G.length-1) 0:=by unfold aG; rw[x2,r2]
  rw[<- h2,<- h3,x3,y3] at h1;grind
 refine hmr.ext fun k=>?_;rw[hco,jX,he1,Rat.mul_one]
/-! Exact division,quotients without a common divisor,polynomials without double zeros. -/
theorem aOm {a b g:List Rat} (hg:aI g≠[]) (h:∀ x,ev a x*ev g x=ev b x*ev g x):∀ x,ev a x=ev b x:=by
 have h0:aI (fJ a b)=[]:=by
  by_cases q:aI (fJ a b)=[]
  ·exact q
  ·obtain⟨m1,_⟩:=uS (p:=aI (fJ a b)) (q:=aI g) (cK _) (cK _) q hg;have h1:aI (bD (aI (fJ a b)) (aI g))=[]:=rD fun x=>by
    have:=h x;rw[cM,kC,kC,lO];grind
   rw[aKv] at h1;rw[h1,List.length_nil] at m1;have:=List.length_pos_iff.2 q;have:=List.length_pos_iff.2 hg;omega
 intro x;have h2:=kC (fJ a b) x;rw[h0,lO,ev] at h2;grind
theorem aH8 {u g U R:List Rat} (tg:aI g=g) (tR:aI R=R) (hd:Dv g u) (h:∀ x,ev u x=ev U x*ev g x+ev R x) (hl:R.length<g.length):R=[]:=by
 obtain⟨w,hw⟩:=hd;by_cases h0:R=[]
 ·exact h0
 ·have:=(nI tg tR h0 ⟨fJ w U,fun x=>by rw[lO]; have h1:=h x; have h2:=hw x; grind⟩).2.1;omega
/-! No double zeros. -/
def pL (h:List Rat):Nat->List Rat
 | 0=>[1]
 | k+1=>bD (pL h k) h
theorem aF8 (h:List Rat) (x:Rat):∀ k,ev h x*bI (pL h k) x=(k:Rat)*ev (pL h k) x*bI h x
 | 0=>by show _*((0:Rat)+x*0)=(0:Rat)*_*_; grind
 | k+1=>by
  have ih:=aF8 h x k;have e:bI (pL h (k+1)) x=bI (pL h k) x*ev h x+ev (pL h k) x*bI h x:=qU (cM (pL h k) h) x;have e2:((k+1:Nat):Rat)=(k:Rat)+1:=by simp
  rw[e,e2,show pL h (k+1)=bD (pL h k) h from rfl,cM];grind
theorem aOx {p G f h f1 w:List Rat} (hG:cQ p (bN p) G) (hp:∀ x,ev p x=ev f x*ev G x) (hf:∀ x,ev f x=ev f1 x*ev h x) (hw:∀ x,bI f x=ev w x*ev h x):∀ k,Dv (pL h k) G
 | 0=>⟨G,fun x=>by show _=_*((1:Rat)+x*0); grind⟩
 | k+1=>by
  obtain⟨Gk,hk⟩:=aOx hG hp hf hw k;obtain⟨_,_,s,t,hb⟩:=hG;have h1:∀ x,bI p x=bI f x*ev G x+ev f x*bI G x:=qU hp;have h2:∀ x,bI G x=bI Gk x*ev (pL h k) x+ev Gk x*bI (pL h k) x:=qU hk;have h3:∀ x,bI f x=bI f1 x*ev h x+ev f1 x*bI h x:=qU hf;have hp2:∀ x,ev p x=ev (pL h (k+1)) x*(ev f1 x*ev Gk x):=fun x=>by
   show _=ev (bD (pL h k) h) x*_;rw[hp,hf,hk,cM];grind
  have hd2:∀ x,bI p x=ev (pL h (k+1)) x*(ev w x*ev Gk x+(k:Rat)*ev Gk x*(ev w x-bI f1 x)+ev f1 x*bI Gk x):=fun x=>by
   have e4:=aF8 h x k;have e5:=h3 x;rw[hw] at e5;show _=ev (bD (pL h k) h) x*_;rw[h1,h2,hw,hf,hk,cM];have e6:ev f1 x*bI h x=(ev w x-bI f1 x)*ev h x:=by grind
   have e7:ev f1 x*ev h x*(ev Gk x*bI (pL h k) x)=ev Gk x*(k:Rat)*ev (pL h k) x*(ev f1 x*bI h x):=by
    have:ev f1 x*ev h x*(ev Gk x*bI (pL h k) x)=ev f1 x*ev Gk x*(ev h x*bI (pL h k) x):=by grind
    rw[this,e4];grind
   rw[Rat.mul_add (ev f1 x*ev h x),e7,e6];grind
  refine⟨eD (bD s (bD f1 Gk)) (bD t (eD (eD (bD w Gk) (aM (bD Gk (fJ w (bN f1))) (k:Rat))) (bD f1 (bN Gk)))),fun x=>?_⟩;rw[hb,jH,hp2,hd2];simp only[fP,cM,cD,lO,jH];grind
theorem aA8 {h:List Rat} (th:aI h=h) (h2:2<=h.length):∀ k,aI (pL h k)=pL h k/\k+1<=(pL h k).length
 | 0=>⟨by show aI [1]=[1]; exact sW (.inr (by show (1:Rat)≠0; decide)),Nat.le_refl _⟩
 | k+1=>by
  obtain⟨h3,h4⟩:=aA8 th h2 k;refine⟨cK _,?_⟩;show _<=(bD (pL h k) h).length;have e:=(uS h3 th (fun q=>by rw[q,List.length_nil] at h4; omega) (fun q=>by rw[q,List.length_nil] at h2; omega)).1;omega
theorem aTc {p G f H:List Rat} (hG:cQ p (bN p) G) (tG:aI G=G) (G0:G≠[]) (hp:∀ x,ev p x=ev f x*ev G x) (tH:aI H=H) (H0:H≠[]) (hH:cQ f (bN f) H) (hl:aG H=1):H=[1]:=by
 obtain⟨⟨f1,hf⟩,⟨w,hw⟩,_⟩:=hH;have hw':∀ x,bI f x=ev w x*ev H x:=fun x=>by rw[<- jH,hw]
 rcases Nat.lt_or_ge H.length 2 with h2 | h2
 ·have h1:H.length=1:=by have:=List.length_pos_iff.2 H0; omega
  obtain⟨c,rfl⟩:=List.length_eq_one_iff.1 h1;have:c=1:=hl;rw[this]
 ·obtain⟨t1,t2⟩:=aA8 tH h2 G.length;have:=(nI t1 tG G0 (aOx hG hp hf hw' G.length)).2.1;omega
def eW (a:Rat):Rat:=if a<0 then -a else a
theorem aLu {a:Rat} (h:a≠0):0<eW a:=by unfold eW; split<;>grind
theorem aNe (a:Rat):eW a=a\/eW a = -a:=by
 unfold eW;split
 ·exact .inr rfl
 ·exact .inl rfl
theorem aEo {a:Rat} {m g:Int} (h:a*(m:Rat)=(g:Rat)):∃ y:Int,eW a*(m:Rat)=(y:Rat)/\y.natAbs=g.natAbs:=by
 rcases aNe a with e | e
 ·exact⟨g,by rw[e,h],rfl⟩
 ·exact⟨-g,by rw[e,Rat.neg_mul,h,Rat.intCast_neg],Int.natAbs_neg g⟩
theorem aJ5 (a:Rat):(0:Rat)<wR (a.den:Int):=by
 rw[oI,Rat.intCast_natCast];exact Rat.natCast_pos.2 (Nat.pos_of_ne_zero a.den_nz)
theorem aI4 {B:Nat}:∀ {l:List Rat} {e D:Rat},gM B l e=some D->0<e->0<D
 | [],e,D,h,he=>by
  rw[gM] at h;obtain rfl:=Option.some.inj h;exact he
 | a::l,e,D,h,he=>by
  rw[gM] at h;split at h
  ·refine aI4 h ?_;rw[Rat.div_def];exact Rat.mul_pos he (Rat.inv_pos.2 (aJ5 _))
  ·cases h
def gX (B:Nat) (p:List Rat) (t:Rat):Option (List Rat × Rat) :=
 if p=[] then some ([],0) else (gM B p (eW (aG p))).bind fun D=>if (aH [1/D] B&&(aH (aM p (1/D)) B&&aH [t*D] B))=true then some (aM p (1/D),t*D) else none
theorem aFa {a b:Rat} {c d:Nat} (ha:eE a c) (hb:eE b d):eE (a*b) (c+d):=by
 obtain⟨z,m,h1,h2,h3,h4⟩:=ha;obtain⟨y,n,k1,k2,k3,k4⟩:=hb;refine⟨z*y,m*n,Int.mul_ne_zero h1 k1,?_,gW h3 k3,gW h4 k4⟩;rw[Rat.intCast_mul,Rat.intCast_mul,<- h2,<- k2];grind
theorem aFb {a:Rat} {c:Nat} (h0:a≠0) (ha:eE a c):eE a⁻¹ c:=by
 obtain⟨z,m,h1,h2,h3,h4⟩:=ha;have hi:=Rat.mul_inv_cancel a h0;have hz:z≠0:=by
  rintro rfl;have:=nD h1;have h2:a*(m:Rat)=0:=h2;rcases Rat.mul_eq_zero.1 h2 with e | e
  ·exact h0 e
  ·exact this e
 exact⟨m,z,hz,by rw[<- h2]; grind,h4,h3⟩
theorem aAf {a:Rat} {c d:Nat} (h:eE a c) (hd:c<=d):eE a d:=by
 obtain⟨z,m,h1,h2,h3,h4⟩:=h;exact⟨z,m,h1,h2,Nat.le_trans h3 (eJ hd),Nat.le_trans h4 (eJ hd)⟩
theorem aX4 {a:Rat} {c:Nat} (h:eE a c):eE (-a) c:=by
 obtain⟨z,m,h1,h2,h3,h4⟩:=h;exact⟨-z,m,h1,by rw[Rat.neg_mul,h2,Rat.intCast_neg],by rw[Int.natAbs_neg]; exact h3,h4⟩
theorem aMx {a:Rat} {z:Int} {c:Nat} (h:a=(z:Rat)) (hz:z.natAbs<=2^c):eE a c:=⟨z,1,by decide,by rw[mI,h],hz,Nat.one_le_two_pow⟩
theorem aHx {B:Nat} {δ:Rat}:∀ {l:List Rat} {e D:Rat},gM B l e=some D->e≠0->(∀ a∈l,∃ y:Int,a = δ*(y:Rat))->(∃ y:Int,e = δ*(y:Rat))->∃ y:Int,D = δ*(y:Rat)
 | [],e,D,h,_,_,he=>by
  rw[gM] at h;obtain rfl:=Option.some.inj h;exact he
 | a::l,e,D,h,e0,hl,⟨g,hg⟩=>by
  rw[gM] at h;split at h
  ·obtain⟨z,hz⟩:=hl a List.mem_cons_self;have hi:=Rat.mul_inv_cancel e e0;have hδ : δ≠0:=by
    rintro rfl;rw[Rat.zero_mul] at hg;exact e0 hg
   have hg0:g≠0:=by
    rintro rfl;exact e0 (by rw[hg]; exact Rat.mul_zero δ)
   have hdi:=Rat.mul_inv_cancel δ hδ;have r1:a/e*(g:Rat)=(z:Rat):=by
    have h1:a/e*e=a:=by rw[Rat.div_def,Rat.mul_assoc,Rat.inv_mul_cancel _ e0,Rat.mul_one]
    generalize a/e=r at h1 |-;have h2 : δ*(r*(g:Rat)) = δ*(z:Rat):=by
     rw[<- hz,<- h1,hg];grind
    have h3:=congrArg (fun q => δ⁻¹*q) h2;simp only[<- Rat.mul_assoc,Rat.inv_mul_cancel _ hδ,Rat.one_mul] at h3;exact h3
   obtain⟨_,⟨g1,f2⟩,_⟩:=aC3 hg0 r1;obtain⟨g2,hg2⟩:∃ g2:Int,g=((a/e).den:Int)*g2:=by
    rcases Int.natAbs_eq g with h | h
    ·exact⟨g1,by rw[h,f2,Int.natCast_mul]⟩
    ·exact⟨-g1,by rw[h,f2,Int.natCast_mul,Int.mul_neg]⟩
   have hdp:=aJ5 (a/e);have hd0:wR ((a/e).den:Int)≠0:=by grind
   have he2:e/wR ((a/e).den:Int) = δ*(g2:Rat):=by
    have hgw:(g:Rat)=wR ((a/e).den:Int)*(g2:Rat):=by rw[oI,<- Rat.intCast_mul,<- hg2]
    have h5:=Rat.mul_inv_cancel _ hd0;rw[Rat.div_def];generalize wR ((a/e).den:Int)=w at *;have h4:e = δ*(g2:Rat)*w:=by
     rw[hg,hgw];grind
    have h6:e*w⁻¹ = δ*(g2:Rat)*(w*w⁻¹):=by rw[<- Rat.mul_assoc,<- h4]
    rw[h6,h5,Rat.mul_one]
   refine aHx h ?_ (fun b hb=>hl b (List.mem_cons_of_mem _ hb)) ⟨g2,he2⟩;rw[Rat.div_def];intro q;exact(Rat.mul_eq_zero.1 q).elim e0 (by have:=Rat.inv_pos.2 hdp; grind)
  ·cases h
theorem aDv {B:Nat} {p:List Rat} {t κ:Rat} {b c e:Nat} (hB:1<=B) (hp:aI p=p) (h0:p≠[]) (hc:Cb p c) (ht:eE t e) (hE:e+c<=29*B) (hb:b<=29*B) (hκ : κ≠0) (hi:∀ k,∃ z:Int,p.getD k 0 = κ*(z:Rat)/\z.natAbs<=2^b) :
  ∃ R T,gX B p t=some (R,T)/\aI R=R/\R.length=p.length/\Cm 1 R b/\eE T (e+c)/\(0<t->0<T)/\∃ a:Rat,0<a/\(∀ x,ev R x=a*ev p x)/\T*a=t:=by
 obtain⟨m,m1,m2,m3⟩:=hc;obtain⟨g,g1,g2⟩:=m3 (p.length-1);have hl:=eO hp h0;have g1':aG p*(m:Rat)=(g:Rat):=g1;obtain⟨y,y1,y2⟩:=aEo g1';have hg:g≠0:=xO g1' m1 hl;have hy:y≠0:=by omega
 have hmem:∀ a∈p,∃ k,a=p.getD k 0:=fun a ha=>by
  obtain⟨i,hi,rfl⟩:=List.getElem_of_mem ha;exact⟨i,by rw[List.getD_eq_getElem?_getD,List.getElem?_eq_getElem hi]; rfl⟩
 obtain⟨D,h,k1,k2,k3,k4,_,k6⟩:=aDh (c:=c) hB (by omega) m1 m2 p (eW (aG p)) y (fun a ha=>by
  obtain⟨k,rfl⟩:=hmem a ha;exact m3 k) y1 hy (by omega)
 have habs:=aLu hl;have hDp:0<D:=aI4 k1 habs;have hD:D≠0:=by grind
 have hDi:=Rat.mul_inv_cancel D hD;have h1D:(1:Rat)/D=D⁻¹:=by rw[Rat.div_def,Rat.one_mul]
 have hD1p:0<(1:Rat)/D:=by rw[h1D]; exact Rat.inv_pos.2 hDp
 have hD1:(1:Rat)/D≠0:=by grind
 obtain⟨v,hv⟩:∃ v:Int,D = κ*(v:Rat):=aHx k1 (by grind) (fun a ha=>by
   obtain⟨k,rfl⟩:=hmem a ha;obtain⟨z,z1,_⟩:=hi k;exact⟨z,z1⟩) (by
   obtain⟨z,z1,_⟩:=hi (p.length-1);have z1:aG p = κ*(z:Rat):=z1;rcases aNe (aG p) with q | q
   ·exact⟨z,by rw[q,z1]⟩
   ·exact⟨-z,by rw[q,z1,Rat.intCast_neg]; grind⟩)
 have hv0:v≠0:=by
  rintro rfl;exact hD (by rw[hv]; exact Rat.mul_zero κ)
 have hCR:Cm 1 (aM p (1/D)) b:=fun k=>by
  rw[jX,mI,h1D];rcases Nat.lt_or_ge k p.length with hk | hk
  ·obtain⟨y,y1⟩:=k6 (p.getD k 0) (by rw[List.getD_eq_getElem?_getD,List.getElem?_eq_getElem hk]; exact List.getElem_mem hk);obtain⟨z,z1,z2⟩:=hi k;refine⟨y,by rw[y1]; grind,?_⟩;have e:((v*y:Int):Rat)=(z:Rat):=by
    have q1 : κ*((v:Rat)*(y:Rat)) = κ*(z:Rat):=by rw[<- z1,y1,hv]; grind
    have q2:=congrArg (fun q => κ⁻¹*q) q1;simp only[<- Rat.mul_assoc,Rat.inv_mul_cancel _ hκ,Rat.one_mul] at q2;rw[Rat.intCast_mul];exact q2
   have e:=congrArg Int.natAbs (Rat.intCast_inj.1 e);rw[Int.natAbs_mul] at e;have:=Nat.le_mul_of_pos_left y.natAbs (show 0<v.natAbs by omega);omega
  ·rw[dI hk];exact⟨0,by rw[Rat.zero_mul]; rfl,Nat.zero_le _⟩
 have fD:eE D c:=⟨h,m,m1,k2,k4,m2⟩
 have fT:=aFa ht fD;have s1:aH [1/D] B=true:=by rw[h1D]; exact nE hB (by omega) (aFb hD fD)
 have s2:=(nJ hCR).sz hB hb;have s3:aH [t*D] B=true:=nE hB hE fT;refine⟨aM p (1/D),t*D,?_,cK _,(lE hp hD1).1,hCR,fT,fun q=>Rat.mul_pos q hDp,1/D,hD1p,fun x=>by rw[cD,Rat.mul_comm],by rw[h1D]; grind⟩;unfold gX;rw[if_neg h0,k1];show (if _ then some _ else none)=_;rw[s1,s2,s3];rfl
def mT (B:Nat) (a:Rat):Nat->Rat->Option Rat
 | 0,f=>some f
 | n+1,f=>if aH [f*a] B=true then mT B a n (f*a) else none
theorem aKl {B:Nat} {a:Rat} {z:Int} {d:Nat} (hB:1<=B) (ha:a=(z:Rat)) (hz:z.natAbs<=2^d) (ha0:0<a) :
  ∀ (n:Nat) (f:Rat) (y:Int) (e:Nat),f=(y:Rat)->y.natAbs<=2^e->0<f->e+n*d<=29*B->∃ F,mT B a n f=some F/\0<F/\∃ v:Int,F=(v:Rat)/\v.natAbs<=2^(e+n*d)
 | 0,f,y,e,h1,h2,h3,_=>⟨f,rfl,h3,y,h1,by rw[Nat.zero_mul]; exact h2⟩
 | n+1,f,y,e,h1,h2,h3,hE=>by
  rw[Nat.succ_mul] at hE |-;have e1:f*a=((y*z:Int):Rat):=by rw[h1,ha,Rat.intCast_mul]
  have e2:=gW h2 hz;have s:aH [f*a] B=true:=nE hB (by omega) (aMx e1 e2);obtain⟨F,k1,k2,v,k3,k4⟩:=aKl hB ha hz ha0 n (f*a) (y*z) (e+d) e1 e2 (Rat.mul_pos h3 ha0) (by omega);exact⟨F,by rw[mT,if_pos s,k1],k2,v,k3,Nat.le_trans k4 (eJ (by omega))⟩
def oR (B:Nat) (a b:List Rat × Rat):Option (List Rat × Rat) :=
 (mT B (eW (aG b.1)) (a.1.length+1-b.1.length) 1).bind fun f=>if (aH [-f] B&&(aH (aM a.1 (-f)) B&&aH [a.2/f] B))=true then (dK B (aM a.1 (-f)) b.1).bind fun x=>gX B x.2 (a.2/f) else none
def vN (g c d:Nat):Nat:=c+g*d+g*(d+1)
theorem aIw {z q:List Rat} (hz:aI z=z) (hq:aI q=q) (hl:z.length<q.length) (h:Dv q z):z=[]:=by
 by_cases h0:z=[]
 ·exact h0
 ·have:=(nI hq hz h0 h).2.1;omega
theorem aWk {B:Nat} {p q:List Rat} {s t:Rat} {c d e:Nat} (hB:1<=B) (hp:aI p=p) (h0:p≠[]) (hq:aI q=q) (hq0:q≠[]) (hpc:Cm 1 p c) (hqd:Cm 1 q d) (hs:eE s e) (hs0:0<s) (hE:vN (p.length+1-q.length) c d+d<=29*B) (hF:e+(p.length+1-q.length)*d+vN (p.length+1-q.length) c d<=29*B) :
  ∃ R T,oR B (p,s) (q,t)=some (R,T)/\aI R=R/\R.length<q.length/\Cm 1 R (c+(p.length+1-q.length)*(d+1))/\eE T (e+(p.length+1-q.length)*d+vN (p.length+1-q.length) c d)/\(R≠[]->0<T) /\
   ∃ W:List Rat,∀ x,s*ev p x+T*ev R x=ev W x*ev q x:=by
 unfold vN at *;obtain⟨g,hg⟩:∃ g,p.length+1-q.length=g:=⟨_,rfl⟩
 rw[hg] at hE hF;have hlq:=eO hq hq0;have hlen:=List.length_pos_iff.2 hq0;obtain⟨n,n1,n2⟩:=hqd (q.length-1);have n1':aG q*((1:Int):Rat)=(n:Rat):=n1;obtain⟨y,y1,y2⟩:=aEo n1';rw[mI] at y1;have hgd:g*(d+1)=g*d+g:=by rw[Nat.mul_add,Nat.mul_one]
 obtain⟨f,f1,f2,v,f3,f4⟩:=aKl hB y1 (by rw[y2]; exact n2) (aLu hlq) g 1 1 0 rfl (by decide) (by decide) (by omega);rw[Nat.zero_add] at f4;have hf0:f≠0:=by grind
 have ff:=aMx f3 f4;have fn:=aX4 ff;have hc:Cb (aM p (-f)) (c+g*d):=(nJ hpc).scale fn;have hnf : -f≠0:=by grind
 obtain⟨l1,l2⟩:=lE hp hnf;have hdE:jR (aM p (-f)) q (c+g*d) d<=29*B:=by
  unfold jR;rw[l1,hg];omega
 obtain⟨U,R0,k1,k2,k3,k4,k5,k6,k7,k8⟩:=wQ (p:=aM p (-f)) hB (cK _) hq hq0 hc (nJ hqd) hdE;have k8':Cb R0 (c+g*d+g*(d+1)):=by
  unfold jR at k8;rw[l1,hg] at k8;exact k8.mono (by omega)
 have fs:eE (s/f) (e+g*d):=by rw[Rat.div_def]; exact aFa hs (aFb hf0 ff)
 have s1:aH [-f] B=true:=nE hB (by omega) fn;have s2:aH (aM p (-f)) B=true:=hc.sz hB (by omega);have s3:aH [s/f] B=true:=nE hB (by omega) fs;have hsf:s/f*f=s:=by rw[Rat.div_def,Rat.mul_assoc,Rat.inv_mul_cancel _ hf0,Rat.mul_one]
 have hsf0:0<s/f:=by rw[Rat.div_def]; exact Rat.mul_pos hs0 (Rat.inv_pos.2 f2)
 have hev:∀ x,-(f*ev p x)=ev U x*ev q x+ev R0 x:=fun x=>by
  have:=k6 x;rw[cD] at this;rw[<- this];grind
 obtain⟨R1,r1,r2,r3,r4,r5,a,u,r6,r7⟩:=aD4 hB hlen hlq hqd (p.length+2) p c (by omega) hp hpc (by rw[hg]; omega);have hz:eD (aM R0 a) (aM R1 f)=[]:=by
  refine aIw (cK _) hq ?_ ⟨fJ (aM u f) (aM U a),fun x=>?_⟩
  ·have h1:=aLt (aM R0 a) (aM R1 f);have h2:=mF R0 a;have h3:=mF R1 f;omega
  ·have h1:=hev x;have h2:=r7 x;rw[fP,lO,cD,cD,cD,cD];grind
 have hai:=Rat.inv_mul_cancel a r6;have hcoef:∀ k,R0.getD k 0 = -f*a⁻¹*R1.getD k 0:=fun k=>by
  have h1:=aYm (aM R0 a) (aM R1 f) k;rw[hz,jX,jX,dI (Nat.zero_le _)] at h1;grind
 have hκ : -f*a⁻¹≠0:=fun q=>by
  rcases Rat.mul_eq_zero.1 q with h | h
  ·exact hnf h
  ·rw[h] at hai;grind
 have goal:∀ R T,gX B R0 (s/f)=some (R,T)->oR B (p,s) (q,t)=some (R,T):=fun R T h=>by
  unfold oR;show (mT B (eW (aG q)) (p.length+1-q.length) 1).bind _=_;rw[hg,f1];show (if (aH [-f] B&&(aH (aM p (-f)) B&&aH [s/f] B))=true then (dK B (aM p (-f)) q).bind (fun x=>gX B x.2 (s/f)) else none)=_;rw[s1,s2,s3,if_pos (by rfl),k1];exact h
 rw[hg] at r5 |-;by_cases hR:R0=[]
 ·subst hR;refine⟨[],0,goal _ _ (by unfold gX; rw[if_pos rfl]),rfl,hlen,fun k=>⟨0,by rw[dI (Nat.zero_le _),Rat.zero_mul]; rfl,Nat.zero_le _⟩,⟨0,1,by decide,by rw[Rat.zero_mul]; rfl,Nat.zero_le _,Nat.one_le_two_pow⟩,fun h=>absurd rfl h,aM U (-(s/f)),fun x=>?_⟩;have:=hev x;rw[ev] at this |-;rw[cD];grind
 ·obtain⟨R,T,w1,w2,w3,w4,w5,w6,b,b0,b1,b2⟩:=aDv (κ := -f*a⁻¹) (b:=c+g*(d+1)) hB k3 hR k8' fs (by omega) (by omega) hκ (fun k=>by
   obtain⟨z,z1,z2⟩:=r5 k;rw[mI] at z1;exact⟨z,by rw[hcoef,z1],z2⟩)
  refine⟨R,T,goal _ _ w1,w2,by omega,w4,w5,fun _=>w6 hsf0,aM U (-(s/f)),fun x=>?_⟩;have:=hev x;have e1:T*ev R x=s/f*ev R0 x:=by rw[b1,<- b2]; grind
  rw[cD,e1];grind
end Vc
end Go.Proofs.YtbaihklbefhgdaaGreat

namespace Go.Proofs.YtbaihklbefhgdaaGreat
open Go.RowKit
open Go.Lib (hid)
open Dg Zn
namespace Vc
set_option maxRecDepth 100000
theorem aM9 {a:Rat}:bA a.num 0<0 ↔ a<0:=by
 have h1:=Rat.num_nonneg (q:=a);have h2:=Rat.not_lt (a:=a) (b:=0);have h3:a<0 ↔ ¬ 0<=a.num:=by
  rw[h1,<- h2,Decidable.not_not]
 rw[h3,bA];split
 ·exact⟨fun _=>by omega,fun _=>by decide⟩
 ·split
  ·exact⟨fun h=>absurd h (by decide),fun h=>by omega⟩
  ·exact⟨fun h=>absurd h (by decide),fun h=>by omega⟩
theorem vI {a b:Rat} {K:Nat} (h:a=b):∀ L ρ w v,(AV.one (RT a K)).is L ρ w v->(AV.one (RT b K)).is L ρ w v:=by subst h; exact fun _ _ _ _ h=>h
def elG (p:List Rat) (K:Nat) (t:Rat) (J:Nat):rN where
 is:=fun w v=>∃ (s:Value) (c:List Value),v=.agg (s::c).toArray/\(cA (some 4) (bB p K)).is w s/\Dm.at (.rt t.num (qd t) J) w (.agg c.toArray)
 shape:=some 5
 plain:=true
 ok:=fun w v ⟨s,c,h,hs,hc⟩=>by
  subst h;obtain⟨ao,cap,rfl,_⟩:=hs;obtain⟨a,n,c',a',n',c'',rfl,_⟩:=iH hc;exact⟨_,rfl,rfl,by simp[Value.oneCell']⟩
 pl:=fun _ w v ⟨s,c,h,hs,hc⟩=>by
  subst h;obtain⟨ao,cap,rfl,_⟩:=hs;obtain⟨a,n,c',a',n',c'',rfl,_⟩:=iH hc;simp[Value.cells,cZ]
abbrev EL (p:List Rat) (K:Nat) (t:Rat) (J:Nat):SA Dm:=.d (Dm.gen (elG p K t J))
theorem qZ {p:List Rat} {K:Nat} {t:Rat} {J:Nat}:mA (Dm.gen (elG p K t J)) 0 none (PL p K):=by
 rintro w cs ⟨s,c,h,hs,hc⟩;obtain rfl:cs=s::c:=by simpa using congrArg Array.toList (Value.agg.inj h)
 have h1:s.oneCell'=true:=by obtain⟨ao,cap,rfl,_⟩:=hs; rfl
 exact⟨[],[s],c,s,rfl,rfl,⟨rfl,h1⟩,hs⟩
theorem aOb {p:List Rat} {K:Nat} {t:Rat} {J:Nat}:mA (Dm.gen (elG p K t J)) 1 (some 4) (RT t J):=by
 rintro w cs ⟨s,c,h,hs,hc⟩;obtain rfl:cs=s::c:=by simpa using congrArg Array.toList (Value.agg.inj h)
 obtain⟨a,n,c',a',n',c'',e,_⟩:=iH hc;refine⟨[s],c,[],.agg c.toArray,by simp,rfl,⟨rfl,?_,?_⟩,hc⟩
 ·rw[e]; rfl
 ·rw[e]; simp[Value.oneCell']
theorem rC:iK Tryz.prog 96 0 0:=iK.of (sz:=0) (by kernel_rfl)
theorem aOc:iK Tryz.prog 96 1 1:=iK.of (sz:=3) (by kernel_rfl)
theorem sE:(Tryz.prog.info? 96).map (·.zero)=some (some (.agg #[.slice none 0 0,.bool false,.slice none 0 0,.bool false,.slice none 0 0])):=by kernel_rfl
theorem iW:dL Tryz.prog 96 (some 5):=dL.row (by kernel_rfl) (by kernel_rfl)
theorem pU:Tryz.prog.underlying 93=some (.slice 96):=by kernel_rfl
theorem aGh:(Tryz.prog.info? 96).map (·.size)=some 5:=by kernel_rfl
theorem aLq (parts:List (Nat × Value)):Tryz.prog.built 96 parts=Instr.fill ((#[(0,1),(1,4)]:Array (Nat × Nat))[·]?) #[.slice none 0 0,.bool false,.slice none 0 0,.bool false,.slice none 0 0] parts:=by kernel_rfl
theorem aYa (w:World):Dm.at (.rt (0:Rat).num (qd 0) 0) w (.agg [Value.bool false,.slice none 0 0,.bool false,.slice none 0 0].toArray) :=
 ⟨_,_,rfl,aL.nil (by decide),aL.nil (by decide),by decide,by decide⟩
section
variable {cx:Cx Dm} {n:Nat} {σ:St Dm} {o:Oper} {d:Nat}
theorem aRo (ho:o.op=.build 96 #[]) (hd:o.dst=some d) (hn:d<n):aN Tryz.prog cx n σ o [] [(.s d,.av (.one (EL [] 0 0 0)))]:=by
 refine fE hd hn rfl fun σ' ρ a w h hk=>⟨.agg #[.slice none 0 0,.bool false,.slice none 0 0,.bool false,.slice none 0 0],?_,?_⟩
 ·have hb2:=run_build w 96 #[] _ (show Tryz.prog.built 96 (#[]:Array (Nat × Value)).toList=some #[.slice none 0 0,.bool false,.slice none 0 0,.bool false,.slice none 0 0] by rw[aLq]; kernel_rfl);simp only[execOp,ho,Sem.run_bind];rw[show (#[]:Array (Nat × Operand)).map (fun p=>(p.1,a.eval p.2))=#[] by simp,hb2];rfl
 ·intro w' _;exact⟨.slice none 0 0,[.bool false,.slice none 0 0,.bool false,.slice none 0 0],rfl,⟨none,0,rfl,⟨Nat.le_refl _,by decide⟩,fun h=>absurd h (Nat.lt_irrefl _)⟩,aYa w'⟩
theorem aRn {x y:Operand} {p:List Rat} {K J:Nat} {t:Rat} (ho:o.op=.build 96 #[(0,x),(1,y)]) (hd:o.dst=some d) (hn:d<n) (hx:opd σ x=.av (.one (PL p K))) (hy:opd σ y=.av (.one (RT t J))):aN Tryz.prog cx n σ o (bH x++bH y) [(.s d,.av (.one (EL p K t J)))]:=by
 refine fE hd hn rfl fun σ' ρ a w h hk=>?_;have h1:=h.opd ((cR fun q hq=>hk q (by simp[hq])).trans hx);have h2:=h.opd ((cR fun q hq=>hk q (by simp[hq])).trans hy);obtain⟨ao,cap,hv,_⟩:=uI (ρ:=ρ) (by decide) h1;obtain⟨cs,hv'⟩:∃ cs:List Value,a.eval y=.agg cs.toArray:=by
  obtain⟨s,t',e,_⟩:=h2 w (Agree.refl _ _);exact⟨_,e⟩
 have h2':∀ w',Agree (aT cx σ' ρ) w w'->Dm.at (.rt t.num (qd t) J) w' (.agg cs.toArray):=fun w' hag=>by rw[<- hv']; exact h2 w' hag
 obtain⟨b,m,c,b',m',c',rfl,_⟩:=iH (h2' w (Agree.refl _ _));refine⟨.agg #[.slice ao (bB p K).length cap,.bool (decide (t.num<0)),.slice b m c,.bool (decide (qd t<0)),.slice b' m' c'],?_,?_⟩
 ·have hb:Tryz.prog.built 96 #[(0,a.eval x),(1,a.eval y)].toList=some #[.slice ao (bB p K).length cap,.bool (decide (t.num<0)),.slice b m c,.bool (decide (qd t<0)),.slice b' m' c']:=by
   rw[hv,hv',aLq]
   kernel_rfl
  have hb2:=run_build w 96 #[(0,a.eval x),(1,a.eval y)] _ hb;simp only[execOp,ho,Sem.run_bind];rw[show (#[(0,x),(1,y)]:Array (Nat × Operand)).map (fun p=>(p.1,a.eval p.2))=#[(0,a.eval x),(1,a.eval y)] by simp,hb2];rfl
 ·intro w' hag;refine⟨_,_,rfl,?_,h2' w' hag⟩;have:=h1 w' hag;rw[hv] at this;exact this
end
theorem aCe (a:Rat) (K:Nat):aD Tryz.prog 69 [RT a K] (.one (RT (eW a) K)):=by
 refine aD.of (n:=9) Tryz.func69 rfl rfl rfl rfl rfl fun cx hfr=>?_;refine sr rfl ?_;refine p2 (cC (i:=0)) ?_;refine p2 (aU (i:=1) cI) ?_;refine RV.done ?_;refine CV.seq ?_;refine sr rfl ?_;refine p1 (aJ aC) ?_;refine xc (zO _ _) Tryz.func64 (xa rfl) hfr ?_;refine p1 (dP) ?_;refine RV.done ?_;refine CV.cond rfl (fun hc=>?_) (fun hc=>?_)
 ·refine sr rfl ?_;refine p1 (aJ aC) ?_;refine xc (xD _ _) Tryz.func121 (xa rfl) hfr ?_;refine p1 (aQ (aC).2) ?_;refine RV.done ?_;refine CV.ret ?_;have h0:a<0:=(by have:=of_decide_eq_true hc; exact aM9.1 this)
  exact aS rfl (.inr rfl) ⟨_,_,_,_,_,rfl,rfl,rfl,aC⟩ (lR (by rw[eW,if_pos h0]))
 ·refine CV.skip ?_;refine sr rfl ?_;refine p1 (aJ aC) ?_;refine p1 (aQ (aC).2) ?_;refine RV.done ?_;refine CV.ret ?_;have h0:¬ a<0:=(by have:=of_decide_eq_false hc; exact fun q=>this (aM9.2 q))
  exact aS rfl (.inr rfl) ⟨_,_,_,_,_,rfl,rfl,rfl,aC⟩ (lR (by rw[eW,if_neg h0]))
theorem aDc (l:List Rat) (K:Nat) (hl:l.length<=1000000) (h0:l≠[]):aD Tryz.prog 71 [PL l K] (.one (RT (aG l) K)):=by
 have hlp:=List.length_pos_iff.2 h0;refine aD.of (n:=8) Tryz.func71 rfl rfl rfl rfl rfl fun cx hfr=>?_;refine sr rfl ?_;refine p2 (aU (i:=0) cI) ?_;refine RV.done (sr rfl ?_);refine xm ?_;refine xm ?_;refine xc (qK _ _ hl) Tryz.func68 (xa rfl) hfr ?_;refine p1 (cV (k:=some 4) (i:=l.length-1) (dN (by omega)) bE cH rfl rfl bd rfl (by rw[show ((l.length-1:Nat):Int)=(l.length:Int)-1 by omega]; rfl) (by decide)) ?_;refine p1 (bT aC) ?_;refine p1 (aQ (aC).2) ?_;refine RV.done ?_;refine CV.ret ?_;exact aS rfl (.inr rfl) ⟨_,_,_,_,_,rfl,rfl,rfl,aC⟩ cL
section
variable (p:List Rat) (t D:Rat) (B:Nat) (hB:B<=300000) (hp:p.length<=1000000) (h0:p≠[]) (h:gM B p (eW (aG p))=some D) (h1:aH [1/D] B=true) (h2:aH (aM p (1/D)) B=true) (h3:aH [t*D] B=true)
include hB hp h0 h h1 h2 h3
theorem aQg:aD Tryz.prog 149 [PL p B,RT t B] (.one (EL (aM p (1/D)) B (t*D) B)):=by
 have hlp:=List.length_pos_iff.2 h0;have e11:Rat.divInt 1 1=1:=by decide
 refine aD.of (n:=40) Tryz.func149 rfl rfl rfl rfl rfl fun cx hfr=>?_;refine sr rfl ?_;refine p2 (cC (i:=0)) ?_;refine p2 (aU (i:=1) sE) ?_;refine RV.done ?_;refine CV.seq ?_;refine sr rfl ?_;refine xm ?_;refine p1 (bL aV bE) ?_;refine p1 (cW) ?_;refine RV.done ?_;refine CV.cond rfl (fun hc=>False.elim (by have:=of_decide_eq_true hc; omega)) (fun hc=>?_);refine CV.skip ?_;refine sr rfl ?_;refine xm ?_;refine xc (aDc p B hp h0) Tryz.func71 (xa rfl) hfr ?_;refine xc (aCe _ _) Tryz.func69 (xa rfl) hfr ?_;refine p2 (aU (i:=2) cI) ?_;refine p1 (aQ (aC).2) ?_;refine RV.done ?_;refine CV.seq ?_;refine sr rfl ?_;refine xm ?_;refine p1 (bL aV bE) ?_;refine xm ?_;refine RV.done ?_;refine CV.block ?_;refine CV.loop (X:={s:Nat × Rat // s.1<=p.length/\gM B (p.drop s.1) s.2=some D}) (fun s=>[(.s 18,.av (.one (.v (.int .i64 (s.1.1:Int))))),(.s 17,.av (.one (.v (.int .i64 (p.length:Int))))),(.s 16,.av (.one (PL p B))),(.s 0,.av (.one (PL p B))),(.s 5,.av (.one (.ptr 2 0))),(.b 2,.blk 30 [(some 4,RT s.1.2 B)]),(.s 3,.av (.one (.ptr 0 0))),(.b 0,.blk 30 [(some 4,RT t B)]),(.s 4,.av (.one (.ptr 1 0))),(.b 1,.blk 96 [(some 5,.v (.agg #[.slice none 0 0,.bool false,.slice none 0 0,.bool false,.slice none 0 0]))])]) (fun s=>p.length-s.1.1) ⟨(0,eW (aG p)),Nat.zero_le _,h⟩ (aZ.mk ⟨aB _,aB _,aB _,aB _,aB _,aB _,aB _,aB _,aB _,aB _,trivial⟩ rfl rfl) (fun s=>?_);obtain⟨⟨k,e⟩,hk,hs⟩:=s;simp only at hk hs |-;refine sr rfl ?_;refine p1 (dP) ?_;refine RV.done ?_;refine CV.seq ?_;refine CV.cond rfl (fun hc2=>?_) (fun hc2=>?_)
 ·have hlt:k<p.length:=(by have:=of_decide_eq_true hc2; omega)
  rw[aJr hlt] at hs;obtain⟨o1,o2,o3⟩:=aHw hs;refine CV.skip ?_;refine CV.seq ?_;refine CV.block ?_;refine sr rfl ?_;refine p1 (cV (k:=some 4) (i:=k) (dN hlt) bE cH) ?_;refine p1 (bT aC) ?_;refine p2 (aU (i:=3) cI) ?_;refine p1 (aQ (aC).2) ?_;refine RV.done (sr rfl ?_);refine p1 (aJ aC) ?_;refine p1 (aJ aC) ?_;refine xd rfl ((pE (p.getD k 0) e B B (by omega) (by omega)).mono (fun _ _ _ _ h=>h) (eQ o1)) Tryz.func70 (xb rfl rfl) hfr ?_;refine xc (iJ _ _) Tryz.func138 (xa rfl) hfr ?_;refine p2 (aU (i:=4) dC) ?_;refine p1 (aQ (aK).2) ?_;refine RV.done ?_;refine CV.region rfl (fun h=>nomatch h) ?_;refine p1 (aJ aC) ?_;refine p1 (aJ aK) ?_;refine p1 (aCw rfl rfl bd rfl) ?_;refine xd rfl ((pE e (wR ((p.getD k 0/e).den:Int)) B (B+3) (by omega) (by omega)).mono (fun _ _ _ _ h=>h) (eQ o2)) Tryz.func70 (xb rfl rfl) hfr ?_;refine p1 (aQ (aC).2) ?_;refine RV.done ?_;refine CV.region rfl (fun h=>nomatch h) ?_;refine p1 (cP (c:=((k+1:Nat):Int)) (by rw[bV (by omega) (by omega)]; omega) rfl rfl bd rfl rfl) ?_;refine xm ?_;refine RV.done ?_;exact⟨⟨(k+1,e/wR ((p.getD k 0/e).den:Int)),hlt,o3⟩,aZ.mk ⟨aB _,aB _,aB _,aB _,aB _,aB _,aB _,aB _,aB _,aB _,trivial⟩ rfl rfl,by show p.length-(k+1)<p.length-k; omega⟩
 ·refine CV.exit ?_;refine CV.seq ?_;have hkp:k=p.length:=(by have:=of_decide_eq_false hc2; omega)
  rw[hkp,List.drop_length,gM] at hs;obtain rfl:=Option.some.inj hs;refine CV.region rfl (fun _=>by kernel_rfl) ?_;refine xm ?_;refine xd rfl ((pQ 1 1 (by decide) (by decide) (by decide) (by decide)).mono (fun _ _ _ _ h=>h) (vI e11)) Tryz.func74 (xb rfl rfl) hfr ?_;refine p1 (aJ aC) ?_;refine xd rfl ((pE 1 e 6 B (by omega) (by omega)).mono (fun _ _ _ _ h=>h) (eQ h1)) Tryz.func70 (xb rfl rfl) hfr ?_;refine xd rfl ((tK p (1/e) B B (by omega) (by omega) hp).mono (fun _ _ _ _ h=>h) (eR h2)) Tryz.func80 (xb rfl rfl) hfr ?_;refine p1 (aJ aC) ?_;refine p1 (aJ aC) ?_;refine xd rfl ((oG t e B B (by omega) (by omega)).mono (fun _ _ _ _ h=>h) (eQ h3)) Tryz.func62 (xb rfl rfl) hfr ?_;refine p1 (aRn rfl rfl bd rfl rfl) ?_;refine p1 (aQ (iW).2) ?_;refine bU (by kernel_rfl) ?_;refine CV.ret ?_;exact aS rfl (.inr rfl) ⟨_,_,_,_,_,rfl,rfl,rfl,iW⟩ cL
end
theorem aZr (B:Nat):∀ L ρ w v,(EL [] 0 0 0).is L ρ w v->(AV.one (EL [] B 0 B)).is L ρ w v:=by
 intro L ρ w v h w' hag;obtain⟨s,c,h1,h2,h3⟩:=h w' hag;obtain⟨x,y,k1,k2,k3,k4,k5⟩:=h3;exact⟨s,c,h1,h2,x,y,k1,k2,k3,Nat.le_trans k4 (Nat.zero_le _),Nat.le_trans k5 (Nat.zero_le _)⟩
theorem aQh (t:Rat) (K B:Nat):aD Tryz.prog 149 [PL [] B,RT t K] (.one (EL [] B 0 B)):=by
 refine aD.of (n:=40) Tryz.func149 rfl rfl rfl rfl rfl fun cx hfr=>?_;refine sr rfl ?_;refine p2 (cC (i:=0)) ?_;refine p2 (aU (i:=1) sE) ?_;refine RV.done ?_;refine CV.seq ?_;refine sr rfl ?_;refine xm ?_;refine p1 (bL (m:=0) rfl bE) ?_;refine p1 (cW) ?_;refine RV.done ?_;refine CV.cond rfl (fun hc=>?_) (fun hc=>False.elim (by revert hc; decide));refine sr rfl ?_;refine p1 (aRo rfl rfl bd) ?_;refine p1 (aQ (iW).2) ?_;refine RV.done ?_;refine CV.ret ?_;exact aS rfl (.inr rfl) ⟨_,_,_,_,_,rfl,rfl,rfl,iW⟩ (aZr B)
theorem aCt (p:List Rat) (t:Rat) (B:Nat) (R:List Rat) (T:Rat) (hB:B<=300000) (hp:p.length<=1000000) (h:gX B p t=some (R,T)):aD Tryz.prog 149 [PL p B,RT t B] (.one (EL R B T B)):=by
 unfold gX at h;split at h
 ·rename_i h0;subst h0;injection h with h;obtain⟨rfl,rfl⟩:=Prod.mk.inj h;exact aQh t B B
 ·rename_i h0;obtain⟨D,h1,h⟩:=Option.bind_eq_some_iff.1 h;split at h
  ·rename_i h2;rw[Bool.and_eq_true,Bool.and_eq_true] at h2;injection h with h;obtain⟨rfl,rfl⟩:=Prod.mk.inj h;exact aQg p t D B hB hp h0 h1 h2.1 h2.2.1 h2.2.2
  ·cases h
theorem aS2 {B n:Nat} {a f F:Rat} (h:mT B a (n+1) f=some F):aH [f*a] B=true/\mT B a n (f*a)=some F:=by
 rw[mT] at h;split at h
 ·rename_i h1;exact⟨h1,h⟩
 ·cases h
theorem aU8 {B:Nat} {a f F:Rat} (h:mT B a 0 f=some F):f=F:=by
 rw[mT] at h;exact Option.some.inj h
section
variable (p q U R0 R:List Rat) (s t f T:Rat) (B:Nat) (hB:B<=300000) (hp:p.length<=1000000) (hq:q.length<=1000000) (hr:R0.length<=1000000) (hq0:q≠[]) (h0:aH [(1:Rat)] B=true) (hf:mT B (eW (aG q)) (p.length+1-q.length) 1=some f) (h1:aH [-f] B=true) (h2:aH (aM p (-f)) B=true) (h3:aH [s/f] B=true) (h4:dK B (aM p (-f)) q=some (U,R0)) (h5:gX B R0 (s/f)=some (R,T))
include hB hp hq hr hq0 h0 hf h1 h2 h3 h4 h5
theorem aR5:aD Tryz.prog 151 [EL p B s B,EL q B t B] (.one (EL R B T B)):=by
 have e11:Rat.divInt 1 1=1:=by decide
 have hsl:=mF p (-f);obtain⟨N,hN⟩:∃ N,N=p.length+1-q.length:=⟨_,rfl⟩
 rw[<- hN] at hf;refine aD.of (n:=43) Tryz.func151 rfl rfl rfl rfl rfl fun cx hfr=>?_;refine sr rfl ?_;refine p2 (cC (i:=0)) ?_;refine p2 (cC (i:=1)) ?_;refine p2 (aU (i:=2) sE) ?_;refine RV.done (sr rfl ?_);refine xd rfl ((pQ 1 1 (by decide) (by decide) (by decide) (by decide)).mono (fun _ _ _ _ h=>h) (fun L ρ w v h=>eQ h0 L ρ w v (vI e11 L ρ w v h))) Tryz.func74 (xb rfl rfl) hfr ?_;refine p2 (aU (i:=3) cI) ?_;refine p1 (aQ (aC).2) ?_;refine RV.done ?_;refine CV.seq ?_;refine sr rfl ?_;refine p1 (bJ rC) ?_;refine p1 (bM 0 qZ dM) ?_;refine p1 (bL aV bE) ?_;refine p1 (bJ rC) ?_;refine p1 (bM 0 qZ dM) ?_;refine p1 (bL aV bE) ?_;refine p1 (dU (c:=(p.length:Int)-q.length) (bV (by omega) (by omega)) rfl rfl bd rfl rfl) ?_;refine p1 (cP (c:=(p.length:Int)-q.length+1) (bV (by omega) (by omega)) rfl rfl bd rfl rfl) ?_;refine xm ?_;refine RV.done ?_;refine CV.block ?_;refine CV.loop (X:={z:Nat × Rat // z.1<=N/\mT B (eW (aG q)) (N-z.1) z.2=some f}) (fun z=>[(.s 17,.av (.one (.v (.int .i64 (z.1.1:Int))))),(.s 16,.av (.one (.v (.int .i64 ((p.length:Int)-q.length+1))))),(.s 2,.av (.one (.ptr 0 0))),(.b 0,.blk 96 [(some 5,EL p B s B)]),(.s 3,.av (.one (.ptr 1 0))),(.b 1,.blk 96 [(some 5,EL q B t B)]),(.s 4,.av (.one (.ptr 2 0))),(.b 2,.blk 96 [(some 5,.v (.agg #[.slice none 0 0,.bool false,.slice none 0 0,.bool false,.slice none 0 0]))]),(.s 5,.av (.one (.ptr 3 0))),(.b 3,.blk 30 [(some 4,RT z.1.2 B)])]) (fun z=>N-z.1.1) ⟨(0,1),Nat.zero_le _,hf⟩ (aZ.mk ⟨aB _,aB _,aB _,aB _,aB _,aB _,aB _,aB _,aB _,aB _,trivial⟩ rfl rfl) (fun z=>?_);obtain⟨⟨k,e⟩,hk,hs⟩:=z;simp only at hk hs |-;refine sr rfl ?_;refine p1 (dP) ?_;refine RV.done ?_;refine CV.seq ?_;refine CV.cond rfl (fun hc=>?_) (fun hc=>?_)
 ·have hlt:k<N:=(by have:=of_decide_eq_true hc; omega)
  rw[show N-k=(N-(k+1))+1 by omega] at hs;obtain⟨o1,o2⟩:=aS2 hs;refine CV.skip ?_;refine CV.seq ?_;refine CV.block ?_;refine CV.region rfl (fun _=>by kernel_rfl) ?_;refine p1 (aJ aC) ?_;refine p1 (bJ rC) ?_;refine p1 (bM 0 qZ dM) ?_;refine xc (aDc q B hq hq0) Tryz.func71 (xa rfl) hfr ?_;refine xc (aCe _ _) Tryz.func69 (xa rfl) hfr ?_;refine xd rfl ((oG e (eW (aG q)) B B (by omega) (by omega)).mono (fun _ _ _ _ h=>h) (eQ o1)) Tryz.func62 (xb rfl rfl) hfr ?_;refine p1 (aQ (aC).2) ?_;refine bU (by kernel_rfl) ?_;refine CV.region rfl (fun h=>nomatch h) ?_;refine p1 (cP (c:=((k+1:Nat):Int)) (by rw[bV (by omega) (by omega)]; omega) rfl rfl bd rfl rfl) ?_;refine xm ?_;refine RV.done ?_;exact⟨⟨(k+1,e*eW (aG q)),hlt,o2⟩,aZ.mk ⟨aB _,aB _,aB _,aB _,aB _,aB _,aB _,aB _,aB _,aB _,trivial⟩ rfl rfl,by show N-(k+1)<N-k; omega⟩
 ·refine CV.exit ?_;refine CV.seq ?_;have hkN:k=N:=(by have:=of_decide_eq_false hc; omega)
  rw[hkN,Nat.sub_self] at hs;obtain rfl:=aU8 hs;refine CV.region rfl (fun _=>by kernel_rfl) ?_;refine p1 (bJ rC) ?_;refine p1 (bM 0 qZ dM) ?_;refine p1 (aJ aC) ?_;refine xc (xD _ _) Tryz.func121 (xa rfl) hfr ?_;refine xd rfl ((tK p (-e) B B (by omega) (by omega) hp).mono (fun _ _ _ _ h=>h) (eR h2)) Tryz.func80 (xb rfl rfl) hfr ?_;refine p1 (bJ rC) ?_;refine p1 (bM 0 qZ dM) ?_;refine xd rfl (aAi (aM p (-e)) q B hB (by omega) hq h4) Tryz.func203 (xb rfl rfl) hfr ?_;refine xm ?_;refine p1 (cO) ?_;refine p1 (cO) ?_;refine xn ?_;refine xn ?_;refine bU (by kernel_rfl) ?_;refine sr rfl ?_;refine xm ?_;refine p1 (bJ aOc) ?_;refine p1 (bM 1 aOb aC) ?_;refine p1 (aJ aC) ?_;refine xd rfl ((pE s e B B (by omega) (by omega)).mono (fun _ _ _ _ h=>h) (eQ h3)) Tryz.func70 (xb rfl rfl) hfr ?_;refine xc (aCt R0 (s/e) B R T hB hr h5) Tryz.func149 (xb rfl rfl) hfr ?_;refine p1 (aQ (iW).2) ?_;refine RV.done ?_;refine CV.ret ?_;exact aS rfl (.inr rfl) ⟨_,_,_,_,_,rfl,rfl,rfl,iW⟩ cL
end
theorem aT3 (p q R:List Rat) (s t T:Rat) (B:Nat) (hB:B<=300000) (hp:p.length<=1000000) (hq:q.length<=1000000) (hq0:q≠[]) (h0:aH [(1:Rat)] B=true) (h:oR B (p,s) (q,t)=some (R,T)) (hr:∀ U R0 f,dK B (aM p (-f)) q=some (U,R0)->R0.length<=1000000):aD Tryz.prog 151 [EL p B s B,EL q B t B] (.one (EL R B T B)):=by
 unfold oR at h;obtain⟨f,h1,h⟩:=Option.bind_eq_some_iff.1 h;split at h
 ·rename_i h2;rw[Bool.and_eq_true,Bool.and_eq_true] at h2;obtain⟨⟨U,R0⟩,h3,h⟩:=Option.bind_eq_some_iff.1 h;exact aR5 p q U R0 R s t f T B hB hp hq (hr U R0 f h3) hq0 h0 h1 h2.1 h2.2.1 h2.2.2 h3 h
 ·cases h
section
variable (p:List Rat) (K B k:Nat) (hp:p.length<=100000) (hK:K<=1000000) (hk:k<p.length-1)
include hp hk hK
end
section
variable (p:List Rat) (K B:Nat) (hp:p.length<=100000) (hK:K<=1000000)
include hp hK
end
theorem aTy:Rat.divInt (-1) 1 = -1:=by decide +kernel
theorem aW9 (p q:List Rat):eD p (aM q (Rat.divInt (-1) 1))=fJ p q:=lQ (cK _) (cK _) fun x=>by rw[fP,cD,lO,aTy]; grind
theorem aQi (q:List Rat) (a:Rat):(aM q a).length<=q.length:=mF q a
theorem aSt (p q:List Rat) (j K:Nat) (hj:j<=1000000) (hK:K<=300000) (hp:p.length<=1000000) (hq:q.length<=1000000):aD Tryz.prog 211 [PL p j,PL q K] (.one (PL (fJ p q) (3*(j+(3*(K+6)+20))+20))):=by
 have hsl:=aQi q (Rat.divInt (-1) 1);refine aD.of (n:=10) Tryz.func211 rfl rfl rfl rfl rfl fun cx hfr=>?_;refine sr rfl ?_;refine xn ?_;refine RV.done (sr rfl ?_);refine xm ?_;refine xm ?_;refine xd rfl (lK (-1) 1 (by decide) (by decide) (by decide) (by decide)) Tryz.func32 (xb rfl rfl) hfr ?_;refine xd rfl (aCj q (Rat.divInt (-1) 1) K 6 (by omega) (by decide) hq) Tryz.func165 (xb rfl rfl) hfr ?_;refine xd rfl (aI0 p (aM q (Rat.divInt (-1) 1)) j (3*(K+6)+20) hj (by omega) hp (by omega)) Tryz.func210 (xb rfl rfl) hfr ?_;refine xn ?_;refine RV.done ?_;refine CV.ret ?_;exact aS rfl (.inr rfl) rfl (lR (by rw[aW9]))
theorem aG8 (p:List Rat) (K:Nat) (hK:K<=1000000) (hp:p.length<=1000000):aD Tryz.prog 163 [PL p K] (.one (PL (bN p) (3*(K+6)+20))):=by
 refine aD.of (n:=23) Tryz.func163 rfl rfl rfl rfl rfl fun cx hfr=>?_;refine sr rfl ?_;refine xn ?_;refine RV.done (sr rfl ?_);refine xn ?_;refine RV.done ?_;refine CV.seq ?_;refine CV.seq ?_;refine oD 3 100 30 (some 4) rfl rfl rfl rfl ?_;refine CV.region rfl (fun h=>nomatch h) ?_;refine xn ?_;refine RV.done ?_;refine CV.block ?_;refine CV.loop (X:={k:Nat // k<=p.length-1}) (fun k=>[(.s 4,.av (.one (.v (.int .i64 ((k.1+1:Nat):Int))))),(.s 3,.av (.one (.sl 100 k.1))),(.b 100,.row 30 (some 4) (iN (fun i=>p.getD (i+1) 0*((i+1:Nat):Rat)) (3*(K+6)+20) k.1)),(.s 0,.av (.one (PL p K)))]) (fun k=>p.length-k.1) ⟨0,Nat.zero_le _⟩ (aZ.mk ⟨aB _,aB _,fC rfl,aB _,trivial⟩ rfl rfl) (fun k=>?_);obtain⟨k,hk⟩:=k;simp only;refine CV.seq ?_;refine sr rfl ?_;refine xm ?_;refine xm ?_;refine p1 (bL aV bE) ?_;refine p1 (dP) ?_;refine RV.done ?_;refine CV.cond rfl (fun hc=>?_) (fun hc=>?_)
 ·have hlt:k+1<p.length:=(by have:=of_decide_eq_true hc; omega)
  refine CV.skip ?_;refine CV.seq ?_;refine CV.block ?_;refine CV.region rfl (fun _=>by kernel_rfl) ?_;refine xm ?_;refine xm ?_;refine xm ?_;refine p1 (cV (k:=some 4) (i:=k+1) (dN hlt) bE cH) ?_;refine p1 (bT aC) ?_;refine xm ?_;refine xd rfl ((lK ((k+1:Nat):Int) 1 (by omega) (by omega) (by decide) (by decide)).mono (fun _ _ _ _ h=>h) (by rw[aId]; exact fun _ _ _ _ h=>h)) Tryz.func32 (xb rfl rfl) hfr ?_;refine xd rfl (aDe (p.getD (k+1) 0) ((k+1:Nat):Rat) K 6 hK (by decide)) Tryz.func124 (xb rfl rfl) hfr ?_;refine p1 (fH (G:=Dm.gen (cA (some 4) [_])) (cS _ _) bY mO rfl rfl rfl (by intro s hs; obtain rfl:=List.mem_singleton.1 hs; rfl) rfl rfl rfl bd (xa rfl)) ?_;refine gI (aN.plain (iR (r:=100) (r':=101) (gU (by decide) rfl) (by rw[iF]; show (k+1)*64<=_; omega) (by rw[iF]; show k+1<=_; omega) bY gL rfl rfl rfl (by intro x hx; obtain rfl:=List.mem_singleton.1 hx; rfl) iF.symm rfl rfl bd rfl rfl rfl rfl rfl rfl rfl rfl) rfl) ?_;refine xn ?_;refine bU (by kernel_rfl) ?_;refine CV.region rfl (fun h=>nomatch h) ?_;refine xm ?_;refine p1 (cP (c:=((k+1+1:Nat):Int)) (by rw[bV (by omega) (by omega)]; omega) rfl rfl bd rfl rfl) ?_;refine xn ?_;refine RV.done ?_;exact⟨⟨k+1,by omega⟩,kW (fun i=>if i=100 then 101 else i) ⟨gG,mK rfl rfl,fC (wM (f:=fun i=>p.getD (i+1) 0*((i+1:Nat):Rat))),gG,trivial⟩ rfl rfl rfl rfl,by show p.length-(k+1)<p.length-k; omega⟩
 ·refine CV.exit ?_;refine CV.seq ?_;have hk1:k=p.length-1:=(by have:=of_decide_eq_false hc; omega)
  subst hk1;rw[uB];refine jZ (r:=100) (t:=3) (G:=Dm.gen (cA (some 4) (bB (tab (fun i=>p.getD (i+1) 0*((i+1:Nat):Rat)) (p.length-1)) (3*(K+6)+20)))) (cx.bw hfr) rfl rfl (by rw[aV,gT]) rfl rfl (cS _ _) (iS _ _) ?_;refine CV.region rfl (fun h=>nomatch h) ?_;refine xm ?_;refine xd rfl (oA _ _ (by rw[gT]; omega)) Tryz.func66 (xa rfl) hfr ?_;refine xn ?_;refine RV.done ?_;refine CV.ret ?_;exact aS rfl (.inr rfl) rfl cL
theorem aPa (p:List Rat):aM p (Rat.divInt 1 1/p.getD (p.length-1) 0)=aY p:=by
 rw[aY,show (Rat.divInt 1 1)=1 by decide +kernel];rfl
theorem aQp (K B:Nat):aD Tryz.prog 209 [PL [] K] (.one (PL [] B)):=by
 refine aD.of (n:=16) Tryz.func209 rfl rfl rfl rfl rfl fun cx hfr=>?_;refine sr rfl ?_;refine xn ?_;refine RV.done ?_;refine CV.seq ?_;refine sr rfl ?_;refine xm ?_;refine p1 (bL aV bE) ?_;refine p1 (cW) ?_;refine RV.done ?_;refine CV.cond rfl (fun hc=>?_) (fun hc=>False.elim (by exact absurd hc (by decide)));refine sr rfl ?_;refine xn ?_;refine RV.done ?_;refine CV.ret ?_;exact aS rfl (.inr rfl) rfl (fun L ρ w v h=>oK L ρ w v h)
section
variable (p:List Rat) (K B:Nat) (hK:K<=100000) (hp:p.length<=1000000) (h0:p≠[]) (hs:aH (aY p) B=true)
include hK hp h0 hs
theorem aQo:aD Tryz.prog 209 [PL p K] (.one (PL (aY p) B)):=by
 have hpl:=List.length_pos_iff.2 h0;refine aD.of (n:=16) Tryz.func209 rfl rfl rfl rfl rfl fun cx hfr=>?_;refine sr rfl ?_;refine xn ?_;refine RV.done ?_;refine CV.seq ?_;refine sr rfl ?_;refine xm ?_;refine p1 (bL aV bE) ?_;refine p1 (cW) ?_;refine RV.done ?_;refine CV.cond rfl (fun hc=>False.elim (by rw[beq_iff_eq] at hc; omega)) (fun hc=>?_);refine CV.skip ?_;refine CV.seq ?_;refine CV.region rfl (fun _=>by kernel_rfl) ?_;refine xm ?_;refine xd rfl (lK 1 1 (by decide) (by decide) (by decide) (by decide)) Tryz.func32 (xb rfl rfl) hfr ?_;refine xm ?_;refine xm ?_;refine p1 (bL aV bE) ?_;refine p1 (dU (c:=((p.length-1:Nat):Int)) (by rw[bV (by omega) (by omega)]; omega) rfl rfl bd rfl rfl) ?_;refine p1 (cV (k:=some 4) (i:=p.length-1) (dN (by omega)) bE cH rfl rfl bd rfl rfl (by decide)) ?_;refine p1 (bT aC) ?_;refine xd rfl (aIv (Rat.divInt 1 1) (p.getD (p.length-1) 0) 6 K (by decide) (by omega)) Tryz.func90 (xb rfl rfl) hfr ?_;refine xd rfl ((aCj p (Rat.divInt 1 1/p.getD (p.length-1) 0) K (3*(6+K)+20) (by omega) (by omega) hp).mono (fun _ _ _ _ h=>h) (eR (B:=B) (by rw[aPa p]; exact hs))) Tryz.func165 (xb rfl rfl) hfr ?_;refine xn ?_;refine bU (by kernel_rfl) ?_;refine CV.ret ?_;exact aS rfl (.inr rfl) rfl (lR (by rw[aPa p]))
end
theorem yY (p:List Rat) (K B:Nat) (hK:K<=100000) (hp:p.length<=1000000) (hs:aH (aY p) B=true):aD Tryz.prog 209 [PL p K] (.one (PL (aY p) B)):=by
 by_cases h0:p=[]
 ·subst h0;exact aQp K B
 ·exact aQo p K B hK hp h0 hs
section
variable (p:List Rat) (x:Rat) (K Kx B:Nat) (hK:K<=100000) (hKx:Kx<=100000) (hB:B<=100000) (hp:p.length<=1000000) (hs:∀ k,k<=p.length->aH [rL p x k] B=true) (hw:∀ k,k<=p.length->aH [pw x k] B=true)
include hK hKx hB hp hs hw
end
section
variable (p:List Rat) (x:Rat) (K Kx B:Nat) (hK1:1<=K) (hKx1:1<=Kx) (hp:p.length<=1000) (hB:B<=300) (hK:K<=B) (hKx:Kx<=B) (hl:p.length<=20) (hpz:aH p K=true) (hxz:aH [x] Kx=true) (hs:∀ m,m<=p.length->aH (aY1 p x (lZ id m)) B=true)
include hK1 hKx1 hB hK hKx hl hpz hxz hs hp
end
/-! Div. -/
theorem aM4 {u:List (Option Rat)} {B:Nat} (h:aH (dA u) B=true) {s:Nat} {a:Rat} (ha:aH [a] B=true):aH (dA (u.set s (some a))) B=true:=by
 unfold dA at *;rw[List.map_set];exact aNo h ha
theorem aS6 {k:Nat} {m:Rat} (h:m≠0):aI (eM k [m])=eM k [m]:=by
 unfold eM;rw[rU,if_neg h]
theorem aD0 {k:Nat} {m:Rat}:(eM k [m]).length=k+1:=by simp[eM]
theorem aVc {k:Nat} {m:Rat} {B:Nat}:(List.replicate (k+1) (SA.v dX:SA Dm)).set k (RT m B)=List.replicate k (SA.v dX)++[RT m B]:=by
 rw[List.replicate_succ',List.set_append_right _ _ (by rw[List.length_replicate]; exact Nat.le_refl _),List.length_replicate,Nat.sub_self];rfl
theorem aXm {k:Nat} {m:Rat} {B:Nat}:∀ L ρ w v,(SA.d (Dm.gen (cA (some 4) (List.replicate k (SA.v dX)++[RT m B])))).is L ρ w v->(PL (eM k [m]) B).is L ρ w v:=by
 refine aFz ?_;have:∀ k:Nat,fW (fun s s':SA Dm=>∀ w v,s.at w v->s'.at w v) (List.replicate k (SA.v dX)++[RT m B]) (bB (eM k [m]) B):=by
  intro k
  induction k with
  | zero=>exact .cons (fun _ _ h=>h) .nil
  | succ k ih =>
   rw[List.replicate_succ,List.cons_append];show fW _ _ (bB (List.replicate (k+1) 0++[m]) B);rw[List.replicate_succ,List.cons_append];refine .cons (fun w v hv=>?_) ih;obtain rfl:v=dX:=hv;have h0:(aA (0:Int).natAbs).length<=B:=by rw[show (0:Int).natAbs=0 from rfl,gA]; exact Nat.zero_le _
   exact⟨_,_,rfl,aL.nil (by decide),aL.nil (by decide),h0,h0⟩
 exact this k
theorem aD7 {p q:List Rat} {i:Nat} (hz:p.getD i 0=0):∀ (j:Nat) (l:List Rat),(∀ k,l.getD k 0=0)->∀ k,(gZ p q i j l).getD k 0=0
 | 0,l,h,k=>h k
 | j+1,l,h,k=>by
  have ih:=aD7 (q:=q) hz j l h;rw[gZ,ih,hz,Rat.zero_mul,Rat.add_zero];rw[List.getD_eq_getElem?_getD,List.getElem?_set];have:=ih k;rw[List.getD_eq_getElem?_getD] at this;split
  ·split<;>rfl
  ·exact this
theorem aL5 {l:List Rat} {B:Nat} (h:∀ k,aH [l.getD k 0] B=true):aH l B=true:=qP fun a ha=>by
 obtain⟨i,hi,rfl⟩:=List.getElem_of_mem ha;have:=h i;rw[List.getD_eq_getElem?_getD,List.getElem?_eq_getElem hi] at this;exact this
theorem aDz {q:List Rat} {k:Nat} {m:Rat}:∀ i,i<=k->∀ j,(gP (eM k [m]) q i).getD j 0=0
 | 0,_,j=>by
  rw[gP,List.getD_eq_getElem?_getD,List.getElem?_replicate];split<;>rfl
 | i+1,h,j=>by
  rw[gP];exact aD7 (by rw[aAm,if_pos (by omega)]) _ _ (aDz i (by omega)) j
theorem aKn {q:List Rat} {k:Nat} {m:Rat} {C:Nat} (hC:∀ j,aH [m*q.getD j 0] C=true) (l:List Rat) (hl:∀ j,l.getD j 0=0):∀ j,j<=q.length->(∀ i,aH [(gZ (eM k [m]) q k j l).getD i 0] C=true)/\∀ i,k+j<=i->(gZ (eM k [m]) q k j l).getD i 0=0
 | 0,_=>⟨fun i=>by rw[gZ,hl]; exact qN,fun i _=>hl i⟩
 | j+1,h=>by
  obtain⟨h1,h2⟩:=aKn hC l hl j (by omega);have e:(eM k [m]).getD k 0=m:=by rw[aAm,if_neg (by omega),Nat.sub_self]; rfl
  rw[gZ,h2 (k+j) (Nat.le_refl _),Rat.zero_add,e];refine⟨fun i=>?_,fun i hi=>?_⟩
  ·rw[List.getD_eq_getElem?_getD,List.getElem?_set];split
   ·split
    ·exact hC j
    ·exact qN
   ·have:=h1 i;rw[List.getD_eq_getElem?_getD] at this;exact this
  ·rw[List.getD_eq_getElem?_getD,List.getElem?_set,if_neg (by omega),<- List.getD_eq_getElem?_getD];exact h2 i (by omega)
theorem aXn {q:List Rat} {k:Nat} {m:Rat} {C:Nat} (hC:∀ j,aH [m*q.getD j 0] C=true) (i j:Nat) (hi:i<(eM k [m]).length) (hj:j<=q.length):aH (gZ (eM k [m]) q i j (gP (eM k [m]) q i)) C=true:=by
 rw[aD0] at hi;refine aL5 fun n=>?_;by_cases h:i=k
 ·subst h;exact(aKn hC _ (aDz i (Nat.le_refl _)) j hj).1 n
 ·rw[aD7 (by rw[aAm,if_pos (by omega)]) _ _ (aDz i (by omega))];exact qN
theorem bAl {u:List (Option Rat)} {k:Nat} {m:Rat} (hk:k<u.length) (hn:u.getD k none=none):eD (aI (dA u)) (eM k [m])=aI (dA (u.set k (some m))):=by
 refine lQ (cK _) (cK _) fun x=>?_;rw[fP,kC,kC,aFd hk hn,xT,ev,ev];grind
theorem bAj {r q:List Rat} (hl:q.length<=r.length) (h0:0<q.length) (hq:aG q≠0):fJ r (kY (eM (r.length-q.length) [aG r/aG q]) q)=eB r q (aG r/aG q):=by
 refine lQ (cK _) (cK _) fun x=>?_;rw[lO,aM0,xT,ev,ev,aBe hl h0 (by rw[Rat.div_def,Rat.mul_assoc,Rat.inv_mul_cancel _ hq,Rat.mul_one])];grind
theorem aUu {p q:List Rat} (hp:p≠[]) (hq:q≠[]):aI (gP p q p.length)=kY p q:=by
 rw[kY,if_neg (by rintro(h | h); exact hp h; exact hq h)]
theorem aVf {u:List (Option Rat)}:(dA u).length=u.length:=by simp[dA]
theorem aUz {r q:List Rat} (hr:aG r≠0) (hq:aG q≠0):aG r/aG q≠0:=by
 rw[Rat.div_def];intro h;rcases Rat.mul_eq_zero.1 h with h | h
 ·exact hr h
 ·exact hq (by rw[<- Rat.inv_inv (aG q),h,Rat.inv_zero])
theorem aQq (p:List Rat) (K B:Nat):aD Tryz.prog 164 [PL p K,PL [] B] (.tup [PL [] B,PL [] B]):=by
 refine aD.of (n:=56) Tryz.func164 rfl rfl rfl rfl rfl fun cx hfr=>?_;refine sr rfl ?_;refine xn ?_;refine xn ?_;refine RV.done ?_;refine CV.seq ?_;refine sr rfl ?_;refine xm ?_;refine p1 (bL aV bE) ?_;refine p1 (cW) ?_;refine RV.done ?_;refine CV.cond rfl (fun hc=>?_) (fun hc=>False.elim (by exact absurd hc (by decide)));refine sr rfl ?_;refine xn ?_;refine xn ?_;refine RV.done ?_;refine CV.ret ?_;exact lS rfl (.inr rfl) rfl rfl (aAt oK oK)
section
variable (p q:List Rat) (B:Nat) (U:List (Option Rat)) (R:List Rat) (hB1:1<=B) (hB:B<=100000) (hp:p.length<=1000) (hq:q.length<=1000) (hq0:q≠[]) (tp:aI p=p) (tq:aI q=q) (hqz:aH q B=true) (h:iY B q (p.length+2) (List.replicate (p.length+1-q.length) none) p=some (U,R))
include hB1 hB hp hq hq0 tp tq hqz h
theorem aSz:aD Tryz.prog 164 [PL p B,PL q B] (.tup [PL (aI (dA U)) B,PL R B]):=by
 have hql:0<q.length:=List.length_pos_iff.2 hq0;have hlq:=eO tq hq0;have hnone:∀ i,(List.replicate (p.length+1-q.length) (none:Option Rat)).getD i none=none:=(fun i=>by rw[List.getD_eq_getElem?_getD,List.getElem?_replicate]; split<;>rfl)
 have hz0:aH (dA (List.replicate (p.length+1-q.length) none)) B=true:=aL5 fun k=>by rw[zL]; exact qN
 have ht0:aI (dA (List.replicate (p.length+1-q.length) none))=[]:=aD3 (zL _);refine aD.of (n:=56) Tryz.func164 rfl rfl rfl rfl rfl fun cx hfr=>?_;refine sr rfl ?_;refine xn ?_;refine xn ?_;refine RV.done ?_;refine CV.seq ?_;refine sr rfl ?_;refine xm ?_;refine p1 (bL aV bE) ?_;refine p1 (cW) ?_;refine RV.done ?_;refine CV.cond rfl (fun hc=>False.elim (by rw[beq_iff_eq] at hc; omega)) (fun hc=>?_);refine CV.skip ?_;refine sr rfl ?_;refine xn ?_;refine RV.done (sr rfl ?_);refine xm ?_;refine xn ?_;refine RV.done ?_;refine CV.seq ?_;refine CV.block ?_;refine CV.loop (X:={s:Nat × List (Option Rat) × List Rat // iY B q s.1 s.2.1 s.2.2=some (U,R)/\s.2.1.length=p.length+1-q.length/\s.2.2.length<=p.length/\aI s.2.2=s.2.2/\aH (dA s.2.1) B=true/\∀ i,i<=s.2.2.length-q.length->q.length<=s.2.2.length->s.2.1.getD i none=none}) (fun s=>[(.s 7,.av (.one (PL s.1.2.2 B))),(.s 6,.av (.one (PL (aI (dA s.1.2.1)) B))),(.s 1,.av (.one (PL q B)))]) (fun s=>s.1.2.2.length) ⟨(p.length+2,List.replicate (p.length+1-q.length) none,p),h,by rw[List.length_replicate],Nat.le_refl _,tp,hz0,fun i _ _=>hnone i⟩ (aZ.mk ⟨aB _,aAg rfl (fun L ρ w v h=>by show (PL (aI (dA (List.replicate (p.length+1-q.length) none))) B).is L ρ w v; rw[ht0]; exact oK L ρ w v h),aB _,trivial⟩ rfl rfl) (fun s=>?_);obtain⟨⟨n,u,r⟩,hs,hu,hr,tr,hz,hn⟩:=s;simp only at hs hu hr tr hz hn |-;refine CV.seq ?_;refine sr rfl ?_;refine xm ?_;refine p1 (bL aV bE) ?_;refine xm ?_;refine p1 (bL aV bE) ?_;refine p1 (qX) ?_;refine RV.done ?_;refine CV.cond rfl (fun hc=>?_) (fun hc=>?_)
 ·have hle:q.length<=r.length:=(by have:=of_decide_eq_true hc; omega)
  obtain⟨m,hs1,hs2,hs3⟩:=aJt hs hle;have hrl:=aAn r q (aG r/aG q);have hr0:r≠[]:=(fun e=>by rw[e,List.length_nil] at hle; omega)
  have hlr:=eO tr hr0;have hm0:=aUz hlr hlq;have hku:r.length-q.length<u.length:=(by omega)
  have hadd:=bAl (m:=aG r/aG q) hku (hn _ (Nat.le_refl _) hle);have hsub:=bAj hle hql hlq;have hpn:eM (r.length-q.length) [aG r/aG q]≠[]:=(fun e=>by have:=congrArg List.length e; rw[aD0] at this; cases this)
  have hmul:=aUu hpn hq0;have hrml:=aSo (eM (r.length-q.length) [aG r/aG q]) q;have hpl:=aD0 (k:=r.length-q.length) (m:=aG r/aG q);refine CV.skip ?_;refine CV.block ?_;refine sr rfl ?_;refine xm ?_;refine p1 (bL aV bE) ?_;refine xm ?_;refine p1 (bL aV bE) ?_;refine p1 (dU (c:=((r.length-q.length:Nat):Int)) (by rw[bV (by omega) (by omega)]; omega) rfl rfl bd rfl rfl) ?_;refine xn ?_;refine RV.done (sr rfl ?_);refine xm ?_;refine p1 (cP (c:=((r.length-q.length+1:Nat):Int)) (by rw[bV (by omega) (by omega)]; omega) rfl rfl bd rfl rfl) ?_;refine p2 (xI (r:=27) (Nat.le_refl _) (by omega) (by omega) bY gL rfl rfl rfl rfl bd rfl rfl rfl rfl rfl) ?_;refine xn ?_;refine RV.done ?_;refine CV.seq ?_;refine CV.region rfl (fun _=>by kernel_rfl) ?_;refine xm ?_;refine xm ?_;refine xm ?_;refine xm ?_;refine p1 (bL aV bE) ?_;refine p1 (dU (c:=((r.length-1:Nat):Int)) (by rw[bV (by omega) (by omega)]; omega) rfl rfl bd rfl rfl) ?_;refine p1 (cV (k:=some 4) (i:=r.length-1) (dN (by omega)) bE cH rfl rfl bd rfl rfl (by decide)) ?_;refine p1 (bT aC) ?_;refine xm ?_;refine xm ?_;refine p1 (bL aV bE) ?_;refine p1 (dU (c:=((q.length-1:Nat):Int)) (by rw[bV (by omega) (by omega)]; omega) rfl rfl bd rfl rfl) ?_;refine p1 (cV (k:=some 4) (i:=q.length-1) (dN (by omega)) bE cH rfl rfl bd rfl rfl (by decide)) ?_;refine p1 (bT aC) ?_;refine xd rfl ((aIv (aG r) (aG q) B B (by omega) (by omega)).mono (fun _ _ _ _ h=>h) (eQ hs1)) Tryz.func90 (xb rfl rfl) hfr ?_;refine p1 (mZ (i:=r.length-q.length) (by omega) (by rw[List.length_replicate]; omega) bY cH rfl rfl bd rfl rfl rfl) ?_;refine p1 (tQ (i:=r.length-q.length) (by rw[List.length_replicate]; omega) (by show 0<4; decide) cH (.inl rfl) rfl rfl rfl rfl rfl rfl rfl rfl rfl) ?_;refine bU (by kernel_rfl) ?_;refine CV.seq ?_;rw[aVc];refine jZ (r:=27) (t:=9) (G:=Dm.gen (cA (some 4) (List.replicate (r.length-q.length) (SA.v dX)++[RT (aG r/aG q) B]))) (cx.bw hfr) rfl rfl (by rw[List.length_append,List.length_replicate]; rfl) rfl rfl (cS _ _) (iS _ _) ?_;refine CV.region rfl (fun h=>nomatch h) ?_;refine xm ?_;refine xd rfl ((oA (eM (r.length-q.length) [aG r/aG q]) B (by omega)).mono (fun _ _ _ _ h=>h) (fun L ρ w v h=>by rw[aS6 hm0] at h; exact h)) Tryz.func66 (.cons rfl ⟨rfl,aXm⟩ .nil) hfr ?_;refine xn ?_;refine RV.done (sr rfl ?_);refine xm ?_;refine xm ?_;refine xd rfl ((aI0 (aI (dA u)) (eM (r.length-q.length) [aG r/aG q]) B B (by omega) (by omega) (by have:=mX (dA u); rw[aVf] at this; omega) (by omega)).mono (fun _ _ _ _ h=>h) (eR (B:=B) (by rw[hadd]; exact aW7 (aM4 hz hs1)))) Tryz.func210 (xb rfl rfl) hfr ?_;refine xn ?_;refine RV.done ?_;refine CV.region rfl (fun h=>nomatch h) ?_;refine xm ?_;refine xm ?_;refine xm ?_;refine xd rfl (aIz (eM (r.length-q.length) [aG r/aG q]) q B B (2*B) (by omega) (by omega) hpn hq0 (by omega) (by omega) (by omega) (aXn (fun j=>by rw[Nat.two_mul]; exact aFs hB1 hB1 hs1 (uP hqz j)))) Tryz.func67 (xb rfl rfl) hfr ?_;refine xd rfl ((aSt r (aI (gP (eM (r.length-q.length) [aG r/aG q]) q (eM (r.length-q.length) [aG r/aG q]).length)) B (2*B) (by omega) (by omega) (by omega) (by rw[hmul]; omega)).mono (fun _ _ _ _ h=>h) (eR (B:=B) (by rw[hmul,hsub]; exact hs2))) Tryz.func211 (xb rfl rfl) hfr ?_;refine xn ?_;refine RV.done ?_;exact⟨⟨(m,u.set (r.length-q.length) (some (aG r/aG q)),eB r q (aG r/aG q)),hs3,by rw[List.length_set]; exact hu,by show (eB r q (aG r/aG q)).length<=p.length; omega,zW _ _ _,aM4 hz hs1,fun i hi hi2=>by have hi:i<=(eB r q (aG r/aG q)).length-q.length:=hi; have hi2:q.length<=(eB r q (aG r/aG q)).length:=hi2; rw[uQ hku,if_neg (by omega)]; exact hn i (by omega) hle⟩,aZ.mk ⟨by rw[hmul,hsub]; exact aB _,by rw[hadd]; exact aB _,aB _,trivial⟩ rfl rfl,by show (eB r q (aG r/aG q)).length<r.length; omega⟩
 ·refine CV.exit ?_;refine CV.seq ?_;have hX:=aLh hs (by have:=of_decide_eq_false hc; omega);obtain⟨rfl,rfl⟩:U=u/\R=r:=(Prod.mk.inj hX)
  refine CV.region rfl (fun h=>nomatch h) ?_;refine xm ?_;refine xm ?_;refine xn ?_;refine xn ?_;refine RV.done ?_;refine CV.ret ?_;exact lS rfl (.inr rfl) rfl rfl (aAt (fun _ _ _ _ h=>h) (fun _ _ _ _ h=>h))
end
theorem aDg (p q:List Rat) (B:Nat) {U R:List Rat} (hB1:1<=B) (hB:B<=100000) (hp:p.length<=1000) (hq:q.length<=1000) (tp:aI p=p) (tq:aI q=q) (hqz:aH q B=true) (h:dK B p q=some (U,R)):aD Tryz.prog 164 [PL p B,PL q B] (.tup [PL (aI U) B,PL R B]):=by
 unfold dK at h;by_cases h0:q=[]
 ·rw[if_pos h0] at h;injection h with h;obtain⟨rfl,rfl⟩:=Prod.mk.inj h;subst h0;exact aQq p B B
 ·rw[if_neg h0] at h;obtain⟨⟨u,r⟩,h1,h2⟩:=Option.map_eq_some_iff.1 h;obtain⟨rfl,rfl⟩:=Prod.mk.inj h2;exact aSz p q B u r hB1 hB hp hq h0 tp tq hqz h1
theorem aRd {B n:Nat} {p q G:List Rat} (h:kF B n p q=some G) (hl:0<q.length):∃ m U R,dK B p q=some (U,R)/\aH (aY R) B=true/\R.length<q.length/\kF B m q (aY R)=some G:=by
 cases n with
 | zero=>cases h
 | succ n =>
  rw[kF,if_pos hl] at h;obtain⟨⟨U,R⟩,h1,h⟩:=Option.bind_eq_some_iff.1 h;split at h
  ·rename_i h3;rw[Bool.and_eq_true] at h3;exact⟨n,U,R,h1,h3.1,of_decide_eq_true h3.2,h⟩
  ·cases h
theorem aSq {B n:Nat} {p q G:List Rat} (h:kF B n p q=some G) (hl:¬ 0<q.length):G=p:=by
 cases n with
 | zero=>cases h
 | succ n =>
  rw[kF,if_neg hl] at h;injection h with h;exact h.symm
theorem aUv {B:Nat} {p q G:List Rat} (h:pV B p q=some G):aH (aY p) B=true/\aH (aY q) B=true/\kF B (p.length+q.length+3) (aY p) (aY q)=some G:=by
 unfold pV at h;split at h
 ·rename_i h3;rw[Bool.and_eq_true] at h3;exact⟨h3.1,h3.2,h⟩
 ·cases h
theorem aCx (p:List Rat):(aY p).length<=p.length:=mF _ _
theorem aCl (p:List Rat):aI (aY p)=aY p:=cK _
section
variable (p q G:List Rat) (B:Nat) (hB1:1<=B) (hB:B<=100000) (hp:p.length<=1000) (hq:q.length<=1000) (h:pV B p q=some G)
include hB1 hB hp hq h
theorem aSy:aD Tryz.prog 208 [PL p B,PL q B] (.one (PL G B)):=by
 obtain⟨z1,z2,h3⟩:=aUv h;have l1:=aCx p;have l2:=aCx q;refine aD.of (n:=26) Tryz.func208 rfl rfl rfl rfl rfl fun cx hfr=>?_;refine sr rfl ?_;refine xn ?_;refine RV.done (sr rfl ?_);refine xm ?_;refine xd rfl (yY p B B hB (by omega) z1) Tryz.func209 (xa rfl) hfr ?_;refine xn ?_;refine RV.done (sr rfl ?_);refine xm ?_;refine xd rfl (yY q B B hB (by omega) z2) Tryz.func209 (xa rfl) hfr ?_;refine xn ?_;refine RV.done ?_;refine CV.seq ?_;refine CV.block ?_;refine CV.loop (X:={s:Nat × List Rat × List Rat // kF B s.1 s.2.1 s.2.2=some G/\s.2.1.length<=1000/\s.2.2.length<=1000/\aI s.2.1=s.2.1/\aI s.2.2=s.2.2/\aH s.2.2 B=true}) (fun s=>[(.s 6,.av (.one (PL s.1.2.2 B))),(.s 5,.av (.one (PL s.1.2.1 B)))]) (fun s=>s.1.2.2.length) ⟨(p.length+q.length+3,aY p,aY q),h3,by show (aY p).length<=_; omega,by show (aY q).length<=_; omega,aCl p,aCl q,z2⟩ (aZ.mk ⟨aB _,aB _,trivial⟩ rfl rfl) (fun s=>?_);obtain⟨⟨n,a,b⟩,hs,ha,hb,ta,tb,zb⟩:=s;simp only at hs ha hb ta tb zb |-;refine CV.seq ?_;refine sr rfl ?_;refine xm ?_;refine p1 (bL aV bE) ?_;refine p1 (gC) ?_;refine RV.done ?_;refine CV.cond rfl (fun hc=>?_) (fun hc=>?_)
 ·have hlt:0<b.length:=(by have:=of_decide_eq_true hc; omega)
  obtain⟨m,U,R,o1,o2,o3,o4⟩:=aRd hs hlt;have o5:=aCx R;refine CV.skip ?_;refine CV.block ?_;refine sr rfl ?_;refine xm ?_;refine xm ?_;refine xc (aDg a b B hB1 hB ha hb ta tb zb o1) Tryz.func164 (xb rfl rfl) hfr ?_;refine xm ?_;refine p1 (cO) ?_;refine p1 (cO) ?_;refine xn ?_;refine xn ?_;refine RV.done (sr rfl ?_);refine xm ?_;refine xn ?_;refine RV.done ?_;refine CV.region rfl (fun h=>nomatch h) ?_;refine xm ?_;refine xd rfl (yY R B B hB (by omega) o2) Tryz.func209 (xa rfl) hfr ?_;refine xn ?_;refine RV.done ?_;exact⟨⟨(m,b,aY R),o4,hb,by show (aY R).length<=_; omega,tb,aCl R,o2⟩,aZ.mk ⟨aB _,aB _,trivial⟩ rfl rfl,by show (aY R).length<b.length; omega⟩
 ·refine CV.exit ?_;refine CV.seq ?_;have hX:=aSq hs (by have:=of_decide_eq_false hc; omega);subst hX;refine CV.region rfl (fun h=>nomatch h) ?_;refine xm ?_;refine xn ?_;refine RV.done ?_;refine CV.ret ?_;exact aS rfl (.inr rfl) rfl cL
end
section
variable (p G U R:List Rat) (B:Nat) (hB1:1<=B) (hB:B<=100000) (hp:p.length<=1000) (tp:aI p=p) (h0:aH (bN p) B=true) (h1:pV B p (bN p)=some G) (tG:aI G=G) (hG:G.length<=1000) (zG:aH G B=true) (h2:dK B p G=some (U,R)) (tU:aI U=U) (hU:U.length<=1000) (hm:aH (aY U) B=true)
include hB1 hB hp tp h0 h1 tG hG zG h2 tU hU hm
theorem aRk:aD Tryz.prog 162 [PL p B] (.one (PL (aY U) B)):=by
 have hdl:(bN p).length<=p.length-1:=(by unfold bN; exact Nat.le_trans (mX _) (by rw[gT]; exact Nat.le_refl _))
 refine aD.of (n:=16) Tryz.func162 rfl rfl rfl rfl rfl fun cx hfr=>?_;refine sr rfl ?_;refine xn ?_;refine RV.done (sr rfl ?_);refine xm ?_;refine xm ?_;refine xm ?_;refine xd rfl ((aG8 p B (by omega) (by omega)).mono (fun _ _ _ _ h=>h) (eR h0)) Tryz.func163 (xa rfl) hfr ?_;refine xd rfl (aSy p (bN p) G B hB1 hB hp (by omega) h1) Tryz.func208 (xb rfl rfl) hfr ?_;refine xc (aDg p G B hB1 hB hp hG tp tG zG h2) Tryz.func164 (xb rfl rfl) hfr ?_;refine xm ?_;refine p1 (cO) ?_;refine p1 (cO) ?_;refine xn ?_;refine xn ?_;refine RV.done ?_;refine CV.seq ?_;rw[tU];refine CV.region rfl (fun h=>nomatch h) ?_;refine xm ?_;refine xd rfl (yY U B B hB (by omega) hm) Tryz.func209 (xa rfl) hfr ?_;refine xn ?_;refine RV.done ?_;refine CV.ret ?_;exact aS rfl (.inr rfl) rfl cL
end
end Vc
end Go.Proofs.YtbaihklbefhgdaaGreat

namespace Go.Proofs.YtbaihklbefhgdaaGreat
open Go.RowKit
open Dg Zn
namespace Vc
section
variable {cx:Cx Dm} {n:Nat} {σ:St Dm} {o:Oper} {d:Nat} {x:Operand}
end
end Vc
end Go.Proofs.YtbaihklbefhgdaaGreat

namespace Go.Proofs.YtbaihklbefhgdaaGreat
open Go.RowKit
open Go.Lib (hid)
open Dg Zn
namespace Vc
def bAo (p q:Int):Bool:=decide (q=0\/(0<=q/\q≠1/\Int.gcd p q=1))
section
variable (f g:Nat->Int) (K n m:Nat) (hK:K<=1000000) (hn:n<=1000000) (hm:m<n) (hbad:bAo (f m) (g m)=false)
include hK hn hm hbad
end
theorem aVt {zs:List Int}:∀ L ρ w v,(SA.d (Dm.ints zs)).is L ρ w v->(ZI .i64 zs).is L ρ w v:=by
 intro L ρ w v h w' hw;obtain⟨_,ao,cap,e,h1,h2,h3⟩:=h w' hw;refine⟨ao,cap,by rw[wE]; exact e,by rw[wE]; exact⟨h1,h2⟩,fun hl=>?_⟩;rw[wE] at hl;obtain⟨b,off,e2,h4⟩:=h3 hl;refine⟨b,off,e2,_,aLz,fun j u hj=>?_⟩;obtain⟨hj1,hj2⟩:=List.getElem?_eq_some_iff.1 hj;rw[List.length_map] at hj1;rw[h4 j hj1,<- hj2,List.getElem_map,List.getD_eq_getElem?_getD,List.getElem?_eq_getElem hj1];rfl
section
variable (zs:List Int) (hz:∀ z∈zs,-9223372036854775808<=z/\z<=9223372036854775807) (c:Int) (hc1 : -9223372036854775808<=c) (hc2:c<=9223372036854775807)
include hz hc1 hc2
end
end Vc
end Go.Proofs.YtbaihklbefhgdaaGreat

namespace Go.Proofs.YtbaihklbefhgdaaGreat
open Go.RowKit
open Dg Zn
namespace Vc
/-! The reference's polynomials are small. -/
theorem aUq (z:Int):∃ y:Int,cE z*((12:Int):Rat)=(y:Rat)/\y.natAbs<=2^7:=by
 obtain⟨⟨a1,a2⟩,_,b1,b2⟩:=small_facts z;unfold cE;have ha:((dT z 105).tmod 15-7).natAbs<=8:=by omega
 generalize (dT z 105).tmod 15-7=a at ha |-;generalize ((dT z 105).tdiv 15).tmod 4=b at b1 b2 |-;have key:∀ d e:Int,d*e=12->d≠0->e.natAbs<=12->∃ y:Int,Rat.divInt a d*((12:Int):Rat)=(y:Rat)/\y.natAbs<=2^7:=fun d e h1 h2 h3=>by
  refine⟨a*e,?_,?_⟩
  ·rw[Rat.divInt_eq_div,Rat.div_def,<- h1,Rat.intCast_mul,Rat.intCast_mul];have:=Rat.mul_inv_cancel _ (nD h2);grind
  ·rw[Int.natAbs_mul];exact Nat.le_trans (Nat.mul_le_mul ha h3) (by decide)
 rcases (by omega:b=0\/b=1\/b=2\/b=3) with rfl | rfl | rfl | rfl
 ·exact key 1 12 rfl (by decide) (by decide)
 ·exact key 2 6 rfl (by decide) (by decide)
 ·exact key 3 4 rfl (by decide) (by decide)
 ·exact key 4 3 rfl (by decide) (by decide)
/-! Polynomials with the bits of their numbers and their length. -/
structure Pk (p:List Rat) (e n:Nat):Prop where
 cb:Cb p e
 tr:aI p=p
 len:p.length<=n
theorem Pk.sz {p:List Rat} {e n B:Nat} (h:Pk p e n) (hB:1<=B) (he:e<=29*B):aH p B=true:=h.cb.sz hB he
theorem Pk.mono {p:List Rat} {e n e' n':Nat} (h:Pk p e n) (he:e<=e') (hn:n<=n'):Pk p e' n':=⟨h.cb.mono he,h.tr,Nat.le_trans h.len hn⟩
theorem aZn:eE (-1) 0:=⟨-1,1,by decide,by rw[mI]; rfl,by decide,by decide⟩
theorem aVm (p q:List Rat):(bD p q).length<=p.length+q.length-1:=by
 unfold bD;refine Nat.le_trans (mX _) ?_;rw[gT];exact Nat.le_refl _
theorem Pk.mul {p q:List Rat} {c d n m:Nat} (t:Nat) (hp:Pk p c n) (hq:Pk q d m) (ht:n+m<=2^t):Pk (bD p q) (c+d+t) (n+m-1):=by
 have h1:=aVm p q;have h2:=hp.len;have h3:=hq.len;exact⟨hp.cb.mul hq.cb (by omega),cK _,by omega⟩
theorem wB (p:List Rat):(bN p).length<=p.length-1:=by
 unfold bN;exact Nat.le_trans (mX _) (by rw[gT]; exact Nat.le_refl _)
theorem Pk.derive {p:List Rat} {c n:Nat} (t:Nat) (hp:Pk p c n) (ht:n<=2^t):Pk (bN p) (c+t) (n-1):=by
 have h1:=wB p;have h2:=hp.len;exact⟨hp.cb.derive (by omega),cK _,by omega⟩
theorem aXd (p q:List Rat):kY p q=bD p q:=lQ (aRb p q) (cK _) fun x=>by rw[aM0,cM]
/-! Contracts. -/
section
variable {p q:List Rat} {c d n m:Nat}
end
end Vc
end Go.Proofs.YtbaihklbefhgdaaGreat

namespace Go.Proofs.YtbaihklbefhgdaaGreat
open Go.RowKit
open Go.Lib (hid)
open Dg Zn
namespace Vc
set_option maxRecDepth 100000
theorem aJu {B:Nat} {q:List Rat}:∀ {n:Nat} {u:List (Option Rat)} {r:List Rat} {X:List (Option Rat) × List Rat},iY B q n u r=some X->X.2.length<q.length
 | 0,_,_,_,h=>nomatch h
 | n+1,u,r,X,h=>by
  rw[iY] at h;split at h
  ·split at h
   ·exact aJu h
   ·cases h
  ·rename_i hl;injection h with h;subst h;show r.length<q.length;omega
theorem aJs {B:Nat} {p q U R:List Rat} (h:dK B p q=some (U,R)) (h0:q≠[]):R.length<q.length:=by
 unfold dK at h;rw[if_neg h0] at h;obtain⟨X,h1,h2⟩:=Option.map_eq_some_iff.1 h;obtain⟨_,rfl⟩:=Prod.mk.inj h2;exact aJu h1
theorem aDw {B:Nat} {p R:List Rat} {t T:Rat} (h:gX B p t=some (R,T)):R.length<=p.length:=by
 unfold gX at h;split at h
 ·rename_i h0;injection h with h;obtain⟨rfl,_⟩:=Prod.mk.inj h;exact Nat.zero_le _
 ·obtain⟨D,_,h⟩:=Option.bind_eq_some_iff.1 h;split at h
  ·injection h with h;obtain⟨rfl,_⟩:=Prod.mk.inj h;exact mF _ _
  ·cases h
theorem aWl {B:Nat} {a b z:List Rat × Rat} (h:oR B a b=some z) (h0:b.1≠[]):z.1.length<b.1.length:=by
 unfold oR at h;obtain⟨f,_,h⟩:=Option.bind_eq_some_iff.1 h;split at h
 ·obtain⟨⟨U,R0⟩,h3,h⟩:=Option.bind_eq_some_iff.1 h;have h1:=aJs h3 h0;have h2:=aDw (R:=z.1) (T:=z.2) h;show z.1.length<_;exact Nat.lt_of_le_of_lt h2 h1
 ·cases h
theorem aT4 {B:Nat} {a b z:List Rat × Rat} (hB:B<=300000) (hp:a.1.length<=1000000) (hq:b.1.length<=1000000) (hq0:b.1≠[]) (h0:aH [(1:Rat)] B=true) (h:oR B a b=some z):aD Tryz.prog 151 [EL a.1 B a.2 B,EL b.1 B b.2 B] (.one (EL z.1 B z.2 B)) :=
 aT3 a.1 b.1 z.1 a.2 b.2 z.2 B hB hp hq hq0 h0 h fun U R0 f q=>by
  have:=aJs q hq0;omega
def lA (B:Nat):Nat->List (List Rat × Rat)->List Rat × Rat->Option (List (List Rat × Rat))
 | 0,_,_=>none
 | n+1,l,nx=>if 0<nx.1.length then (oR B (l.getD (l.length-1) ([],0)) nx).bind fun z=>lA B n (l++[nx]) z else some l
theorem aV8 {B n:Nat} {l R:List (List Rat × Rat)} {nx:List Rat × Rat} (h:lA B n l nx=some R) (hl:0<nx.1.length):∃ m z,oR B (l.getD (l.length-1) ([],0)) nx=some z/\lA B m (l++[nx]) z=some R:=by
 cases n with
 | zero=>cases h
 | succ n =>
  rw[lA,if_pos hl] at h;obtain⟨z,h1,h2⟩:=Option.bind_eq_some_iff.1 h;exact⟨n,z,h1,h2⟩
theorem aYb {B n:Nat} {l R:List (List Rat × Rat)} {nx:List Rat × Rat} (h:lA B n l nx=some R) (hl:¬ 0<nx.1.length):R=l:=by
 cases n with
 | zero=>cases h
 | succ n =>
  rw[lA,if_neg hl] at h;injection h with h;exact h.symm
def gF (l:List (List Rat × Rat)) (B:Nat):List (SA Dm):=l.map fun e=>EL e.1 B e.2 B
abbrev vS (l:List (List Rat × Rat)) (B:Nat):SA Dm:=.d (Dm.gen (cA (some 5) (gF l B)))
theorem nX {l:List (List Rat × Rat)} {B:Nat}:(gF l B).length=l.length:=by simp[gF]
theorem aF9 {l:List (List Rat × Rat)} {B i:Nat} (h:i<l.length):(gF l B)[i]?=some (EL (l.getD i ([],0)).1 B (l.getD i ([],0)).2 B):=by
 simp[gF,List.getD_eq_getElem?_getD,List.getElem?_eq_getElem h]
theorem aEe {l:List (List Rat × Rat)} {B:Nat}:(gF l B).flatMap SA.ptrs=[]:=by
 rw[List.flatMap_eq_nil_iff];intro s hs;obtain⟨e,_,rfl⟩:=List.mem_map.1 hs;rfl
theorem aC5 {l m:List (List Rat × Rat)} {B:Nat}:gF (l++m) B=gF l B++gF m B:=by simp[gF]
theorem aJq {l:List (List Rat × Rat)} {B:Nat}:∀ s∈gF l B,s.plain=true:=by
 intro s hs;obtain⟨e,_,rfl⟩:=List.mem_map.1 hs;rfl
theorem aLd {l:List (List Rat × Rat)} {B:Nat}:∀ s∈gF l B,s.kind=some (some 5):=by
 intro s hs;obtain⟨e,_,rfl⟩:=List.mem_map.1 hs;rfl
theorem aOu:(Tryz.prog.info? 96).map (fun i=>(i.size,i.zero))=some (5,some (.agg #[.slice none 0 0,.bool false,.slice none 0 0,.bool false,.slice none 0 0])):=by kernel_rfl
theorem aZl:(Tryz.prog.info? 96).map (fun i=>(i.zero,i.size,i.bytes))=some (some (.agg #[.slice none 0 0,.bool false,.slice none 0 0,.bool false,.slice none 0 0]),5,88):=by kernel_rfl
def aBw (l:List (List Rat × Rat)):Prop:=0<l.length/\∀ e∈l,e.1.length<=1000
theorem aTw {l:List (List Rat × Rat)} (h:aBw l):(l.getD (l.length-1) ([],0)).1.length<=1000:=by
 have h0:=h.1;refine h.2 _ ?_;rw[List.getD_eq_getElem?_getD,List.getElem?_eq_getElem (by omega)];exact List.getElem_mem _
theorem aTv {l:List (List Rat × Rat)} {e:List Rat × Rat} (h:aBw l) (he:e.1.length<=1000):aBw (l++[e]):=by
 refine⟨by rw[List.length_append]; have:=h.1; omega,fun x hx=>?_⟩;rcases List.mem_append.1 hx with q | q
 ·exact h.2 x q
 ·rw[List.mem_singleton.1 q]; exact he
section
variable (p F:List Rat) (a b:List Rat × Rat) (L:List (List Rat × Rat)) (B n:Nat) (hB:B<=300000) (hp:p.length<=1000000) (hF:kI B p=some F) (hl:F.length<=1000) (hF0:F≠[]) (h0:aH [(1:Rat)] B=true) (h1:gX B F 1=some a) (h2:aH (bN F) B=true) (h3:gX B (bN F) 1=some b) (h4:lA B n [a] b=some L)
include hB hp hF hl hF0 h0 h1 h2 h3 h4
theorem aP1:aD Tryz.prog 79 [PL p B] (.one (vS L B)):=by
 have e11:Rat.divInt 1 1=1:=by decide
 have hFl:=List.length_pos_iff.2 hF0;have hdl:=wB F;have hal:a.1.length<=1000:=(by have:=aDw (R:=a.1) (T:=a.2) h1; omega)
 have hbl:b.1.length<=1000:=(by have:=aDw (R:=b.1) (T:=b.2) h3; omega)
 refine aD.of (n:=39) Tryz.func79 rfl rfl rfl rfl rfl fun cx hfr=>?_;refine sr rfl ?_;refine xn ?_;refine RV.done (sr rfl ?_);refine xm ?_;refine xc (aDr p F B hB hp hF) Tryz.func148 (xa rfl) hfr ?_;refine xn ?_;refine RV.done ?_;refine CV.seq ?_;refine sr rfl ?_;refine xm ?_;refine p1 (bL aV bE) ?_;refine p1 (cW) ?_;refine RV.done ?_;refine CV.cond rfl (fun hc=>False.elim (by have:=of_decide_eq_true hc; omega)) (fun hc=>?_);refine CV.skip ?_;refine sr rfl ?_;refine xd rfl ((pQ 1 1 (by decide) (by decide) (by decide) (by decide)).mono (fun _ _ _ _ h=>h) (fun L ρ w v h=>eQ h0 L ρ w v (vI e11 L ρ w v h))) Tryz.func74 (xb rfl rfl) hfr ?_;refine p2 (aU (i:=0) cI) ?_;refine p1 (aQ (aC).2) ?_;refine RV.done (sr rfl ?_);refine xm ?_;refine p1 (aJ aC) ?_;refine xd rfl (aCt F 1 B a.1 a.2 hB (by omega) h1) Tryz.func149 (xb rfl rfl) hfr ?_;refine p2 (aMi (r:=200) (k:=some 5) (xs:=[.tmp 15]) (ss:=gF [a] B) pU aOu rfl rfl rfl aLd aJq aEe rfl rfl bd (xa rfl) rfl rfl) ?_;refine xn ?_;refine RV.done ?_;refine CV.seq ?_;refine CV.seq ?_;refine CV.region rfl (fun _=>by kernel_rfl) ?_;refine xm ?_;refine xd rfl ((aHl F B (by omega) (by omega)).mono (fun _ _ _ _ h=>h) (eR h2)) Tryz.func150 (xa rfl) hfr ?_;refine p1 (aJ aC) ?_;refine xd rfl (aCt (bN F) 1 B b.1 b.2 hB (by omega) h3) Tryz.func149 (xb rfl rfl) hfr ?_;refine p2 (aU (i:=1) sE) ?_;refine p1 (aQ (iW).2) ?_;refine bU (by kernel_rfl) ?_;refine CV.block ?_;refine CV.loop (X:={z:Nat × List (List Rat × Rat) × (List Rat × Rat) // lA B z.1 z.2.1 z.2.2=some L/\aBw z.2.1/\z.2.2.1.length<=1000/\z.2.1.length+z.2.2.1.length<=1001}) (fun z=>[(.s 5,.av (.one (.sl 200 (gF z.1.2.1 B).length))),(.b 200,.row 96 (some 5) (gF z.1.2.1 B)),(.s 6,.av (.one (.ptr 1 0))),(.b 1,.blk 96 [(some 5,EL z.1.2.2.1 B z.1.2.2.2 B)])]) (fun z=>z.1.2.2.1.length) ⟨(n,[a],b),h4,⟨Nat.zero_lt_succ _,fun e he=>by rw[List.mem_singleton.1 he]; exact hal⟩,hbl,by show 1+b.1.length<=1001; omega⟩ (aZ.mk ⟨aB _,aB _,aB _,aB _,trivial⟩ rfl rfl) (fun z=>?_);obtain⟨⟨n,l,nx⟩,hs,hok,hnx,hln⟩:=z;simp only at hs hok hnx hln |-;refine CV.seq ?_;refine sr rfl ?_;refine p1 (bJ rC) ?_;refine p1 (bM 0 qZ dM) ?_;refine p1 (bL aV bE) ?_;refine p1 (gC) ?_;refine RV.done ?_;refine CV.cond rfl (fun hc=>?_) (fun hc=>?_)
 ·have hlt:0<nx.1.length:=(by have:=of_decide_eq_true hc; omega)
  have hn0:=List.length_pos_iff.1 hlt;obtain⟨m,z,o1,o2⟩:=aV8 hs hlt;have hzl:=aWl o1 hn0;have hok0:=hok.1;have hla:=aTw hok;have eg:(l++[nx]).getD (l.length-1) ([],0)=l.getD (l.length-1) ([],0):=(by simp only[List.getD_eq_getElem?_getD]; rw[List.getElem?_append_left (by omega)])
  refine CV.skip ?_;refine CV.seq ?_;refine CV.block ?_;refine CV.region rfl (fun h=>nomatch h) ?_;refine xm ?_;refine p1 (aJ iW) ?_;refine p1 (fH (k:=some 5) (xs:=[.tmp 34]) (ss:=gF [nx] B) (G:=Dm.gen (cA (some 5) (gF [nx] B))) (cS _ _) pU aOu rfl rfl rfl aLd aEe rfl rfl bd (xa rfl)) ?_;refine gI (aN.plain (iR (r:=200) (r':=201) (k:=some 5) (gU (by decide) aEe) (by rw[nX,nX]; simp; omega) (by rw[nX,nX]; simp; omega) pU aZl rfl rfl rfl aJq rfl rfl rfl bd rfl rfl rfl rfl rfl rfl rfl rfl) rfl) ?_;refine xn ?_;refine RV.done ?_;refine CV.seq ?_;refine sr rfl ?_;refine p1 (aJ iW) ?_;refine RV.done ?_;refine CV.region rfl (fun h=>nomatch h) ?_;refine p2 (aU (i:=2) sE) ?_;refine p1 (aQ (iW).2) ?_;refine RV.done ?_;refine CV.region rfl (fun _=>by kernel_rfl) ?_;refine xm ?_;refine xm ?_;refine p1 (mY pU) ?_;refine p1 (dU (c:=((l.length-1:Nat):Int)) (by rw[nX,nX,List.length_singleton,bV (by omega) (by omega)]; omega) rfl rfl bd rfl rfl) ?_;refine p1 (mZ (i:=l.length-1) (m:=(gF l B).length+(gF [nx] B).length) (l:=gF l B++gF [nx] B) (by rw[nX,nX]; omega) (by rw[List.length_append]; exact Nat.le_refl _) pU aGh rfl rfl bd rfl rfl rfl) ?_;refine p1 (uH (i:=l.length-1) (by rw[<- aC5]; exact aF9 (by rw[List.length_append]; omega)) rfl iW (by decide) rfl rfl bd rfl rfl) ?_;refine p1 (aJ iW) ?_;refine xd rfl (aT4 (a:=(l++[nx]).getD (l.length-1) ([],0)) hB (by rw[eg]; omega) (by omega) hn0 h0 (by rw[eg]; exact o1)) Tryz.func151 (xb rfl rfl) hfr ?_;refine p1 (aQ (iW).2) ?_;refine bU (by kernel_rfl) ?_;exact⟨⟨(m,l++[nx],z),o2,aTv hok hnx,by show z.1.length<=1000; omega,by show (l++[nx]).length+z.1.length<=1001; rw[List.length_append]; show l.length+1+z.1.length<=1001; omega⟩,kW (fun i=>if i=200 then 201 else if i=1 then 2 else i) ⟨mK rfl (by rw[aC5,List.length_append]),fC aC5.symm,fun _ _ _ _ h=>h,⟨rfl,fun _ _ _ _ h=>h⟩,trivial⟩ rfl rfl rfl rfl,hzl⟩
 ·refine CV.exit ?_;refine CV.seq ?_;have hL:=aYb hs (by have:=of_decide_eq_false hc; omega);subst hL;refine jZ (r:=200) (t:=5) (G:=Dm.gen (cA (some 5) (gF L B))) (cx.bw hfr) rfl rfl rfl rfl rfl (cS _ _) (iS _ _) ?_;refine CV.region rfl (fun h=>nomatch h) ?_;refine xm ?_;refine xn ?_;refine RV.done ?_;refine CV.ret ?_;exact aS rfl (.inr rfl) rfl cL
end
theorem aXw {B:Nat}:∀ (L:Nat->Prop) (ρ:aR) (w:World) (v:Value),(SA.v (.slice none 0 0):SA Dm).is L ρ w v->(AV.one (vS [] B)).is L ρ w v:=by
 intro L ρ w v h w' _;obtain rfl:v=_:=h;exact⟨none,0,rfl,⟨Nat.le_refl _,by decide⟩,fun h=>absurd h (Nat.lt_irrefl 0)⟩
theorem aP2 (p:List Rat) (B:Nat) (hB:B<=300000) (hp:p.length<=1000000) (hF:kI B p=some []):aD Tryz.prog 79 [PL p B] (.one (vS [] B)):=by
 refine aD.of (n:=39) Tryz.func79 rfl rfl rfl rfl rfl fun cx hfr=>?_;refine sr rfl ?_;refine xn ?_;refine RV.done (sr rfl ?_);refine xm ?_;refine xc (aDr p [] B hB hp hF) Tryz.func148 (xa rfl) hfr ?_;refine xn ?_;refine RV.done ?_;refine CV.seq ?_;refine sr rfl ?_;refine xm ?_;refine p1 (bL (m:=0) rfl bE) ?_;refine p1 (cW) ?_;refine RV.done ?_;refine CV.cond rfl (fun hc=>?_) (fun hc=>False.elim (by revert hc; decide));refine sr rfl ?_;refine xn ?_;refine RV.done ?_;refine CV.ret ?_;exact aS rfl (.inr rfl) rfl aXw
def lY (B:Nat) (p:List Rat):Option (List (List Rat × Rat)) :=
 (kI B p).bind fun F=>if F=[] then some [] else if (aH [(1:Rat)] B&&(aH (bN F) B&&decide (F.length<=1000)))=true then (gX B F 1).bind fun a=>(gX B (bN F) 1).bind fun b=>lA B (F.length+2) [a] b else none
theorem aHb (p:List Rat) (L:List (List Rat × Rat)) (B:Nat) (hB:B<=300000) (hp:p.length<=1000000) (h:lY B p=some L):aD Tryz.prog 79 [PL p B] (.one (vS L B)):=by
 unfold lY at h;obtain⟨F,h1,h⟩:=Option.bind_eq_some_iff.1 h;split at h
 ·rename_i h0;injection h with h;subst h0; subst h;exact aP2 p B hB hp h1
 ·rename_i h0;split at h
  ·rename_i h2;rw[Bool.and_eq_true,Bool.and_eq_true,decide_eq_true_eq] at h2;obtain⟨a,h3,h⟩:=Option.bind_eq_some_iff.1 h;obtain⟨b,h4,h⟩:=Option.bind_eq_some_iff.1 h;exact aP1 p F a b L B (F.length+2) hB hp h1 h2.2.2 h0 h2.1 h3 h2.2.1 h4 h
  ·cases h
/-! Lists of polynomials. -/
def eC (l:List (List Rat)) (B:Nat):List (SA Dm):=l.map fun p=>PL p B
abbrev jV (l:List (List Rat)) (B:Nat):SA Dm:=.d (Dm.gen (cA none (eC l B)))
theorem jE {l:List (List Rat)} {B:Nat}:(eC l B).length=l.length:=by simp[eC]
theorem aE4 {l:List (List Rat)} {B i:Nat} (h:i<l.length):(eC l B)[i]?=some (PL (l.getD i []) B):=by
 simp[eC,List.getD_eq_getElem?_getD,List.getElem?_eq_getElem h]
theorem qL {l:List (List Rat)} {B:Nat}:(eC l B).flatMap SA.ptrs=[]:=by
 rw[List.flatMap_eq_nil_iff];intro s hs;obtain⟨e,_,rfl⟩:=List.mem_map.1 hs;rfl
theorem sZ {l m:List (List Rat)} {B:Nat}:eC (l++m) B=eC l B++eC m B:=by simp[eC]
theorem zD {l:List (List Rat)} {B:Nat}:∀ s∈eC l B,s.plain=true:=by
 intro s hs;obtain⟨e,_,rfl⟩:=List.mem_map.1 hs;rfl
theorem wN {l:List (List Rat)} {B:Nat}:∀ s∈eC l B,s.kind=some none:=by
 intro s hs;obtain⟨e,_,rfl⟩:=List.mem_map.1 hs;rfl
theorem kA:Tryz.prog.underlying 36=some (.slice 24):=by kernel_rfl
theorem xF:(Tryz.prog.info? 24).map (fun i=>(i.size,i.zero))=some (1,some (.slice none 0 0)):=by kernel_rfl
theorem aD8:(Tryz.prog.info? 24).map (fun i=>(i.zero,i.size,i.bytes))=some (some (.slice none 0 0),1,24):=by kernel_rfl
theorem zA {α β:Type} (f:α -> β) (l:List α) {k:Nat} (h:k<l.length) (d:α):(l.take k).map f++[f (l.getD k d)]=(l.take (k+1)).map f:=by
 rw[List.take_add_one,List.map_append,List.getElem?_eq_getElem h,List.getD_eq_getElem?_getD,List.getElem?_eq_getElem h];rfl
theorem aIs (p:List Rat) (L:List (List Rat × Rat)) (B:Nat) (hB:B<=300000) (hp:p.length<=1000000) (h:lY B p=some L) (hL:L.length<=1000000):aD Tryz.prog 82 [PL p B] (.one (jV (L.map (·.1)) B)):=by
 refine aD.of (n:=20) Tryz.func82 rfl rfl rfl rfl rfl fun cx hfr=>?_;refine sr rfl ?_;refine xn ?_;refine RV.done (sr rfl ?_);refine xn ?_;refine RV.done ?_;refine CV.seq ?_;refine CV.seq ?_;refine oD 3 100 24 none rfl rfl rfl rfl ?_;refine CV.region rfl (fun h=>nomatch h) ?_;refine xm ?_;refine xc (aHb p L B hB hp h) Tryz.func79 (xa rfl) hfr ?_;refine p1 (bL nX pU) ?_;refine xm ?_;refine RV.done ?_;refine CV.block ?_;refine CV.loop (X:={k:Nat // k<=L.length}) (fun k=>[(.s 9,.av (.one (.v (.int .i64 (k.1:Int))))),(.s 8,.av (.one (.v (.int .i64 (L.length:Int))))),(.s 7,.av (.one (vS L B))),(.s 3,.av (.one (.sl 100 (eC ((L.take k.1).map (·.1)) B).length))),(.b 100,.row 24 none (eC ((L.take k.1).map (·.1)) B))]) (fun k=>L.length-k.1) ⟨0,Nat.zero_le _⟩ (aZ.mk ⟨aB _,aB _,aB _,aB _,aB _,trivial⟩ rfl rfl) (fun k=>?_);obtain⟨k,hk⟩:=k;simp only;refine sr rfl ?_;refine p1 (dP) ?_;refine RV.done ?_;refine CV.seq ?_;refine CV.cond rfl (fun hc=>?_) (fun hc=>?_)
 ·have hlt:k<L.length:=(by have:=of_decide_eq_true hc; omega)
  refine CV.skip ?_;refine CV.seq ?_;refine CV.block ?_;refine sr rfl ?_;refine p1 (cV (k:=some 5) (i:=k) (aF9 hlt) pU aGh) ?_;refine p1 (bT iW) ?_;refine p2 (aU (i:=0) sE) ?_;refine p1 (aQ (iW).2) ?_;refine RV.done ?_;refine CV.region rfl (fun h=>nomatch h) ?_;refine xm ?_;refine p1 (bJ rC) ?_;refine p1 (bM 0 qZ dM) ?_;refine p1 (fH (k:=none) (xs:=[.tmp 15]) (ss:=eC [(L.getD k ([],0)).1] B) (G:=Dm.gen (cA none (eC [(L.getD k ([],0)).1] B))) (cS _ _) kA xF rfl rfl rfl wN qL rfl rfl bd (xa rfl)) ?_;refine gI (aN.plain (iR (r:=100) (r':=101) (k:=none) (gU (by decide) qL) (by rw[jE,jE,List.length_map,List.length_take]; simp; omega) (by rw[jE,jE,List.length_map,List.length_take]; simp; omega) kA aD8 rfl rfl rfl zD rfl rfl rfl bd rfl rfl rfl rfl rfl rfl rfl rfl) rfl) ?_;refine xn ?_;refine RV.done ?_;refine CV.region rfl (fun h=>nomatch h) ?_;refine p1 (cP (c:=((k+1:Nat):Int)) (by rw[bV (by omega) (by omega)]; omega) rfl rfl bd rfl rfl) ?_;refine xm ?_;refine RV.done ?_;exact⟨⟨k+1,hlt⟩,kW (fun i=>if i=100 then 101 else i) ⟨gG,gG,fun _ _ _ _ h=>h,mK rfl (by rw[<- zA _ _ hlt ([],0),sZ,List.length_append]),fC (by rw[<- zA _ _ hlt ([],0),sZ]),trivial⟩ rfl rfl rfl rfl,by show L.length-(k+1)<L.length-k; omega⟩
 ·refine CV.exit ?_;refine CV.seq ?_;have hk2:k=L.length:=(by have:=of_decide_eq_false hc; omega)
  subst hk2;rw[List.take_length];refine jZ (r:=100) (t:=3) (G:=Dm.gen (cA none (eC (L.map (·.1)) B))) (cx.bw hfr) rfl rfl rfl rfl rfl (cS _ _) (iS _ _) ?_;refine CV.region rfl (fun h=>nomatch h) ?_;refine xm ?_;refine xn ?_;refine RV.done ?_;refine CV.ret ?_;exact aS rfl (.inr rfl) rfl cL
theorem aJ3 (p:List Rat) (L:List (List Rat × Rat)) (B:Nat) (hB:B<=300000) (hp:p.length<=1000000) (h:lY B p=some L) (hL:L.length<=1000000) (hl:∀ e∈L,e.1.length<=1000000) (hz:∀ e∈L,aH (aM e.1 e.2) B=true):aD Tryz.prog 19 [PL p B] (.one (jV (L.map fun e=>aM e.1 e.2) B)):=by
 refine aD.of (n:=23) Tryz.func19 rfl rfl rfl rfl rfl fun cx hfr=>?_;refine sr rfl ?_;refine xn ?_;refine RV.done (sr rfl ?_);refine xn ?_;refine RV.done ?_;refine CV.seq ?_;refine CV.seq ?_;refine oD 3 100 24 none rfl rfl rfl rfl ?_;refine CV.region rfl (fun h=>nomatch h) ?_;refine xm ?_;refine xc (aHb p L B hB hp h) Tryz.func79 (xa rfl) hfr ?_;refine p1 (bL nX pU) ?_;refine xm ?_;refine RV.done ?_;refine CV.block ?_;refine CV.loop (X:={k:Nat // k<=L.length}) (fun k=>[(.s 9,.av (.one (.v (.int .i64 (k.1:Int))))),(.s 8,.av (.one (.v (.int .i64 (L.length:Int))))),(.s 7,.av (.one (vS L B))),(.s 3,.av (.one (.sl 100 (eC ((L.take k.1).map fun e=>aM e.1 e.2) B).length))),(.b 100,.row 24 none (eC ((L.take k.1).map fun e=>aM e.1 e.2) B))]) (fun k=>L.length-k.1) ⟨0,Nat.zero_le _⟩ (aZ.mk ⟨aB _,aB _,aB _,aB _,aB _,trivial⟩ rfl rfl) (fun k=>?_);obtain⟨k,hk⟩:=k;simp only;refine sr rfl ?_;refine p1 (dP) ?_;refine RV.done ?_;refine CV.seq ?_;refine CV.cond rfl (fun hc=>?_) (fun hc=>?_)
 ·have hlt:k<L.length:=(by have:=of_decide_eq_true hc; omega)
  have hmem:L.getD k ([],0)∈L:=(by rw[List.getD_eq_getElem?_getD,List.getElem?_eq_getElem hlt]; exact List.getElem_mem _)
  refine CV.skip ?_;refine CV.seq ?_;refine CV.block ?_;refine sr rfl ?_;refine p1 (cV (k:=some 5) (i:=k) (aF9 hlt) pU aGh) ?_;refine p1 (bT iW) ?_;refine p2 (aU (i:=0) sE) ?_;refine p1 (aQ (iW).2) ?_;refine RV.done ?_;refine CV.region rfl (fun h=>nomatch h) ?_;refine xm ?_;refine p1 (bJ rC) ?_;refine p1 (bM 0 qZ dM) ?_;refine p1 (bJ aOc) ?_;refine p1 (bM 1 aOb aC) ?_;refine xd rfl ((tK (L.getD k ([],0)).1 (L.getD k ([],0)).2 B B (by omega) (by omega) (hl _ hmem)).mono (fun _ _ _ _ h=>h) (eR (hz _ hmem))) Tryz.func80 (xb rfl rfl) hfr ?_;refine p1 (fH (k:=none) (xs:=[.tmp 18]) (ss:=eC [aM (L.getD k ([],0)).1 (L.getD k ([],0)).2] B) (G:=Dm.gen (cA none (eC [aM (L.getD k ([],0)).1 (L.getD k ([],0)).2] B))) (cS _ _) kA xF rfl rfl rfl wN qL rfl rfl bd (xa rfl)) ?_;refine gI (aN.plain (iR (r:=100) (r':=101) (k:=none) (gU (by decide) qL) (by rw[jE,jE,List.length_map,List.length_take]; simp; omega) (by rw[jE,jE,List.length_map,List.length_take]; simp; omega) kA aD8 rfl rfl rfl zD rfl rfl rfl bd rfl rfl rfl rfl rfl rfl rfl rfl) rfl) ?_;refine xn ?_;refine RV.done ?_;refine CV.region rfl (fun h=>nomatch h) ?_;refine p1 (cP (c:=((k+1:Nat):Int)) (by rw[bV (by omega) (by omega)]; omega) rfl rfl bd rfl rfl) ?_;refine xm ?_;refine RV.done ?_;exact⟨⟨k+1,hlt⟩,kW (fun i=>if i=100 then 101 else i) ⟨gG,gG,fun _ _ _ _ h=>h,mK rfl (by rw[<- zA (fun e:List Rat × Rat=>aM e.1 e.2) _ hlt ([],0),sZ,List.length_append]),fC (by rw[<- zA (fun e:List Rat × Rat=>aM e.1 e.2) _ hlt ([],0),sZ]),trivial⟩ rfl rfl rfl rfl,by show L.length-(k+1)<L.length-k; omega⟩
 ·refine CV.exit ?_;refine CV.seq ?_;have hk2:k=L.length:=(by have:=of_decide_eq_false hc; omega)
  subst hk2;rw[List.take_length];refine jZ (r:=100) (t:=3) (G:=Dm.gen (cA none (eC (L.map fun e=>aM e.1 e.2) B))) (cx.bw hfr) rfl rfl rfl rfl rfl (cS _ _) (iS _ _) ?_;refine CV.region rfl (fun h=>nomatch h) ?_;refine xm ?_;refine xn ?_;refine RV.done ?_;refine CV.ret ?_;exact aS rfl (.inr rfl) rfl cL
def bP (a:Rat):Int:=bA a.num 0
theorem aA7 (a:Rat) : -1<=bP a/\bP a<=1:=by
 unfold bP bA;split
 ·omega
 ·split<;>omega
theorem wW (p:List Rat) (x:Rat) (K Kx:Nat) (hp:p.length<=1000000) (hK:K<=1000000) (hKx:Kx<=1000000) (hK1:1<=K) (hKx1:1<=Kx) (hpz:aH p K=true) (hxz:aH [x] Kx=true) (hbd:iD K Kx p.length<=1000000):aD Tryz.prog 81 [PL p K,RT x Kx] (.one (.v (.int .i64 (bP (ev p x))))):=by
 refine aD.of (n:=9) Tryz.func81 rfl rfl rfl rfl rfl fun cx hfr=>?_;refine sr rfl ?_;refine p2 (cC (i:=0)) ?_;refine xn ?_;refine RV.done (sr rfl ?_);refine xm ?_;refine p1 (aJ aC) ?_;refine xc (aUb p x K Kx hp hK hKx hK1 hKx1 hpz hxz hbd) Tryz.func153 (xb rfl rfl) hfr ?_;refine xc (zO _ _) Tryz.func64 (xa rfl) hfr ?_;refine xn ?_;refine RV.done ?_;refine CV.ret ?_;rw[aX7];exact aS rfl (.inr rfl) rfl cL
def gD (x:Rat):List (List Rat)->Int × Int->Int × Int
 | [],s=>s
 | p::l,s=>gD x l (if bP (ev p x)*s.2<0 then s.1+1 else s.1,if bP (ev p x)≠0 then bP (ev p x) else s.2)
def bC (x:Rat) (l:List (List Rat)):Int:=(gD x l (0,0)).1
theorem aTx {l:List (List Rat)} {k:Nat} (h:k<l.length):l.drop k=l.getD k []::l.drop (k+1):=by
 rw[List.drop_eq_getElem_cons h];simp[List.getD_eq_getElem?_getD,List.getElem?_eq_getElem h]
theorem aY2 {a b:Int} (ha : -1<=a/\a<=1) (hb : -1<=b/\b<=1) : -1<=a*b/\a*b<=1:=by
 rcases (by omega:a = -1\/a=0\/a=1) with rfl | rfl | rfl<;>omega
def fM (l:List (List Rat)) (x:Rat) (K Kx:Nat):Prop:=K<=1000000/\Kx<=1000000/\1<=K/\1<=Kx/\aH [x] Kx=true/\∀ p∈l,p.length<=1000000/\aH p K=true/\iD K Kx p.length<=1000000
theorem tB (l:List (List Rat)) (x:Rat) (K Kx:Nat) (hl:l.length<=1000000) (hE:fM l x K Kx):aD Tryz.prog 20 [jV l K,RT x Kx] (.one (.v (.int .i64 (bC x l)))):=by
 obtain⟨hK,hKx,hK1,hKx1,hxz,hall⟩:=hE;have hR:gD x (l.drop 0) (0,0)=gD x l (0,0):=by rw[List.drop_zero]
 refine aD.of (n:=30) Tryz.func20 rfl rfl rfl rfl rfl fun cx hfr=>?_;refine sr rfl ?_;refine p2 (cC (i:=0)) ?_;refine xn ?_;refine RV.done (sr rfl ?_);refine xn ?_;refine xn ?_;refine RV.done ?_;refine CV.seq ?_;refine sr rfl ?_;refine xm ?_;refine p1 (bL jE kA) ?_;refine xm ?_;refine RV.done ?_;refine CV.block ?_;refine CV.loop (X:={z:Nat × Int × Int // z.1<=l.length/\gD x (l.drop z.1) z.2=gD x l (0,0)/\(0<=z.2.1/\z.2.1<=z.1)/\(-1<=z.2.2/\z.2.2<=1)}) (fun z=>[(.s 12,.av (.one (.v (.int .i64 (z.1.1:Int))))),(.s 11,.av (.one (.v (.int .i64 (l.length:Int))))),(.s 10,.av (.one (jV l K))),(.s 5,.av (.one (.v (.int .i64 z.1.2.1)))),(.s 6,.av (.one (.v (.int .i64 z.1.2.2)))),(.s 3,.av (.one (.ptr 0 0))),(.b 0,.blk 30 [(some 4,RT x Kx)])]) (fun z=>l.length-z.1.1) ⟨(0,0,0),Nat.zero_le _,hR,by decide,by decide⟩ (aZ.mk ⟨aB _,aB _,aB _,aB _,aB _,aB _,aB _,trivial⟩ rfl rfl) (fun z=>?_);obtain⟨⟨k,n,b⟩,hk,hs,hn,hb1⟩:=z;simp only at hk hs hn hb1 |-;refine sr rfl ?_;refine p1 (dP) ?_;refine RV.done ?_;refine CV.seq ?_;refine CV.cond rfl (fun hc=>?_) (fun hc=>?_)
 ·have hlt:k<l.length:=(by have:=of_decide_eq_true hc; omega)
  have hmem:l.getD k []∈l:=(by rw[List.getD_eq_getElem?_getD,List.getElem?_eq_getElem hlt]; exact List.getElem_mem _)
  obtain⟨q1,q2,q3⟩:=hall _ hmem;rw[aTx hlt,gD] at hs;have hg:=aA7 (ev (l.getD k []) x);have hm:=aY2 hg hb1;simp only at hs;refine CV.skip ?_;refine CV.seq ?_;refine CV.block ?_;refine sr rfl ?_;refine p1 (cV (k:=none) (i:=k) (aE4 hlt) kA wU) ?_;refine p1 (bT dM) ?_;refine xn ?_;refine RV.done (sr rfl ?_);refine xm ?_;refine p1 (aJ aC) ?_;refine xc (wW (l.getD k []) x K Kx q1 hK hKx hK1 hKx1 q2 hxz q3) Tryz.func81 (xb rfl rfl) hfr ?_;refine xn ?_;refine RV.done ?_;refine CV.seq ?_;refine sr rfl ?_;refine xm ?_;refine xm ?_;refine p1 (aZf (c:=bP (ev (l.getD k []) x)*b) (bV (by omega) (by omega)) rfl rfl bd rfl rfl) ?_;refine p1 (dP) ?_;refine RV.done ?_;refine CV.cond rfl (fun hx1=>?_) (fun hx1=>?_)
  ·refine CV.region rfl (fun h=>nomatch h) ?_;refine xm ?_;refine p1 (cP (c:=n+1) (bV (by omega) (by omega)) rfl rfl bd rfl rfl) ?_;refine xn ?_;refine RV.done (sr rfl ?_);refine xm ?_;refine p1 (pT) ?_;refine RV.done ?_;refine CV.cond rfl (fun hx2=>?_) (fun hx2=>?_)
   ·refine CV.region rfl (fun h=>nomatch h) ?_;refine xm ?_;refine xn ?_;refine RV.done ?_;refine CV.region rfl (fun h=>nomatch h) ?_;refine p1 (cP (c:=((k+1:Nat):Int)) (by rw[bV (by omega) (by omega)]; omega) rfl rfl bd rfl rfl) ?_;refine xm ?_;refine RV.done ?_;have h1:=of_decide_eq_true hx1;have h2:bP (ev (l.getD k []) x)≠0:=(by simpa using hx2)
    rw[if_pos h1,if_pos h2] at hs;exact⟨⟨(k+1,n+1,bP (ev (l.getD k []) x)),hlt,hs,⟨by show 0<=n+1; omega,by show n+1<=((k+1:Nat):Int); omega⟩,hg⟩,aZ.mk ⟨aB _,aB _,aB _,aB _,aB _,aB _,aB _,trivial⟩ rfl rfl,by show l.length-(k+1)<l.length-k; omega⟩
   ·refine CV.skip ?_;refine CV.region rfl (fun h=>nomatch h) ?_;refine p1 (cP (c:=((k+1:Nat):Int)) (by rw[bV (by omega) (by omega)]; omega) rfl rfl bd rfl rfl) ?_;refine xm ?_;refine RV.done ?_;have h1:=of_decide_eq_true hx1;have h2:¬ bP (ev (l.getD k []) x)≠0:=(by simpa using hx2)
    rw[if_pos h1,if_neg h2] at hs;exact⟨⟨(k+1,n+1,b),hlt,hs,⟨by show 0<=n+1; omega,by show n+1<=((k+1:Nat):Int); omega⟩,hb1⟩,aZ.mk ⟨aB _,aB _,aB _,aB _,aB _,aB _,aB _,trivial⟩ rfl rfl,by show l.length-(k+1)<l.length-k; omega⟩
  ·refine CV.skip ?_;refine sr rfl ?_;refine xm ?_;refine p1 (pT) ?_;refine RV.done ?_;refine CV.cond rfl (fun hx2=>?_) (fun hx2=>?_)
   ·refine CV.region rfl (fun h=>nomatch h) ?_;refine xm ?_;refine xn ?_;refine RV.done ?_;refine CV.region rfl (fun h=>nomatch h) ?_;refine p1 (cP (c:=((k+1:Nat):Int)) (by rw[bV (by omega) (by omega)]; omega) rfl rfl bd rfl rfl) ?_;refine xm ?_;refine RV.done ?_;have h1:=of_decide_eq_false hx1;have h2:bP (ev (l.getD k []) x)≠0:=(by simpa using hx2)
    rw[if_neg h1,if_pos h2] at hs;exact⟨⟨(k+1,n,bP (ev (l.getD k []) x)),hlt,hs,⟨hn.1,by show n<=((k+1:Nat):Int); omega⟩,hg⟩,aZ.mk ⟨aB _,aB _,aB _,aB _,aB _,aB _,aB _,trivial⟩ rfl rfl,by show l.length-(k+1)<l.length-k; omega⟩
   ·refine CV.skip ?_;refine CV.region rfl (fun h=>nomatch h) ?_;refine p1 (cP (c:=((k+1:Nat):Int)) (by rw[bV (by omega) (by omega)]; omega) rfl rfl bd rfl rfl) ?_;refine xm ?_;refine RV.done ?_;have h1:=of_decide_eq_false hx1;have h2:¬ bP (ev (l.getD k []) x)≠0:=(by simpa using hx2)
    rw[if_neg h1,if_neg h2] at hs;exact⟨⟨(k+1,n,b),hlt,hs,⟨hn.1,by show n<=((k+1:Nat):Int); omega⟩,hb1⟩,aZ.mk ⟨aB _,aB _,aB _,aB _,aB _,aB _,aB _,trivial⟩ rfl rfl,by show l.length-(k+1)<l.length-k; omega⟩
 ·refine CV.exit ?_;refine CV.seq ?_;have hk2:k=l.length:=(by have:=of_decide_eq_false hc; omega)
  rw[hk2,List.drop_length,gD] at hs;have hn2:n=bC x l:=(by rw[bC,<- hs])
  rw[hn2];refine CV.region rfl (fun h=>nomatch h) ?_;refine xm ?_;refine xn ?_;refine RV.done ?_;refine CV.ret ?_;exact aS rfl (.inr rfl) rfl cL
theorem aNc (x:Rat):∀ (l:List (List Rat)) (s:Int × Int),s.1<=(gD x l s).1/\(gD x l s).1<=s.1+l.length
 | [],s=>by rw[gD]; exact⟨Int.le_refl _,by simp⟩
 | p::l,s=>by
  rw[gD];obtain⟨A,hA⟩:∃ A,A=(if bP (ev p x)*s.2<0 then s.1+1 else s.1):=⟨_,rfl⟩
  rw[<- hA];have h:=aNc x l (A,if bP (ev p x)≠0 then bP (ev p x) else s.2);have h1:s.1<=A/\A<=s.1+1:=by rw[hA]; split<;>omega
  generalize (gD x l (A,if bP (ev p x)≠0 then bP (ev p x) else s.2)).1=C at h |-;have h2:A<=C/\C<=A+l.length:=h;rw[List.length_cons];omega
theorem lM (x:Rat) (l:List (List Rat)):0<=bC x l/\bC x l<=l.length:=by
 have:=aNc x l (0,0);simp only at this;unfold bC;omega
def fV (l:List (List Rat)) (lo hi:Rat):Int:=if eV lo hi >= 0 then 0 else bC lo l-bC hi l
theorem zP (p:List Rat) (L:List (List Rat × Rat)) (lo hi:Rat) (B K:Nat) (hB:B<=300000) (hp:p.length<=1000000) (h:lY B p=some L) (hL:L.length<=1000000) (h1:fM (L.map (·.1)) lo B K) (h2:fM (L.map (·.1)) hi B K):aD Tryz.prog 21 [PL p B,RT lo K,RT hi K] (.one (.v (.int .i64 (fV (L.map (·.1)) lo hi)))):=by
 have hll:(L.map (·.1)).length<=1000000:=by rw[List.length_map]; exact hL
 have b1:=lM lo (L.map (·.1));have b2:=lM hi (L.map (·.1));have hK7:=h1.2.1;refine aD.of (n:=21) Tryz.func21 rfl rfl rfl rfl rfl fun cx hfr=>?_;refine sr rfl ?_;refine p2 (cC (i:=0)) ?_;refine p2 (cC (i:=1)) ?_;refine xn ?_;refine RV.done ?_;refine CV.seq ?_;refine sr rfl ?_;refine p1 (aJ aC) ?_;refine p1 (aJ aC) ?_;refine xd rfl (aCg lo hi K K (by omega) (by omega)) Tryz.func72 (xb rfl rfl) hfr ?_;refine p1 (qX) ?_;refine RV.done ?_;refine CV.cond rfl (fun hc=>?_) (fun hc=>?_)
 ·refine sr rfl ?_;refine xn ?_;refine RV.done ?_;refine CV.ret ?_;rw[fV,if_pos (of_decide_eq_true hc)];exact aS rfl (.inr rfl) rfl cL
 ·refine CV.skip ?_;refine sr rfl ?_;refine xm ?_;refine xc (aIs p L B hB hp h hL) Tryz.func82 (xa rfl) hfr ?_;refine xn ?_;refine RV.done ?_;refine CV.seq ?_;refine CV.region rfl (fun _=>by kernel_rfl) ?_;refine xm ?_;refine p1 (aJ aC) ?_;refine xc (tB (L.map (·.1)) lo B K hll h1) Tryz.func20 (xb rfl rfl) hfr ?_;refine xm ?_;refine p1 (aJ aC) ?_;refine xc (tB (L.map (·.1)) hi B K hll h2) Tryz.func20 (xb rfl rfl) hfr ?_;refine p1 (dU (c:=bC lo (L.map (·.1))-bC hi (L.map (·.1))) (bV (by omega) (by omega)) rfl rfl bd rfl rfl) ?_;refine xn ?_;refine bU (by kernel_rfl) ?_;refine CV.ret ?_;rw[fV,if_neg (of_decide_eq_false hc)];exact aS rfl (.inr rfl) rfl cL
theorem aCy (lo hi:Rat) (j k:Nat) (hj:j<=1000000) (hk:k<=1000000):aD Tryz.prog 94 [RT lo j,RT hi k] (.one (RT ((lo+hi)*Rat.divInt 1 2) (3*(3*(j+k)+20+6)+20))):=by
 refine aD.of (n:=10) Tryz.func94 rfl rfl rfl rfl rfl fun cx hfr=>?_;refine sr rfl ?_;refine p2 (cC (i:=0)) ?_;refine p2 (cC (i:=1)) ?_;refine p2 (aU (i:=2) cI) ?_;refine RV.done (sr rfl ?_);refine p1 (aJ aC) ?_;refine p1 (aJ aC) ?_;refine xd rfl (xE lo hi j k (by omega) (by omega)) Tryz.func73 (xb rfl rfl) hfr ?_;refine xd rfl (pQ 1 2 (by decide) (by decide) (by decide) (by decide)) Tryz.func74 (xb rfl rfl) hfr ?_;refine xd rfl (oG (lo+hi) (Rat.divInt 1 2) (3*(j+k)+20) 6 (by omega) (by omega)) Tryz.func62 (xb rfl rfl) hfr ?_;refine p1 (aQ (aC).2) ?_;refine RV.done ?_;refine CV.ret ?_;exact aS rfl (.inr rfl) ⟨_,_,_,_,_,rfl,rfl,rfl,aC⟩ cL
end Vc
end Go.Proofs.YtbaihklbefhgdaaGreat

namespace Go.Proofs.YtbaihklbefhgdaaGreat
open Go.RowKit
open Dg Zn
namespace Vc
inductive nS:List Rat->List Rat->List (List Rat)->Prop
 | nil (a:List Rat):nS a [] []
 | cons {a b r:List Rat} {l:List (List Rat)}:aI b=b->b≠[]->aI r=r->r.length<b.length->(∃ W:List Rat,∀ x,ev a x+ev r x=ev W x*ev b x)->nS b r l->nS a b (b::l)
inductive jU (B:Nat):List Rat->List Rat->List (List Rat)->Prop
 | nil (a:List Rat):jU B a [] []
 | cons {a b U R:List Rat} {l:List (List Rat)}:aI a=a->aH a B=true->aI b=b->b≠[]->aH b B=true->dK B a b=some (U,R)->R.length<b.length->aH R B=true->jU B b (aM R (-1)) l->jU B a b (b::l)
structure vR (M X:Nat) (e:List Rat × Rat):Prop where
 tr:aI e.1=e.1
 ne:e.1≠[]
 len:e.1.length<=M
 pos:0<e.2
 cm:Cm 1 e.1 X
 few:eE e.2 (2*X)
 cb:Cb (aM e.1 e.2) X
theorem aKg {p:List Rat} {a:Rat} (hp:aI p=p) (h0:p≠[]) (ha:a≠0):aM p a≠[]:=by
 intro h;have:=(lE hp ha).1;rw[h] at this;exact h0 (List.eq_nil_of_length_eq_zero this.symm)
theorem aLb {p:List Rat} {c:Nat} (h:Cb p c):eE (aG p) c:=h.few (p.length-1)
theorem aV9 {B Z M X:Nat} (hB:1<=B) (hZ:Z<=5*5*2^(M-1)*X) (hXB:6*X<=29*B) :
  ∀ (f:Nat) (l:List (List Rat × Rat)) (p q:List Rat) (s t:Rat) (c d:Nat),l.getD (l.length-1) ([],0)=(p,s)->q.length<f->aI p=p->aI q=q->p≠[]->q.length<p.length->p.length<=M->Cm 1 p c->Cm 1 q d->Cb (aM p s) c->Cb (aM q t) d->c<=X->d<=X->(2*(c+1)+5*(d+1))*gE M p.length<=Z->0<s->eE s (2*X)->(q≠[]->0<t/\eE t (2*X)) ->
  ∃ es,lA B f l (q,t)=some (l++es)/\(∀ z∈es,vR M X z)/\es.length<=q.length/\jU B (aM p s) (aM q t) (es.map fun z=>aM z.1 z.2):=by
 intro f
 induction f with
 | zero=>intro l p q s t c d _ h; omega
 | succ f ih =>
  intro l p q s t c d hl hf tp tq hp0 hlt hpM hpc hqd hpa hqa hcX hdX hP hs fs ht;rw[lA];by_cases hq:0<q.length
  ·rw[if_pos hq,hl];have hq0:q≠[]:=List.length_pos_iff.1 hq;obtain⟨ht0,ft⟩:=ht hq0;have ht1:t≠0:=by grind
   have hs1:s≠0:=by grind
   have hti:=Rat.mul_inv_cancel t ht1;obtain⟨g,hg⟩:∃ g,p.length=q.length+g:=⟨p.length-q.length,by omega⟩
   have hsteps:p.length+1-q.length=g+1:=by omega
   rw[hg] at hP;have hW:=aDt (by omega) (by omega) hP;have hbd:=wI hq (by omega) (Nat.le_trans (Nat.mul_le_mul_right _ (show 5*(c+(g+1)*(d+1)+1)<=_ by omega)) hW) hZ;have hmul:(g+1)*(d+1)=(g+1)*d+(g+1):=by rw[Nat.mul_add,Nat.mul_one]
   obtain⟨R,T,r1,r2,r3,r4,r5,r6,W,r7⟩:=aWk (s:=s) (t:=t) (e:=2*X) hB tp hp0 tq hq0 hpc hqd fs hs (by unfold vN; rw[hsteps]; omega) (by unfold vN; rw[hsteps]; omega);rw[hsteps] at r4 r5;obtain⟨la,_⟩:=lE tp hs1;obtain⟨lb,_⟩:=lE tq ht1;have hb0:=aKg tq hq0 ht1;obtain⟨U,R',k1,k2,k3,k4,k5,k6,k7,k8⟩:=wQ (p:=aM p s) (q:=aM q t) hB (cK _) (cK _) hb0 hpa hqa (by unfold jR; rw[la,lb,hsteps]; omega);have k8':Cb R' (c+(g+1)*(d+1)):=by
    unfold jR at k8;rw[la,lb,hsteps] at k8;exact k8.mono (by omega)
   have hlR:=mF R T;have hz:eD (aM R T) R'=[]:=by
    refine aIw (q:=aM q t) (cK _) (cK _) ?_ ⟨fJ (aM W t⁻¹) U,fun x=>?_⟩
    ·have:=aLt (aM R T) R';omega
    ·have h1:=r7 x;have h2:=k6 x;rw[cD,cD] at h2;rw[fP,lO,cD,cD,cD];grind
   have hr:aM R T=aM R' (-1):=lQ (cK _) (cK _) fun x=>by
    have:=fP (aM R T) R' x;rw[hz,ev] at this;rw[cD R' (-1)];grind
   have hra:Cb (aM R T) (c+(g+1)*(d+1)):=by
    rw[hr];exact k8'.scale aZn
   have fT:R≠[]->0<T/\eE T (2*X):=fun h0=>by
    have hT:=r6 h0;have hT1:T≠0:=by grind
    have e1:=(lE r2 hT1).2;have hl0:=eO r2 h0;have hli:=Rat.mul_inv_cancel _ hl0;have e2:T=aG (aM R T)*(aG R)⁻¹:=by
     rw[e1];grind
    refine⟨hT,?_⟩;rw[e2];exact aAf (aFa (aLb hra) (aFb hl0 (aLb (nJ r4)))) (by omega)
   obtain⟨es,j1,j2,j3,j4⟩:=ih (l++[(q,t)]) q R t T d (c+(g+1)*(d+1)) (by
     rw[List.getD_eq_getElem?_getD,List.length_append,List.length_singleton,Nat.add_sub_cancel,List.getElem?_append_right (Nat.le_refl _),Nat.sub_self];rfl) (by omega) tq r2 hq0 (by omega) (by omega) hqd r4 hqa hra hdX (by omega) hW ht0 ft fT
   refine⟨(q,t)::es,?_,?_,?_,?_⟩
   ·rw[r1];show lA B f (l++[(q,t)]) (R,T)=_;rw[j1,List.append_assoc];rfl
   ·intro z hz;rcases List.mem_cons.1 hz with rfl | hz
    ·exact⟨tq,hq0,by show q.length<=M; omega,ht0,hqd.mono hdX,ft,hqa.mono hdX⟩
    ·exact j2 z hz
   ·rw[List.length_cons];omega
   ·refine jU.cons (b:=aM q t) (R:=R') (cK _) (hpa.sz hB (by omega)) (cK _) hb0 (hqa.sz hB (by omega)) k1 k4 (k8'.sz hB (by omega)) ?_;rw[<- hr];exact j4
  ·rw[if_neg hq];obtain rfl:=List.eq_nil_of_length_eq_zero (show q.length=0 by omega);exact⟨[],by rw[List.append_nil],(fun z hz=>nomatch hz),Nat.le_refl _,.nil _⟩
theorem aLp {p:List Rat} {c:Nat} (h:Cb p c):∃ κ:Rat,κ≠0/\∀ k,∃ z:Int,p.getD k 0 = κ*(z:Rat)/\z.natAbs<=2^c:=by
 obtain⟨m,m1,m2,m3⟩:=h;have hm:=nD m1;have hi:=Rat.mul_inv_cancel _ hm;refine⟨(m:Rat)⁻¹,fun e=>?_,fun k=>?_⟩
 ·rw[e] at hi;grind
 ·obtain⟨z,z1,z2⟩:=m3 k;exact⟨z,by rw[<- z1]; grind,z2⟩
theorem aE9:eE 1 0:=⟨1,1,by decide,by rw[mI]; rfl,by decide,by decide⟩
theorem aV7 {B M c X:Nat} {p F:List Rat} (hB:1<=B) (hF:kI B p=some F) (tF:aI F=F) (F0:F≠[]) (hFM:F.length<=M) (hM8:M<=8) (hc:Cb F c) (hX:(7*(c+4))*5^M<=5*5*2^(M-1)*X) (hcX:c+3<=X) (hXB:6*X<=29*B) :
  ∃ L,lY B p=some L/\L.length<=M/\(∀ z∈L,vR M X z)/\∃ l,L.map (fun z=>aM z.1 z.2)=F::l/\jU B F (bN F) l:=by
 have hFl:=List.length_pos_iff.2 F0;have hM1:1<=M:=by omega
 have dl:=wB F;have hd:Cb (bN F) (c+3):=hc.derive (t:=3) (by omega);have s1:aH [(1:Rat)] B=true:=nE hB (Nat.zero_le _) aE9;have s2:aH (bN F) B=true:=hd.sz hB (by omega);obtain⟨κ,κ0,κ1⟩:=aLp hc;obtain⟨A,s,a1,a2,a3,a4,a5,a6,a,a7,a8,a9⟩:=aDv hB tF F0 hc aE9 (by omega) (by omega) κ0 κ1;have hs:=a6 (by decide);have eF:aM A s=F:=lQ (cK _) tF fun x=>by
  rw[cD,a8];have:a*ev F x*s=s*a*ev F x:=by grind
  rw[this,a9,Rat.one_mul]
 have hAl:A≠[]:=fun q=>by rw[q] at a3; exact F0 (List.eq_nil_of_length_eq_zero a3.symm)
 have second:∃ (D:List Rat) (t:Rat),gX B (bN F) 1=some (D,t)/\aI D=D/\D.length<=F.length-1/\Cm 1 D (c+3)/\(D≠[]->0<t/\eE t (2*X))/\aM D t=bN F:=by
  by_cases h0:bN F=[]
  ·refine⟨[],0,by unfold gX; rw[if_pos h0],rfl,Nat.zero_le _,fun k=>⟨0,by rw[dI (Nat.zero_le _),Rat.zero_mul]; rfl,Nat.zero_le _⟩,fun h=>absurd rfl h,by rw[h0]; rfl⟩
  ·obtain⟨κ',κ2,κ3⟩:=aLp hd;obtain⟨D,t,d1,d2,d3,d4,d5,d6,b,d7,d8,d9⟩:=aDv (p:=bN F) hB (cK _) h0 hd aE9 (by omega) (by omega) κ2 κ3;refine⟨D,t,d1,d2,by rw[d3]; exact dl,d4,fun _=>⟨d6 (by decide),aAf d5 (by omega)⟩,lQ (cK _) (cK _) fun x=>?_⟩;rw[cD,d8];have:b*ev (bN F) x*t=t*b*ev (bN F) x:=by grind
   rw[this,d9,Rat.one_mul]
 obtain⟨D,t,d1,d2,d3,d4,d6,d7⟩:=second;have hpot:(2*(c+1)+5*(c+3+1))*gE M A.length<=5*5*2^(M-1)*X:=by
  refine Nat.le_trans (Nat.mul_le_mul (show 2*(c+1)+5*(c+3+1)<=7*(c+4) by omega) (aFp (by omega))) hX
 obtain⟨es,k1,k2,k3,k4⟩:=aV9 hB hpot hXB (F.length+2) [(A,s)] A D s t c (c+3) rfl (by omega) a2 d2 hAl (by omega) (by omega) a4 d4 (by rw[eF]; exact hc) (by rw[d7]; exact hd) (by omega) (by omega) (Nat.le_refl _) hs (aAf a5 (by omega)) d6;refine⟨(A,s)::es,?_,by rw[List.length_cons]; omega,?_,es.map (fun z=>aM z.1 z.2),by rw[List.map_cons,eF],by rw[eF,d7] at k4; exact k4⟩
 ·unfold lY;rw[hF];show (if F=[] then some [] else if (aH [(1:Rat)] B&&(aH (bN F) B&&decide (F.length<=1000)))=true then (gX B F 1).bind fun a=>(gX B (bN F) 1).bind fun b=>lA B (F.length+2) [a] b else none)=_;rw[if_neg F0,s1,s2,decide_eq_true (show F.length<=1000 by omega),if_pos (by rfl),a1];show ((gX B (bN F) 1).bind fun b=>lA B (F.length+2) [(A,s)] b)=_;rw[d1];exact k1
 ·intro z hz;rcases List.mem_cons.1 hz with rfl | hz
  ·exact⟨a2,hAl,by show A.length<=M; omega,hs,a4.mono (by omega),aAf a5 (by omega),by show Cb (aM A s) X; rw[eF]; exact hc.mono (by omega)⟩
  ·exact k2 z hz
end Vc
end Go.Proofs.YtbaihklbefhgdaaGreat

namespace Go.Proofs.YtbaihklbefhgdaaGreat
open Go.RowKit
open Go.Lib (hid)
open Dg Zn
namespace Vc
set_option maxRecDepth 100000
theorem aNs {B:Nat} {a b:List Rat} {l:List (List Rat)} (h:jU B a b l):aH b B=true:=by
 cases h with
 | nil=>rfl
 | cons _ _ _ _ h=>exact h
theorem aUy {B:Nat} {a b:List Rat} {r:List (List Rat)} (h:jU B a b r) (hl:0<b.length):∃ U R r',r=b::r'/\aI a=a/\aH a B=true/\aI b=b/\b≠[]/\aH b B=true/\dK B a b=some (U,R)/\R.length<b.length/\aH R B=true/\jU B b (aM R (-1)) r':=by
 cases h with
 | nil=>exact absurd hl (Nat.lt_irrefl 0)
 | cons w1 w2 w3 w4 w5 w6 w7 w8 w9=>exact⟨_,_,_,rfl,w1,w2,w3,w4,w5,w6,w7,w8,w9⟩
theorem aXh {B:Nat} {a:List Rat} {r:List (List Rat)} (h:jU B a [] r):r=[]:=by
 cases h with
 | nil=>rfl
 | cons w1 w2 w3 w4=>exact absurd rfl w4
section
variable (p F:List Rat) (l:List (List Rat)) (B:Nat) (hB1:1<=B) (hB:B<=100000) (hp0:p≠[]) (hp:p.length<=1000000) (hF:aD Tryz.prog 162 [PL p B] (.one (PL F B))) (hl:F.length<=1000) (h:jU B F (bN F) l) (hl2:l.length<=1000)
include hB1 hB hp0 hp hF hl h hl2
theorem aQr:aD Tryz.prog 93 [PL p B] (.one (jV (F::l) B)):=by
 have e11:Rat.divInt (-1) 1 = -1:=by decide
 have hpl:=List.length_pos_iff.2 hp0;have hdl:=wB F;refine aD.of (n:=35) Tryz.func93 rfl rfl rfl rfl rfl fun cx hfr=>?_;refine sr rfl ?_;refine xn ?_;refine RV.done ?_;refine CV.seq ?_;refine sr rfl ?_;refine xm ?_;refine p1 (bL aV bE) ?_;refine p1 (cW) ?_;refine RV.done ?_;refine CV.cond rfl (fun hc=>False.elim (by have:=of_decide_eq_true hc; omega)) (fun hc=>?_);refine CV.skip ?_;refine sr rfl ?_;refine xm ?_;refine p1 (cG hF rfl rfl bd Tryz.func162 rfl rfl (xa rfl) rfl hfr rfl) ?_;refine xn ?_;refine RV.done (sr rfl ?_);refine xm ?_;refine p2 (aMi (r:=200) (k:=none) (xs:=[.tmp 13]) (ss:=eC [F] B) kA xF rfl rfl rfl wN zD qL rfl rfl bd (xa rfl) rfl rfl) ?_;refine xn ?_;refine RV.done (sr rfl ?_);refine xm ?_;refine xd rfl ((aG8 F B (by omega) (by omega)).mono (fun _ _ _ _ h=>h) (eR (aNs h))) Tryz.func163 (xa rfl) hfr ?_;refine xn ?_;refine RV.done ?_;refine CV.seq ?_;refine CV.block ?_;refine CV.loop (X:={z:List (List Rat) × List Rat × List Rat × List (List Rat) // jU B z.2.1 z.2.2.1 z.2.2.2/\z.1++z.2.2.2=F::l/\z.2.1.length<=1000/\z.2.2.1.length<=1000}) (fun z=>[(.s 4,.av (.one (.sl 200 (eC z.1.1 B).length))),(.b 200,.row 24 none (eC z.1.1 B)),(.s 3,.av (.one (PL z.1.2.1 B))),(.s 5,.av (.one (PL z.1.2.2.1 B)))]) (fun z=>z.1.2.2.2.length) ⟨([F],F,bN F,l),h,rfl,hl,by show (bN F).length<=1000; omega⟩ (aZ.mk ⟨aB _,aB _,aB _,aB _,trivial⟩ rfl rfl) (fun z=>?_);obtain⟨⟨d,a,b,r⟩,hr,hd,ha,hb9⟩:=z;simp only at hr hd ha hb9 |-;refine CV.seq ?_;refine sr rfl ?_;refine xm ?_;refine p1 (bL aV bE) ?_;refine p1 (gC) ?_;refine RV.done ?_;refine CV.cond rfl (fun hc=>?_) (fun hc=>?_)
 ·have hlt:0<b.length:=(by have:=of_decide_eq_true hc; omega)
  obtain⟨U,R,r',rfl,q1,q2,q3,q4,q5,q6,q7,q8,q9⟩:=aUy hr hlt;have hdl2:d.length<=1001:=(by have:=congrArg List.length hd; simp only[List.length_append,List.length_cons] at this; omega)
  have hsl:=mF R (-1);refine CV.skip ?_;refine CV.block ?_;refine sr rfl ?_;refine xm ?_;refine xm ?_;refine p1 (fH (k:=none) (xs:=[.tmp 21]) (ss:=eC [b] B) (G:=Dm.gen (cA none (eC [b] B))) (cS _ _) kA xF rfl rfl rfl wN qL rfl rfl bd (xa rfl)) ?_;refine gI (aN.plain (iR (r:=200) (r':=201) (k:=none) (gU (by decide) qL) (by rw[jE,jE]; simp; omega) (by rw[jE,jE]; simp; omega) kA aD8 rfl rfl rfl zD rfl rfl rfl bd rfl rfl rfl rfl rfl rfl rfl rfl) rfl) ?_;refine xn ?_;refine RV.done (sr rfl ?_);refine xm ?_;refine xm ?_;refine xc (aDg a b B hB1 hB ha hb9 q1 q3 q5 q6) Tryz.func164 (xb rfl rfl) hfr ?_;refine xm ?_;refine p1 (cO) ?_;refine p1 (cO) ?_;refine xn ?_;refine xn ?_;refine RV.done (sr rfl ?_);refine xm ?_;refine xn ?_;refine RV.done ?_;refine CV.region rfl (fun h=>nomatch h) ?_;refine xm ?_;refine xd rfl ((lK (-1) 1 (by decide) (by decide) (by decide) (by decide)).mono (fun _ _ _ _ h=>h) (vI e11)) Tryz.func32 (xb rfl rfl) hfr ?_;refine xd rfl ((aCj R (-1) B 6 (by omega) (by omega) (by omega)).mono (fun _ _ _ _ h=>h) (eR (aNs q9))) Tryz.func165 (xb rfl rfl) hfr ?_;refine xn ?_;refine RV.done ?_;exact⟨⟨(d++[b],b,aM R (-1),r'),q9,by show d++[b]++r'=F::l; rw[List.append_assoc]; exact hd,hb9,by show (aM R (-1)).length<=1000; omega⟩,kW (fun i=>if i=200 then 201 else i) ⟨mK rfl (by rw[sZ,List.length_append]),fC sZ.symm,gG,gG,trivial⟩ rfl rfl rfl rfl,by show r'.length<(b::r').length; rw[List.length_cons]; omega⟩
 ·refine CV.exit ?_;refine CV.seq ?_;have hb0:b=[]:=List.eq_nil_of_length_eq_zero (by have:=of_decide_eq_false hc; omega);subst hb0;have hr0:=aXh hr;rw[hr0,List.append_nil] at hd;rw[hd];refine jZ (r:=200) (t:=4) (G:=Dm.gen (cA none (eC (F::l) B))) (cx.bw hfr) rfl rfl rfl rfl rfl (cS _ _) (iS _ _) ?_;refine CV.region rfl (fun h=>nomatch h) ?_;refine xm ?_;refine xn ?_;refine RV.done ?_;refine CV.ret ?_;exact aS rfl (.inr rfl) rfl cL
end
theorem aRj (l:List (List Rat)) (J K:Nat) (hl:l.length<=1000000) (hp:∀ p∈l,p.length<=1000000):aD Tryz.prog 84 [jV l J,jV l K] (.one (.v (.bool true))):=by
 refine aD.of (n:=27) Tryz.func84 rfl rfl rfl rfl rfl fun cx hfr=>?_;refine sr rfl ?_;refine xn ?_;refine RV.done ?_;refine CV.seq ?_;refine sr rfl ?_;refine xm ?_;refine p1 (bL jE kA) ?_;refine xm ?_;refine p1 (bL jE kA) ?_;refine p1 (pT) ?_;refine RV.done ?_;refine CV.cond rfl (fun hc=>False.elim (by simp at hc)) (fun hc=>?_);refine CV.skip ?_;refine CV.seq ?_;refine sr rfl ?_;refine xn ?_;refine RV.done ?_;refine CV.block ?_;refine CV.loop (X:={k:Nat // k<=l.length}) (fun k=>[(.s 5,.av (.one (.v (.int .i64 (k.1:Int))))),(.s 0,.av (.one (jV l J))),(.s 1,.av (.one (jV l K)))]) (fun k=>l.length-k.1) ⟨0,Nat.zero_le _⟩ (aZ.mk ⟨aB _,aB _,aB _,trivial⟩ rfl rfl) (fun k=>?_);obtain⟨k,hk⟩:=k;simp only;refine CV.seq ?_;refine sr rfl ?_;refine xm ?_;refine xm ?_;refine p1 (bL jE kA) ?_;refine p1 (dP) ?_;refine RV.done ?_;refine CV.cond rfl (fun hc=>?_) (fun hc=>?_)
 ·have hlt:k<l.length:=(by have:=of_decide_eq_true hc; omega)
  have hmem:l.getD k []∈l:=(by rw[List.getD_eq_getElem?_getD,List.getElem?_eq_getElem hlt]; exact List.getElem_mem _)
  refine CV.skip ?_;refine CV.seq ?_;refine CV.block ?_;refine CV.seq ?_;refine CV.region rfl (fun _=>by kernel_rfl) ?_;refine xm ?_;refine xm ?_;refine p1 (cV (k:=none) (i:=k) (aE4 hlt) kA wU) ?_;refine p1 (bT dM) ?_;refine xm ?_;refine xm ?_;refine p1 (cV (k:=none) (i:=k) (aE4 hlt) kA wU) ?_;refine p1 (bT dM) ?_;refine xc (aRi (l.getD k []) (l.getD k []) J K (hp _ hmem) (hp _ hmem)) Tryz.func154 (xb rfl rfl) hfr ?_;refine p1 (lN) ?_;refine bU (by kernel_rfl) ?_;refine CV.cond rfl (fun hc=>False.elim (by simp at hc)) (fun hc=>?_);refine CV.skip ?_;refine CV.region rfl (fun h=>nomatch h) ?_;refine xm ?_;refine p1 (cP (c:=((k+1:Nat):Int)) (by rw[bV (by omega) (by omega)]; omega) rfl rfl bd rfl rfl) ?_;refine xn ?_;refine RV.done ?_;exact⟨⟨k+1,hlt⟩,aZ.mk ⟨aB _,aB _,aB _,trivial⟩ rfl rfl,by show l.length-(k+1)<l.length-k; omega⟩
 ·refine CV.exit ?_;refine sr rfl ?_;refine xn ?_;refine RV.done ?_;refine CV.ret ?_;exact aS rfl (.inr rfl) rfl cL
end Vc
end Go.Proofs.YtbaihklbefhgdaaGreat
