/-
  
-/
import Derived.Test.YtjmbkipbmbnhjaaGreatSQ43
import Derived.Test.YtjmbkipbmbnhjaaGreatSQ41
import Derived.Test.YtjmbkipbmbnhjaaGreatSQ40
import Derived.Test.YtjmbkipbmbnhjaaGreatSQ9
import Derived.Test.YtjmbkipbmbnhjaaGreatSQ32
set_option linter.unusedVariables false
set_option linter.unusedSimpArgs false
set_option linter.unusedSectionVars false
namespace Go.Proofs.YtjmbkipbmbnhjaaGreat
open Go.RowKit Go.Shelf
open Dg Zn
namespace Vc
attribute [local go_sem] Oper.semAt_some
def iP (n B:Nat) (W W':World):Prop:=W.heap.size<=W'.heap.size/\∀ b,b<n->b≠B->W'.heap[b]?=W.heap[b]?
theorem iP.refl (n B:Nat) (W:World):iP n B W W:=⟨Nat.le_refl _,fun _ _ _=>rfl⟩
theorem iP.trans {n B:Nat} {X Y Z:World} (h:iP n B X Y) (k:iP n B Y Z):iP n B X Z:=⟨Nat.le_trans h.1 k.1,fun b hb hne=>(k.2 b hb hne).trans (h.2 b hb hne)⟩
theorem iP.put {n B:Nat} {w:World} (hn:n<=w.heap.size) (W:World) (l:Nat) (o o':Obj) (hl:w.heap.size<=l) (_:W.heap[l]?=some o) (_:o.isCells=false) (_:o.isWalk=false):iP n B W (W.putObj l o') :=
 ⟨by simp,fun b hb _=>World.putObj_heap_other (by omega)⟩
def yG (len:Nat) (V:Nat->Value) (k:Nat):Array Value:=#[.int .i64 ((len-1-k:Nat):Int),V (len-1-k)]
theorem aQl {len cap Bs b off B n:Nat} {ao:Option Addr} {C:Nat->Nat->Value} {w1:World} (hn:1<=n) (hao:0<len->ao=some ⟨b,off,none⟩) (hreach:len<=1000000) (hBs:w1.cell? ⟨Bs,0,none⟩=some (.slice ao len cap)) (hBB:Bs≠B)
  (hc:0<len->b≠B/\∀ j,j<len->w1.cell? ⟨b,off+j*4,none⟩=some (C j 0)/\w1.cell? ⟨b,off+j*4+1,none⟩=some (C j 1)/\w1.cell? ⟨b,off+j*4+2,none⟩=some (C j 2)/\w1.cell? ⟨b,off+j*4+3,none⟩=some (C j 3)) :
  SeqStopsK Fence.wide n Tryz.prog 130 #[.pointer (some ⟨Bs,0,none⟩)] (yG len fun j=>.agg #[C j 0,C j 1,C j 2,C j 3]) (iP w1.heap.size B) (fun ys=>ys=lT id len) (fun pre=>∃ k,k<=len/\pre=lT id k) len w1:=by
 intro l J Jx W hW _ _ hY h0;have hk:∀ wr,iP w1.heap.size B W wr->∀ c o u,c≠B->w1.cell? ⟨c,o,none⟩=some u->wr.cell? ⟨c,o,none⟩=some u:=by
  intro wr hwr c o u hcB hu;have hl:=uM hu;exact(World.cell?_of_block ((hwr.2 c hl hcB).trans (hW.block c hl))).trans hu
 exact aUl Fence.wide n trivial rfl hn l Bs b off len cap ao hao (iP w1.heap.size B) iP.trans C hreach id (yG len fun j=>.agg #[C j 0,C j 1,C j 2,C j 3]) (fun _ _=>rfl) J Jx hY W (iP.refl _ _ _) (fun wr hwr=>hk wr hwr Bs 0 _ hBB hBs)
  (fun wr hwr j hj=>by
   obtain⟨hbB,hcs⟩:=hc (by omega);obtain⟨q0,q1,q2,q3⟩:=hcs j hj;exact⟨hk wr hwr _ _ _ hbB q0,hk wr hwr _ _ _ hbB q1,hk wr hwr _ _ _ hbB q2,hk wr hwr _ _ _ hbB q3⟩) h0
structure oO (w w1:World) (L:Nat->Prop) (B:Nat) (k:Option Nat) (T:TypeId) (s:SA Dm) (W:World):Prop where
 below:Below w.heap.size w W
 size:w1.heap.size<=W.heap.size
 same:∀ b,b<w1.heap.size->b≠B->W.heap[b]?=w1.heap[b]?
 var:∃ v,∃ cs:List Value,W.heap[B]?=some (.cells cs.toArray T (0,0))/\Shaped k v cs/\iM L W s v/\∀ c∈cs,cW c=true
theorem oO.own {w w1:World} {L:Nat->Prop} {B:Nat} {k:Option Nat} {T:TypeId} {f:List Nat->SA Dm} (hw:w.heap.size<=w1.heap.size):OwnFrom w1.heap.size (fun pre W=>oO w w1 L B k T (f pre) W):=by
 intro pre W W' row ⟨h1,h2,h3,v,cs,h4,h5,h6,h7⟩ hg hr;have hb:∀ b o,W.heap[b]?=some o->(b<w1.heap.size\/o.isCells=true)->W'.heap[b]?=W.heap[b]?:=by
  intro b o ho hc;refine hg.block b (Array.getElem?_eq_some_iff.1 ho).1 fun e=>?_;obtain⟨q1,o',q2,q3⟩:=hr b e.symm;rw[ho] at q2;obtain rfl:=Option.some.inj q2;rcases hc with hc | hc
  ·omega
  ·rw[hc] at q3; cases q3
 refine⟨⟨hg.os.trans h1.os,hg.tape.trans h1.tape,hg.output.trans h1.output,Nat.le_trans h1.size hg.size,fun b hb'=>?_⟩,Nat.le_trans h2 hg.size,fun b hb' hne=>?_,v,cs,?_,h5,?_,h7⟩
 ·have hl:b<W.heap.size:=by omega
  rw[hb b W.heap[b] (Array.getElem?_eq_getElem hl) (.inl (by omega))];exact h1.block b hb'
 ·have hl:b<W.heap.size:=by omega
  rw[hb b W.heap[b] (Array.getElem?_eq_getElem hl) (.inl hb')];exact h3 b hb' hne
 ·rw[hb B _ h4 (.inr rfl)]; exact h4
 ·exact h6.keep (aG6 hg fun r e=>(hr r e).2)
end Vc
end Go.Proofs.YtjmbkipbmbnhjaaGreat

namespace Go.Proofs.YtjmbkipbmbnhjaaGreat
open Go.RowKit Go.Shelf
open Dg Zn
namespace Vc
attribute [local go_sem] Oper.semAt_some
def cJ (cs:List Value) (j i:Nat):Value:=(cs[j*4+i]?).getD undef
theorem aFq {w:World} {l:List (SA Dm)} {cs:List Value} {j:Nat} {s:SA Dm} (h:dB w (some 4) l cs) (hs:l[j]?=some s):(s.at w (.agg #[cJ cs j 0,cJ cs j 1,cJ cs j 2,cJ cs j 3])/\Shaped (some 4) (.agg #[cJ cs j 0,cJ cs j 1,cJ cs j 2,cJ cs j 3]) [cJ cs j 0,cJ cs j 1,cJ cs j 2,cJ cs j 3])/\∀ i,i<4->cs[j*4+i]?=some (cJ cs j i):=by
 obtain⟨pre,p,post,v,q1,q2,q3,q4⟩:=h.at hs;have q2:pre.length=j*4:=q2;have hp:p.length=4:=q3.length;have hi:∀ i,i<4->cs[j*4+i]?=some (cJ cs j i):=by
  intro i hi;have hl:j*4+i<cs.length:=by rw[q1]; simp only[List.length_append]; omega
  unfold cJ;rw[List.getElem?_eq_getElem hl];rfl
 have hpi:∀ i,i<4->p[i]?=some (cJ cs j i):=by
  intro i hi4;rw[<- hi i hi4,q1,List.append_assoc,List.getElem?_append_right (by omega),q2,Nat.add_sub_cancel_left,List.getElem?_append_left (by omega)]
 have he:p=[cJ cs j 0,cJ cs j 1,cJ cs j 2,cJ cs j 3]:=by
  match p,hp,hpi with
  | [a,b,c,d],_,hpi =>
   have h0:=hpi 0 (by decide);have h1:=hpi 1 (by decide);have h2:=hpi 2 (by decide);have h3:=hpi 3 (by decide);simp at h0 h1 h2 h3;rw[h0,h1,h2,h3]
 have hv:v=.agg p.toArray:=q3.1;subst he;rw[hv] at q4 q3;exact⟨⟨q4,q3⟩,hi⟩
theorem aQm {a:Act} {W:World} {u7 u11 id l n:Nat} {c0 c1 c2 c3:Value} {K:Act->World->Prop} {o1 o2:Oper} (hn:u7<a.tmps.size) (hne:u11≠u7) (h11:a.tmps.getD u11 undef=.agg #[c0,c1,c2,c3]) (hone:Shaped (some 4) (.agg #[c0,c1,c2,c3]) [c0,c1,c2,c3])
  (g1:o1.guard=none) (g2:o2.guard=none) (d1:o1.dst=some u7) (d2:o2.dst=none) (e1:o1.op=.alloc 31) (e2:o2.op=.store 31 (.tmp u7) (.tmp u11))
  (hK:∀ W2,Below W.heap.size W W2->W2.heap.size=W.heap.size+1->W2.heap[W.heap.size]?=some (.cells [c0,c1,c2,c3].toArray 31 (0,0))->K (a.put (some u7) (.pointer (some ⟨W.heap.size,0,none⟩))) W2) :
  (Code.region id #[o1,o2] false).wpIn (qU l) n Tryz.prog (Exit.then K (fun _ _ _=>False)) a W:=by
 refine wpIn_region_list (uK (fun ⟨_,_,h⟩=>h) _ _ _ (by simp[nF,e1,e2]) ?_);refine wpList_step fun K1 hK1=>?_;rw[if_pos (by simp[Region.wanted,g1])];have hzr:(zeroValue 31).run Tryz.prog W=.ok eR W:=by
  cases hq:Tryz.prog.info? 31 with
  | none=>have:=mH; rw[hq] at this; cases this
  | some inf =>
   have hz:=mH;rw[hq] at hz;simp only[Option.map_some,Option.some.injEq,Prod.mk.injEq] at hz;simp[zeroValue,typeInfo,hq,hz.1]
 have r1:(execOp a.eval o1).run Tryz.prog W=.ok (.value (.pointer (some ⟨W.heap.size,0,none⟩))) (W.alloc (.cells eR.cells 31)):=by
  simp only[execOp,e1,Sem.run_bind,Instr.alloc,hzr,newVar,newRow,run_newObj_alloc,Sem.run_pure,Result.andThen_ok]
 unfold Oper.wp;rw[r1,Oper.upon_value,d1];refine hK1 _ _ ?_;clear hK1 K1 r1 hzr;have hw1:(W.alloc (.cells eR.cells 31)).heap[W.heap.size]?=some (.cells ([]++[Value.bool false,.slice none 0 0,.bool false,.slice none 0 0]++[]).toArray 31 (0,0)):=heap_alloc_new W _;have hs1:(W.alloc (.cells eR.cells 31)).heap.size=W.heap.size+1:=Array.size_push _;have hb1:Below W.heap.size W (W.alloc (.cells eR.cells 31)):=(Below.refl _ _).alloc (Nat.le_refl _) _;obtain⟨W1,hW1⟩:∃ W1,W1=W.alloc (.cells eR.cells 31):=⟨_,rfl⟩
 rw[<- hW1] at hw1 hs1 hb1 |-;clear hW1;have t7:(a.put (some u7) (.pointer (some ⟨W.heap.size,0,none⟩))).tmps.getD u7 undef=.pointer (some ⟨W.heap.size,0,none⟩):=by rw[iW hn rfl,if_pos rfl]
 have t11:(a.put (some u7) (.pointer (some ⟨W.heap.size,0,none⟩))).tmps.getD u11 undef=.agg #[c0,c1,c2,c3]:=by rw[iW hn rfl,if_neg hne]; exact h11
 refine wpList_step fun K1 hK1=>?_;rw[if_pos (by simp[Region.wanted,g2])];have hc:∀ j,j<4->∃ u,W1.cell? ⟨W.heap.size,j,none⟩=some u:=by
  intro j hj;simp only[World.cell?,hw1];have:j<([]++[Value.bool false,.slice none 0 0,.bool false,.slice none 0 0]++[]).toArray.size:=hj;exact⟨_,Array.getElem?_eq_getElem this⟩
 have r2:(execOp (a.put (some u7) (.pointer (some ⟨W.heap.size,0,none⟩))).eval o2).run Tryz.prog W1=.ok .skip (W1.setCells W.heap.size 0 [c0,c1,c2,c3]):=by
  have hst:=run_storeCells_cells (P:=Tryz.prog) W.heap.size 0 [c0,c1,c2,c3] 0 W1 (fun j hj=>by
   obtain⟨u,hu⟩:=hc j hj;rw[Nat.add_zero,Nat.zero_add,hu];rfl) (fun j hj=>by simp[World.frozen?,hw1]) hone.one
  rw[Nat.add_zero] at hst;have ev7:(a.put (some u7) (.pointer (some ⟨W.heap.size,0,none⟩))).eval (.tmp u7)=.pointer (some ⟨W.heap.size,0,none⟩):=t7;have ev11:(a.put (some u7) (.pointer (some ⟨W.heap.size,0,none⟩))).eval (.tmp u11)=.agg #[c0,c1,c2,c3]:=t11;have ec:(Value.agg #[c0,c1,c2,c3]).cells=#[c0,c1,c2,c3]:=hone.cells;have hsz:=yY W1;simp only[execOp,e2,ev7,ev11,Sem.run_bind,Sem.run_pure,Result.andThen_ok,Instr.storeAt,Instr.sureAddr,storeVar,hsz,ec];simp[hst]
 unfold Oper.wp;rw[r2,Oper.upon_skip,d2];refine hK1 _ _ ?_;clear hK1 K1 r2;show Exit.then _ _ .normal (a.put (some u7) (.pointer (some ⟨W.heap.size,0,none⟩))) _;refine hK _ ?_ (by rw[kY,hs1]) ?_
 ·refine⟨by rw[os_setCells]; exact hb1.os,by rw[nM]; exact hb1.tape,by rw[nO]; exact hb1.output,by rw[kY,hs1]; omega,fun j hj=>?_⟩;rw[lX _ _ _ _ j (by omega)];exact hb1.block j hj
 ·exact oT W.heap.size 31 [c0,c1,c2,c3] [Value.bool false,.slice none 0 0,.bool false,.slice none 0 0] [] [] W1 rfl hw1
def iO (L:Nat->Prop) (B:Nat):Nat->Prop:=fun b=>L b\/b=B
section
variable {w w1 W:World} {L:Nat->Prop} {B:Nat} {k:Option Nat} {T:TypeId} {s:SA Dm}
theorem aW5 (hlt:∀ b,L b->b<w.heap.size) (hW:w.heap.size<=W.heap.size) (hB:B<W.heap.size):∀ b,iO L B b->b<W.heap.size:=by
 rintro b (h | rfl)
 ·have:=hlt b h; omega
 ·exact hB
theorem aW4 (hlt:∀ b,L b->b<w.heap.size) (hni:gH L w) (h:oO w w1 (iO L B) B k T s W):gH (iO L B) W:=by
 rintro b (hb | rfl) cs T' fr hc c hcm
 ·rw[h.below.block b (hlt b hb)] at hc;exact hni b hb cs T' fr hc c hcm
 ·obtain⟨v,cs',h1,_,_,h4⟩:=h.var;rw[h1] at hc;obtain⟨rfl,-,-⟩:=(Obj.cells.injEq _ _ _ _ _ _).mp (Option.some.inj hc);exact h4 c (by simpa using hcm)
theorem yX {x:SA Dm} {v:Value} (hB:w.heap.size<=B) (hb:Below w.heap.size w W) (h:iM L w x v):iM (iO L B) W x v:=by
 intro W' hk;refine h W' ⟨Nat.le_trans hb.size hk.1,fun b hnl off u hu=>?_⟩;have hl:=uM hu;refine hk.2 b (fun q=>?_) off u ((World.cell?_of_block (hb.block b hl)).trans hu);rcases q with q | q
 ·exact hnl q
 ·omega
theorem aE3 {L':Nat->Prop} {ρ:aX} {b:Nat} {v:Value} {cs:List Value} (hb:W.heap[b]?=some (.cells cs.toArray T (0,0))) (hnl:¬ L' b) (hsh:Shaped k v cs) (hs:iM L' W s v):(SA.d (Dm.gen (pG k s))).is L' ρ W (.pointer (some ⟨b,0,none⟩)):=by
 intro w' hag;refine⟨b,0,v,rfl,cs,hsh,hs w' (.agree hag),fun j c hj=>?_⟩;have hbl:b<W.heap.size:=by
  rcases Nat.lt_or_ge b W.heap.size with hl | hl
  ·exact hl
  ·rw[Array.getElem?_eq_none hl] at hb; cases hb
 have e:w'.heap[b]?=some (.cells cs.toArray T (0,0)):=(hag.2 b hbl hnl).trans hb;rw[Nat.zero_add];simpa[World.cell?,e] using hj
theorem aR3 {x:Dm} {W':World} {m:Nat} (hwB:w.heap.size<=B) (hm:w1.heap.size<=m) (h:oO w w1 (iO L B) B k T s W) (hp:(SA.d x:SA Dm).plain=true) (hS:aM8 W (iO L B) B k (.d x) W'):KeepsFrom m W W'/\iP w1.heap.size B W W'/\oO w w1 (iO L B) B k T (.d x) W':=by
 obtain⟨v0,cs0,h1,h2,_,_⟩:=h.var;obtain⟨w2,v,cs,k1,k2,k3,rfl⟩:=hS;have hBl:B<W.heap.size:=by
  rcases Nat.lt_or_ge B W.heap.size with hl | hl
  ·exact hl
  ·rw[Array.getElem?_eq_none hl] at h1; cases h1
 have hBw:w2.heap[B]?=some (.cells ([]++cs0++[]).toArray T (0,0)):=by
  rw[k1.block B hBl,h1,List.nil_append,List.append_nil]
 have hsz:(w2.setCells B 0 cs).heap.size=w2.heap.size:=kY ..;have hne:∀ j,j≠B->j<W.heap.size->(w2.setCells B 0 cs).heap[j]?=W.heap[j]?:=fun j hj hl=>(lX _ _ _ _ j hj).trans (k1.block j hl);have hnew:(w2.setCells B 0 cs).heap[B]?=some (.cells cs.toArray T (0,0)):=by
  have:=oT B T cs cs0 [] [] w2 (by rw[k3.length,h2.length]) hBw;rw[List.nil_append,List.append_nil] at this;exact this
 refine⟨⟨by rw[hsz]; exact k1.size,fun j o _ ho hc=>?_⟩,⟨by rw[hsz]; exact k1.size,fun b hb hb'=>hne b hb' (by have:=h.size; omega)⟩,⟨?_,by rw[hsz]; exact Nat.le_trans h.size k1.size,fun b hb hb'=>(hne b hb' (by have:=h.size; omega)).trans (h.same b hb hb'),v,cs,hnew,k3,k2.keep (aJ2 (.inr rfl)),fun c hc=>?_⟩⟩
 ·have hjB:j≠B:=by
   rintro rfl;rw[h1] at ho;obtain rfl:=Option.some.inj ho;cases hc
  rw[hne j hjB (Array.getElem?_eq_some_iff.1 ho).1];exact ho
 ·refine⟨by rw[os_setCells]; exact k1.os.trans h.below.os,by rw[nM]; exact k1.tape.trans h.below.tape,by rw[nO]; exact k1.output.trans h.below.output,by rw[hsz]; exact Nat.le_trans h.below.size k1.size,fun j hj=>?_⟩;have:=h.below.size;rw[hne j (by omega) (by omega)];exact h.below.block j hj
 ·have:=bR.plain_ok x w2 v hp k2.at c (by rw[k3.cells]; simpa using hc);exact this
end
end Vc
end Go.Proofs.YtjmbkipbmbnhjaaGreat

namespace Go.Proofs.YtjmbkipbmbnhjaaGreat
open Go.RowKit
open Dg Zn
namespace Vc
theorem yT {p q:Int} {k:Nat} (hp:len p<=k) (hq:len q<=k):len (Rat.divInt p q).num<=k/\len (qd (Rat.divInt p q))<=k:=by
 have h0:len 0<=k:=by show (aA 0).length<=_; rw[gA]; exact Nat.zero_le _
 by_cases hq0:q=0
 ·subst hq0;obtain⟨e1,e2⟩:=vV p;rw[e1,e2];exact⟨h0,h0⟩
 ·obtain⟨e1,e2⟩:=wL p q hq0;rw[e1,e2];have h1:=Int.natAbs_ediv_le_natAbs p (Int.gcd p q:Nat);have h2:=Int.natAbs_ediv_le_natAbs q (Int.gcd p q:Nat);refine⟨Nat.le_trans (nY ?_) hp,?_⟩
  ·rw[Int.natAbs_mul];refine Nat.le_trans (Nat.mul_le_mul_right _ (?_:_<=1)) (by rw[Nat.one_mul]; exact h1);rw[Int.natAbs_sign];split<;>omega
  ·split
   ·exact h0
   ·exact Nat.le_trans (nY (by rw[Int.natAbs_natCast]; exact h2)) hq
theorem oF {a:Rat} {B:Nat} (h1:len a.num<=B) (h2:len (qd a)<=B):aD [a] B=true:=by
 simp[aD,h1,h2]
theorem uF {a:Rat} {k:Nat} (h1:1<=k) (h:len (qd a)<=k):len (a.den:Int)<=k:=by
 unfold qd at h;split at h
 ·rename_i hd;rw[hd];refine Nat.le_trans (?_:len ((1:Nat):Int)<=1) h1;rw[kP];decide
 ·exact h
theorem aAs {a b:Rat} {j k:Nat} (h1:1<=j) (h2:1<=k) (ha:aD [a] j=true) (hb:aD [b] k=true):aD [a*b] (j+k)=true:=by
 have e:a*b=Rat.divInt (a.num*b.num) ((a.den:Int)*b.den):=by
  conv=>lhs; rw[<- Rat.num_divInt_den a,<- Rat.num_divInt_den b]
  exact Rat.divInt_mul_divInt _ _
 obtain⟨a1,a2⟩:=qB ha;obtain⟨b1,b2⟩:=qB hb;rw[e];have h:=yT (Vc.qH a1 b1) (Vc.qH (uF h1 a2) (uF h2 b2));exact oF h.1 h.2
theorem aE0 {a b:Rat} {j k:Nat} (h1:1<=j) (h2:1<=k) (ha:aD [a] j=true) (hb:aD [b] k=true):aD [a+b] (j+k+1)=true:=by
 have e:a+b=Rat.divInt (a.num*b.den+b.num*a.den) ((a.den:Int)*b.den):=by
  conv=>lhs; rw[<- Rat.num_divInt_den a,<- Rat.num_divInt_den b]
  exact Rat.divInt_add_divInt _ _ (by have:=a.den_nz; omega) (by have:=b.den_nz; omega)
 obtain⟨a1,a2⟩:=qB ha;obtain⟨b1,b2⟩:=qB hb;rw[e];have n1:len (a.num*b.den)<=j+k:=Vc.qH a1 (uF h2 b2);have n2:len (b.num*a.den)<=j+k:=Nat.le_trans (Vc.qH b1 (uF h1 a2)) (by omega);have n3:=Zn.aAi (a.num*b.den) (b.num*a.den);have h:=yT (k:=j+k+1) (p:=a.num*b.den+b.num*a.den) (q:=(a.den:Int)*b.den) (by omega) (Nat.le_trans (Vc.qH (uF h1 a2) (uF h2 b2)) (Nat.le_succ _));exact oF h.1 h.2
theorem lJ {a:Rat} {j k:Nat} (h:j<=k) (ha:aD [a] j=true):aD [a] k=true:=by
 obtain⟨a1,a2⟩:=qB ha;exact oF (Nat.le_trans a1 h) (Nat.le_trans a2 h)
theorem wT {B:Nat}:aD [(0:Rat)] B=true:=by
 have h:len 0<=B:=by show (aA 0).length<=_; rw[gA]; exact Nat.zero_le _
 exact oF h h
theorem qC {l:List Rat} {B:Nat} (h:∀ a∈l,aD [a] B=true):aD l B=true:=by
 unfold aD;rw[List.all_eq_true];intro a ha;have:=qB (h a ha);rw[Bool.and_eq_true];exact⟨decide_eq_true this.1,decide_eq_true this.2⟩
theorem wZ {l:List Rat} {B:Nat} (h:aD l B=true) {a:Rat} (ha:a∈l):aD [a] B=true:=oF (aAa h ha).1 (aAa h ha).2
theorem uJ {l:List Rat} {B:Nat} (h:aD l B=true) (i:Nat):aD [l.getD i 0] B=true:=by
 rcases Nat.lt_or_ge i l.length with hl | hl
 ·rw[List.getD_eq_getElem?_getD,List.getElem?_eq_getElem hl];exact wZ h (List.getElem_mem hl)
 ·rw[dI hl];exact wT
theorem wU {l:List Rat} {B:Nat} (h:aD l B=true):aD (aJ l) B=true:=qC fun a ha=>by
 rw[aCa] at ha;exact wZ h (List.mem_of_mem_take ha)
theorem aK0 {g:Nat->Rat} {n B:Nat} (h:∀ k,k<n->aD [g k] B=true):aD (tab g n) B=true:=qC fun a ha=>by
 unfold tab at ha;obtain⟨k,hk,rfl⟩:=List.mem_map.1 ha;exact h k (List.mem_range.1 hk)
theorem oZ {l:List Rat} {j k:Nat} (h:j<=k) (hl:aD l j=true):aD l k=true:=qC fun _ ha=>lJ h (wZ hl ha)
theorem aEa {a:Rat} {l:List Rat} {B:Nat} (ha:aD [a] B=true) (hl:aD l B=true):aD (a::l) B=true:=qC fun b hb=>by
 rcases List.mem_cons.1 hb with rfl | hb
 ·exact ha
 ·exact wZ hl hb
end Vc
end Go.Proofs.YtjmbkipbmbnhjaaGreat

namespace Go.Proofs.YtjmbkipbmbnhjaaGreat
open Go.RowKit Go.Shelf
open Dg Zn
namespace Vc
attribute [local go_sem] Oper.semAt_some
theorem oO.later {w w1 W W':World} {L:Nat->Prop} {B:Nat} {k:Option Nat} {T:TypeId} {s:SA Dm} (h:oO w w1 L B k T s W) (hb:Below W.heap.size W W'):oO w w1 L B k T s W':=by
 obtain⟨h1,h2,h3,v,cs,h4,h5,h6,h7⟩:=h;have hBl:B<W.heap.size:=by
  rcases Nat.lt_or_ge B W.heap.size with hl | hl
  ·exact hl
  ·rw[Array.getElem?_eq_none hl] at h4; cases h4
 refine⟨⟨hb.os.trans h1.os,hb.tape.trans h1.tape,hb.output.trans h1.output,Nat.le_trans h1.size hb.size,fun b hb'=>?_⟩,Nat.le_trans h2 hb.size,fun b hb' hne=>(hb.block b (by omega)).trans (h3 b hb' hne),v,cs,(hb.block B hBl).trans h4,h5,h6.keep (aG7 hb),h7⟩;have:=h1.size;rw[hb.block b (by omega)];exact h1.block b hb'
theorem aPd {B:Nat} {W W':World} (hb:Below W.heap.size W W'):KeepsFrom B W W':=⟨hb.size,fun k o _ hk _=>(hb.block k (Array.getElem?_eq_some_iff.1 hk).1).trans hk⟩
theorem aRy {n B:Nat} {W W':World} (hn:n<=W.heap.size) (hb:Below W.heap.size W W'):iP n B W W':=⟨hb.size,fun b hb' _=>hb.block b (by omega)⟩
def oH (p:List Rat) (x:Rat) (pre:List Nat):Rat:=pre.foldl (fun s k=>s*x+p.getD (p.length-1-k) 0) 0
theorem aG9 (p:List Rat) (x:Rat) (pre:List Nat) (k:Nat):oH p x (pre++[k])=oH p x pre*x+p.getD (p.length-1-k) 0:=by simp[oH]
def aBc (p:List Rat) (x:Rat):Rat:=oH p x (lT id p.length)
def gZ (K Kx n:Nat):Nat:=n*(Kx+K+1)+1
theorem aKk {K Kx i j:Nat} (h:i<=j):gZ K Kx i<=gZ K Kx j:=by
 have:=Nat.mul_le_mul_right (Kx+K+1) h;unfold gZ;omega
theorem aS6 {p:List Rat} {x:Rat} {K Kx:Nat} (h1:1<=K) (h2:1<=Kx) (hp:aD p K=true) (hx:aD [x] Kx=true):∀ pre:List Nat,aD [oH p x pre] (gZ K Kx pre.length)=true:=by
 have hK:∀ i,aD [p.getD i 0] K=true:=by
  intro i;rcases Nat.lt_or_ge i p.length with hl | hl
  ·have:=aAa hp (List.getElem_mem hl);rw[List.getD_eq_getElem?_getD,List.getElem?_eq_getElem hl];exact oF this.1 this.2
  ·rw[dI hl];exact wT
 have:∀ (pre:List Nat) (s:Rat) (m:Nat),1<=m->aD [s] m=true->aD [pre.foldl (fun s k=>s*x+p.getD (p.length-1-k) 0) s] (m+pre.length*(Kx+K+1))=true:=by
  intro pre
  induction pre with
  | nil=>intro s m _ hs; exact lJ (by omega) hs
  | cons k pre ih =>
   intro s m hm hs;rw[List.foldl_cons];have h:=ih (s*x+p.getD (p.length-1-k) 0) (m+Kx+K+1) (by omega) (aE0 (by omega) h1 (aAs hm h2 hs hx) (hK _));refine lJ ?_ h;rw[List.length_cons,Nat.succ_mul];omega
 intro pre;refine lJ ?_ (this pre 0 1 (Nat.le_refl _) wT);unfold gZ;omega
theorem aXj (w:World) (a b c d:Obj):∃ w1,(((w.alloc a).alloc b).alloc c).alloc d=w1/\w1.heap.size=w.heap.size+4/\w1.heap[w.heap.size]?=((w.alloc a).heap[w.heap.size]?)/\w1.heap[w.heap.size+1]?=((w.alloc a).alloc b).heap[w.heap.size+1]?/\w1.heap[w.heap.size+1+1]?=(((w.alloc a).alloc b).alloc c).heap[w.heap.size+1+1]?/\w1.heap[w.heap.size+1+1+1]?=((((w.alloc a).alloc b).alloc c).alloc d).heap[w.heap.size+1+1+1]?/\Below w.heap.size w w1/\∃ wA,wA.heap.size=w.heap.size+1+1/\Below w.heap.size w wA/\Below wA.heap.size wA w1/\wA.heap[w.heap.size+1]?=((w.alloc a).alloc b).heap[w.heap.size+1]?:=by
 have s1:(w.alloc a).heap.size=w.heap.size+1:=Array.size_push _;have s2:((w.alloc a).alloc b).heap.size=w.heap.size+1+1:=(Array.size_push _).trans (by rw[s1]);have s3:(((w.alloc a).alloc b).alloc c).heap.size=w.heap.size+1+1+1:=(Array.size_push _).trans (by rw[s2]);have s4:((((w.alloc a).alloc b).alloc c).alloc d).heap.size=w.heap.size+1+1+1+1:=(Array.size_push _).trans (by rw[s3]);have b4:∀ j,j<(((w.alloc a).alloc b).alloc c).heap.size->((((w.alloc a).alloc b).alloc c).alloc d).heap[j]?=(((w.alloc a).alloc b).alloc c).heap[j]?:=fun j hj=>Below.heap_alloc _ _ _ hj;have b3:∀ j,j<((w.alloc a).alloc b).heap.size->(((w.alloc a).alloc b).alloc c).heap[j]?=((w.alloc a).alloc b).heap[j]?:=fun j hj=>Below.heap_alloc _ _ _ hj;have b2:∀ j,j<(w.alloc a).heap.size->((w.alloc a).alloc b).heap[j]?=(w.alloc a).heap[j]?:=fun j hj=>Below.heap_alloc _ _ _ hj;refine⟨_,rfl,s4,?_,?_,?_,rfl,((((Below.refl _ w).alloc (Nat.le_refl _) _).alloc (by omega) _).alloc (by omega) _).alloc (by omega) _,(w.alloc a).alloc b,s2,((Below.refl _ w).alloc (Nat.le_refl _) _).alloc (by omega) _,((Below.refl _ _).alloc (Nat.le_refl _) _).alloc (by omega) _,rfl⟩
 ·rw[b4 _ (by omega),b3 _ (by omega),b2 _ (by omega)]
 ·rw[b4 _ (by omega),b3 _ (by omega)]
 ·rw[b4 _ (by omega)]
theorem alloc_at (w:World) (o:Obj) {n:Nat} (h:w.heap.size=n):(w.alloc o).heap[n]?=some o:=by subst h; exact heap_alloc_new w o
set_option maxRecDepth 100000 in
set_option maxHeartbeats 4000000 in
theorem aSr (p:List Rat) (x:Rat) (K Kx:Nat) (hp:p.length<=1000000) (hK:K<=1000000) (hKx:Kx<=1000000) (hK1:1<=K) (hKx1:1<=Kx) (hpz:aD p K=true) (hxz:aD [x] Kx=true) (hbd:gZ K Kx p.length<=1000000):aC Tryz.prog 99 [PL p K,RT x Kx] (.one (RT (aBc p x) (gZ K Kx p.length))):=by
 intro L ρ w vs hlt hni _ hall
 match vs,hall with
 | [v0,v1],⟨g0,g1,_⟩ =>
  obtain⟨ao,cap,rfl,hcap,hlst⟩:=rR (by decide) g0;rw[bL] at hcap hlst |-;have hx:=aK5 aE9 g1;obtain⟨sx,tx,rfl,n1,n2,_,_⟩:=g1 w (Agree.refl _ _);have hx1s:∀ c∈[Value.bool (decide (x.num<0)),sx,.bool (decide (qd x<0)),tx],c.oneCell'=true:=by
   obtain⟨_,_,rfl,_⟩:=n1;obtain⟨_,_,rfl,_⟩:=n2;simp[Value.oneCell']
  generalize hcx:(decide (x.num<0))=bx at *;generalize hcy:(decide (qd x<0))=bz at *;obtain⟨b,off,cs,hao,hsh,hel⟩:∃ b off,∃ cs:List Value,(0<p.length->ao=some ⟨b,off,none⟩/\b<w.heap.size)/\(∀ k,Shaped (some 4) (.agg #[cJ cs (p.length-1-k) 0,cJ cs (p.length-1-k) 1,cJ cs (p.length-1-k) 2,cJ cs (p.length-1-k) 3]) [cJ cs (p.length-1-k) 0,cJ cs (p.length-1-k) 1,cJ cs (p.length-1-k) 2,cJ cs (p.length-1-k) 3])/\∀ j,j<p.length->(w.cell? ⟨b,off+j*4,none⟩=some (cJ cs j 0)/\w.cell? ⟨b,off+j*4+1,none⟩=some (cJ cs j 1)/\w.cell? ⟨b,off+j*4+2,none⟩=some (cJ cs j 2)/\w.cell? ⟨b,off+j*4+3,none⟩=some (cJ cs j 3))/\iM L w (RT (p.getD j 0) K) (.agg #[cJ cs j 0,cJ cs j 1,cJ cs j 2,cJ cs j 3]):=by
   rcases Nat.eq_zero_or_pos p.length with h0 | h0
   ·exact⟨0,0,[.bool false,.slice none 0 0,.bool false,.slice none 0 0],fun h=>by omega,fun k=>by rw[show p.length-1-k=0 by omega]; exact⟨rfl,rfl,by simp[cJ,Value.oneCell']⟩,fun j hj=>by omega⟩
   ·obtain⟨b,off,e,⟨_,hb⟩,cs,hats,hcs⟩:=hlst h0;refine⟨b,off,cs,fun _=>⟨e,hb⟩,fun k=>(aFq (hats w (Agree.refl _ _)) (gE (K:=K) (by omega))).1.2,fun j hj=>?_⟩;have h4:=aFq (hats w (Agree.refl _ _)) (gE (K:=K) hj);have hi:∀ i,i<4->w.cell? ⟨b,off+j*4+i,none⟩=some (cJ cs j i):=fun i hi=>by
     rw[Nat.add_assoc];exact hcs _ _ (h4.2 i hi)
    exact⟨⟨hi 0 (by decide),hi 1 (by decide),hi 2 (by decide),hi 3 (by decide)⟩,aK4 aE9 fun w' hw=>(aFq (hats w' hw) (gE (K:=K) hj)).1.1⟩
  refine(callsIn_wide (n:=9)).1 ?_;refine callsIn_of_wp_marks Tryz.func99 rfl trivial ?_ rfl;simp only[Tryz.ntmps99,List.size_toArray,List.length_cons,List.length_nil,Nat.reduceAdd,Nat.reduceSub,Array.replicate_succ,Array.replicate_zero,List.push_toArray,List.append_toArray,List.nil_append,List.cons_append];have hs0:=(iM.at hx)
  gi_wp2_with (refine⟨trivial,?_⟩; gi_at_call 83; refine(aWe Fence.wide _ trivial rfl _ _ _ _).mono ?_; rintro e w' ⟨rfl,rfl⟩)
  have s3:(((w.alloc (.cells #[.bool bx,sx,.bool bz,tx] 31)).alloc (.cells #[.bool false,.slice none 0 0,.bool false,.slice none 0 0] 31)).alloc (.cells #[.bool false,.slice none 0 0,.bool false,.slice none 0 0] 31)).heap.size=w.heap.size+1+1+1:=by
   refine(Array.size_push _).trans (congrArg (·+1) ((Array.size_push _).trans (congrArg (·+1) (Array.size_push _))))
  obtain⟨w1,hw1,hs1,q3,q4,q5,q6,hb1,wA,hsA,hbA,hb1A,qA⟩:=aXj w (.cells #[.bool bx,sx,.bool bz,tx] 31) (.cells #[.bool false,.slice none 0 0,.bool false,.slice none 0 0] 31) (.cells #[.bool false,.slice none 0 0,.bool false,.slice none 0 0] 31) (.cells #[.slice ao p.length cap] 24);rw[alloc_at _ _ rfl] at q3;rw[alloc_at _ _ (Array.size_push _)] at q4 qA;rw[alloc_at _ _ ((Array.size_push _).trans (congrArg (·+1) (Array.size_push _)))] at q5;rw[alloc_at _ _ s3] at q6;rw[hw1];clear hw1 s3;have hB5:w.heap.size+1+1<w1.heap.size:=by omega
  have hlt1:∀ b,iO L (w.heap.size+1) b->b<wA.heap.size:=by
   rintro b (q | q)
   ·have:=hlt b q; omega
   ·omega
  have hni1:gH (iO L (w.heap.size+1)) wA:=by
   rintro b (q | rfl) cs' T' fr hc c hcm
   ·rw[hbA.block b (hlt b q)] at hc;exact hni b q cs' T' fr hc c hcm
   ·rw[qA] at hc;obtain⟨rfl,-,-⟩:=(Obj.cells.injEq _ _ _ _ _ _).mp (Option.some.inj hc);have hall:∀ c∈[Value.bool false,.slice none 0 0,.bool false,.slice none 0 0],cW c=true:=by simp[cW]
    exact hall c (by simpa using hcm)
  have hx':=yX (Nat.le_succ _) hbA hx;have hel':=fun j hj=>yX (Nat.le_succ _) hbA (hel j hj).2;have hBs:w1.cell? ⟨w.heap.size+1+1+1,0,none⟩=some (.slice ao p.length cap):=by simp[World.cell?,q6]
  have hfold:∀ k,((#[10,11]:Array Tmp).zip (yG p.length (fun j=>.agg #[cJ cs j 0,cJ cs j 1,cJ cs j 2,cJ cs j 3]) k)).foldl (fun t (p,v)=>t.setIfInBounds p v) #[.slice ao p.length cap,.agg #[.bool bx,sx,.bool bz,tx],undef,.pointer (some ⟨w.heap.size,0,none⟩),.pointer (some ⟨w.heap.size+1,0,none⟩),.pointer (some ⟨w.heap.size+1+1,0,none⟩),undef,undef,.slice ao p.length cap,.func (.func 130) #[] #[.pointer (some ⟨w.heap.size+1+1+1,0,none⟩)],undef,undef,undef,undef,undef,undef,undef,undef]=#[.slice ao p.length cap,.agg #[.bool bx,sx,.bool bz,tx],undef,.pointer (some ⟨w.heap.size,0,none⟩),.pointer (some ⟨w.heap.size+1,0,none⟩),.pointer (some ⟨w.heap.size+1+1,0,none⟩),undef,undef,.slice ao p.length cap,.func (.func 130) #[] #[.pointer (some ⟨w.heap.size+1+1+1,0,none⟩)],.int .i64 ((p.length-1-k:Nat):Int),.agg #[cJ cs (p.length-1-k) 0,cJ cs (p.length-1-k) 1,cJ cs (p.length-1-k) 2,cJ cs (p.length-1-k) 3],undef,undef,undef,undef,undef,undef]:=by
   intro k;simp[yG]
  refine wpIn_rangeFunc_ownH (α:=Nat) rfl (by decide) (gf:=130) (lb:=#[.pointer (some ⟨w.heap.size+1+1+1,0,none⟩)]) rfl trivial (enters_of Tryz.func130 (by kernel_rfl) rfl)
   (aQl (C:=cJ cs) (B:=w.heap.size+1+1) (b:=b) (off:=off) (by decide) (fun h=>(hao h).1) hp hBs (by omega) (fun h=>⟨by have:=(hao h).2; omega,fun j hj=>by
    obtain⟨⟨e0,e1,e2,e3⟩,_⟩:=hel j hj;have hk:=(aG7 (L:=fun _=>False) hb1).2 b (fun q=>q);exact⟨hk _ _ e0,hk _ _ e1,hk _ _ e2,hk _ _ e3⟩⟩)) iP.trans (iP.put (Nat.le_refl _)) (Below.refl _ _) (fun _=>rfl)
   (fun pre W=>oO wA w1 (iO (iO L (w.heap.size+1)) (w.heap.size+1+1)) (w.heap.size+1+1) (some 4) 31 (RT (oH p x pre) (gZ K Kx pre.length)) W)
   (fun _ _ _=>False) (oO.own (f:=fun pre=>RT (oH p x pre) (gZ K Kx pre.length)) (by omega)) (fun _ _ _ _ _ hs _ _=>hs) ?start
   (fun k a' W=>∃ Bx,w1.heap.size<=Bx/\W.heap[Bx]?=some (.cells [cJ cs (p.length-1-k) 0,cJ cs (p.length-1-k) 1,cJ cs (p.length-1-k) 2,cJ cs (p.length-1-k) 3].toArray 31 (0,0))/\a'=Act.put { tmps:=#[.slice ao p.length cap,.agg #[.bool bx,sx,.bool bz,tx],undef,.pointer (some ⟨w.heap.size,0,none⟩),.pointer (some ⟨w.heap.size+1,0,none⟩),.pointer (some ⟨w.heap.size+1+1,0,none⟩),undef,undef,.slice ao p.length cap,.func (.func 130) #[] #[.pointer (some ⟨w.heap.size+1+1+1,0,none⟩)],.int .i64 ((p.length-1-k:Nat):Int),.agg #[cJ cs (p.length-1-k) 0,cJ cs (p.length-1-k) 1,cJ cs (p.length-1-k) 2,cJ cs (p.length-1-k) 3],undef,undef,undef,undef,undef,undef],defers:=[] } (some 7) (.pointer (some ⟨Bx,0,none⟩))) ?hAx ?assign ?body ?done ?stop
  case start =>
   refine⟨hb1A,Nat.le_refl _,fun _ _ _=>rfl,eR,[.bool false,.slice none 0 0,.bool false,.slice none 0 0],q5,⟨rfl,rfl,by simp[Value.oneCell']⟩,fun W' _=>?_,by simp[cW]⟩;have h0:(aA (0:Int).natAbs).length<=gZ K Kx ([]:List Nat).length:=by rw[show (0:Int).natAbs=0 from rfl,gA]; exact Nat.zero_le _
   exact⟨_,_,rfl,aM.nil (by decide),aM.nil (by decide),h0,h0⟩
  case hAx =>
   rintro k a' _ W W' row ⟨Bx,h1,h2,h3⟩ hg hr;refine⟨Bx,h1,?_,h3⟩;rw[hg.block Bx (Array.getElem?_eq_some_iff.1 h2).1 (fun e=>by
    obtain⟨_,o',m2,m3⟩:=hr Bx e.symm;rw[h2] at m2;obtain rfl:=Option.some.inj m2;cases m3)]
   exact h2
  case assign =>
   intro l pre k W K' hi hK';show Code.wpIn _ _ _ _ _ (Act.mk (((#[10,11]:Array Tmp).zip (yG p.length (fun j=>.agg #[cJ cs j 0,cJ cs j 1,cJ cs j 2,cJ cs j 3]) k)).foldl (fun t (p,v)=>t.setIfInBounds p v) #[.slice ao p.length cap,.agg #[.bool bx,sx,.bool bz,tx],undef,.pointer (some ⟨w.heap.size,0,none⟩),.pointer (some ⟨w.heap.size+1,0,none⟩),.pointer (some ⟨w.heap.size+1+1,0,none⟩),undef,undef,.slice ao p.length cap,.func (.func 130) #[] #[.pointer (some ⟨w.heap.size+1+1+1,0,none⟩)],undef,undef,undef,undef,undef,undef,undef,undef]) []) W;rw[hfold k];exact aQm (u7:=7) (u11:=11) (Nat.le_of_ble_eq_true rfl) (by decide) rfl (hsh k) rfl rfl rfl rfl rfl rfl fun W2 hb _ hcell=>hK' _ W2 (aPd hb) (aRy hi.size hb) (hi.later hb) ⟨W.heap.size,hi.size,hcell,rfl⟩
  case stop =>
   rintro D c pre W _ _ h _;exact h.elim
  case done =>
   intro D ys W hD hys hI hKD;have hsame4:=hI.same (w.heap.size+1) (by omega) (by omega);obtain⟨v,cs5,c1,c2,c3,c4⟩:=hI.var;obtain⟨s5,t5,e5,⟨ao5,cap5,e6,_⟩,⟨ao7,cap7,e7,_⟩,_,_⟩:=c3.at;obtain⟨b5,a5,n5,k5,b6,a6,n6,k6,hv⟩:∃ b5 a5 n5 k5 b6 a6 n6 k6,v=.agg #[.bool b5,.slice a5 n5 k5,.bool b6,.slice a6 n6 k6]:=⟨_,_,_,_,_,_,_,_,by rw[e5,e6,e7]⟩
   have hcs:cs5=[.bool b5,.slice a5 n5 k5,.bool b6,.slice a6 n6 k6]:=by
    have h:=c2.1;rw[hv] at h;injection h with h;have h:=congrArg Array.toList h;simpa using h.symm
   subst hcs;clear e5 e6 e7;have f0:W.cell? ⟨w.heap.size+1+1,0,none⟩=some (.bool b5):=by simp[World.cell?,c1]
   have f1:W.cell? ⟨w.heap.size+1+1,1,none⟩=some (.slice a5 n5 k5):=by simp[World.cell?,c1]
   have f2:W.cell? ⟨w.heap.size+1+1,2,none⟩=some (.bool b6):=by simp[World.cell?,c1]
   have f3:W.cell? ⟨w.heap.size+1+1,3,none⟩=some (.slice a6 n6 k6):=by simp[World.cell?,c1]
   have e4:W.heap[w.heap.size+1]?=some (.cells #[.bool false,.slice none 0 0,.bool false,.slice none 0 0] 31 (0,0)):=hsame4.trans q4;have h0:W.cell? ⟨w.heap.size+1,0,none⟩=some (.bool false):=by simp[World.cell?,e4]
   have h1:W.cell? ⟨w.heap.size+1,1,none⟩=some (.slice none 0 0):=by simp[World.cell?,e4]
   have h2:W.cell? ⟨w.heap.size+1,2,none⟩=some (.bool false):=by simp[World.cell?,e4]
   have h3:W.cell? ⟨w.heap.size+1,3,none⟩=some (.slice none 0 0):=by simp[World.cell?,e4]
   have z0:∀ i,W.frozen? ⟨w.heap.size+1,i,none⟩=false:=fun i=>by simp[World.frozen?,e4]
   have y0:=z0 0;have y1:=z0 1;have y2:=z0 2;have y3:=z0 3
   gi_wp2
   have hbl:Below W.heap.size W W:=Below.refl _ _;obtain⟨W4,hW4⟩:∃ W4,W4=W.setCells (w.heap.size+1) 0 [.bool b5,.slice a5 n5 k5,.bool b6,.slice a6 n6 k6]:=⟨_,rfl⟩
   have hW4':((((W.setCell ⟨w.heap.size+1,0,none⟩ (.bool b5)).setCell ⟨w.heap.size+1,1,none⟩ (.slice a5 n5 k5)).setCell ⟨w.heap.size+1,2,none⟩ (.bool b6)).setCell ⟨w.heap.size+1,3,none⟩ (.slice a6 n6 k6))=W4:=by
    rw[hW4];rfl
   rw[hW4'];have hD4:W4.heap[D]?=some (.deferred (some [])):=by
    rw[hW4,lX _ _ _ _ D (by omega)];exact hKD
   have g4:W4.heap[w.heap.size+1]?=some (.cells [.bool b5,.slice a5 n5 k5,.bool b6,.slice a6 n6 k6].toArray 31 (0,0)):=by
    rw[hW4];exact oT (w.heap.size+1) 31 [.bool b5,.slice a5 n5 k5,.bool b6,.slice a6 n6 k6] [.bool false,.slice none 0 0,.bool false,.slice none 0 0] [] [] W rfl e4
   refine⟨by simp,.inl ⟨_,_,rfl,run_takeDeferred hD4,?_⟩⟩;have hDl:D<W4.heap.size:=(Array.getElem?_eq_some_iff.1 hD4).1;have hn4:w.heap.size+1≠D:=by omega
   have g5:(W4.putObj D (.deferred none)).heap[w.heap.size+1]?=some (.cells [.bool b5,.slice a5 n5 k5,.bool b6,.slice a6 n6 k6].toArray 31 (0,0)):=(World.putObj_heap_other hn4).trans g4;refine⟨v,?_,v,rfl,?_,?_⟩
   ·have e:∀ tm:Array Value,tm.getD 4 undef=.pointer (some ⟨w.heap.size+1,0,none⟩)->(results Tryz.f99 tm).run Tryz.prog (W4.putObj D (.deferred none))=.ok v (W4.putObj D (.deferred none)):=by
     intro tm htm;have h1:(iZ tm (.cell 4 31)).run Tryz.prog (W4.putObj D (.deferred none))=.ok v (W4.putObj D (.deferred none)):=by
      have hl:=vO (P:=Tryz.prog) (w:=W4.putObj D (.deferred none)) (b:=w.heap.size+1) (off:=0) (cs:=[.bool b5,.slice a5 n5 k5,.bool b6,.slice a6 n6 k6]) (ty:=31) (k:=some 4) (v:=v) (fun j c hj=>by rw[Nat.zero_add]; simpa[World.cell?,g5] using hj) c2 aB;simp only[iZ,htm,asAddr,Sem.run_bind,Sem.run_pure,Result.andThen_ok,hl]
     have h2:(results Tryz.f99 tm).run Tryz.prog (W4.putObj D (.deferred none))=((iZ tm (.cell 4 31)).run Tryz.prog (W4.putObj D (.deferred none))).andThen fun v w=>.ok v w:=by
      simp[results,show Tryz.f99.results=#[.cell 4 31] from rfl,iZ,andThen_assoc,aGq]
     rw[h2,h1];rfl
    exact e _ rfl
   ·refine⟨?_,?_,?_,?_,fun j hj=>?_⟩
    ·show W4.os=_;rw[hW4,os_setCells]; exact(hbA.os ▸ hI.below.os)
    ·show W4.tape=_;rw[hW4,nM]; exact(hbA.tape ▸ hI.below.tape)
    ·show W4.output=_;rw[hW4,nO]; exact(hbA.output ▸ hI.below.output)
    ·have h1:=hI.below.size;have h2:W4.heap.size=W.heap.size:=by rw[hW4]; exact kY ..
     simp;omega
    ·have h1:=hI.below.size;rw[World.putObj_heap_other (by omega),hW4,lX _ _ _ _ j (by omega),hI.below.block j (by omega)];exact hbA.block j hj
   ·have hev:aBc p x=oH p x ys:=by rw[hys]; rfl
    have hyl:ys.length=p.length:=by rw[hys,aHc]
    rw[hev,<- hyl];refine xT (ρ:=ρ) fun w'' hag=>c3 w'' ?_;refine jM.trans ?_ (jM.trans (aG6 (grownBy_putObj' W4 D (.deferred none)) (fun r e=>by cases e; exact⟨_,hD4,rfl⟩)) ?_)
    ·rw[hW4];exact aJ2 (.inl (.inr rfl))
    ·have:=jM.agree hag;exact⟨this.1,fun b hb=>this.2 b fun q=>hb (.inl (.inl q))⟩
  case body =>
   rintro l pre k a' W hl _ hi ⟨Bx,hx1,hx2,rfl⟩ hlen;have hbW:=hi.below.size;obtain⟨vc,csv,c1,c2,c3,c4⟩:=hi.var;have hkl:p.length-1-k<p.length:=by omega
   have hpre:gZ K Kx pre.length<=1000000:=Nat.le_trans (aKk (Nat.le_of_lt hlen)) hbd;have hnew:=aS6 hK1 hKx1 hpz hxz (pre++[k]);have h3W:W.heap[w.heap.size]?=some (.cells [Value.bool bx,sx,.bool bz,tx].toArray 31 (0,0)):=(hi.same _ (by omega) (by omega)).trans q3;have hxp:(SA.d (Dm.gen (pG (some 4) (RT x Kx)))).is (iO (iO L (w.heap.size+1)) (w.heap.size+1+1)) ρ W (.pointer (some ⟨w.heap.size,0,none⟩)):=aE3 h3W (by rintro((q | q) | q); exact absurd (hlt _ q) (by omega); omega; omega) ⟨rfl,rfl,hx1s⟩ (yX (by omega) hi.below hx');have hap:(SA.d (Dm.gen (pG (some 4) (RT (p.getD (p.length-1-k) 0) K)))).is (iO (iO L (w.heap.size+1)) (w.heap.size+1+1)) ρ W (.pointer (some ⟨Bx,0,none⟩)):=aE3 hx2 (by rintro((q | q) | q); exact absurd (hlt _ q) (by omega); omega; omega) (hsh k) (yX (by omega) hi.below (hel' _ hkl));have hBlW:w.heap.size+1+1<W.heap.size:=by have:=hi.size; omega
   refine wpIn_block (wpIn_mono (RV.wpIn (x0:=.no) (C:=CS W (iO (iO L (w.heap.size+1)) (w.heap.size+1+1)) (aW5 hlt1 hbW hBlW) (aW4 hlt1 hni1 hi) 18 (w.heap.size+1+1) (some 4) (RT (oH p x (pre++[k])) (gZ K Kx (pre++[k]).length))) (K:=fun l=>aH .no l FK=.dead)
    (l:=[(.s 3,.av (.one (.d (Dm.gen (pG (some 4) (RT x Kx)))))),(.s 5,.av (.one (.v (.pointer (some ⟨w.heap.size+1+1,0,none⟩))))),(.s 7,.av (.one (.d (Dm.gen (pG (some 4) (RT (p.getD (p.length-1-k) 0) K))))))]) (fun a w h=>CS.drew rfl h) (by kernel_rfl) (fun _=>by kernel_rfl) (by kernel_rfl) ?walk ?begin) ?after)
   case begin =>
    refine .inl ⟨rfl,ρ,aHf (Eq.refl 18) rfl (fun i=>rfl) fun t=>?_⟩;by_cases e3:t=3
    ·subst e3; exact .inr ⟨_,rfl,rfl,hxp⟩
    ·by_cases e5:t=5
     ·subst e5; exact .inr ⟨_,rfl,rfl,rfl⟩
     ·by_cases e7:t=7
      ·subst e7; exact .inr ⟨_,rfl,rfl,hap⟩
      ·refine .inl ?_;show (bif Key.beq (.s 3) (.s t) then _ else bif Key.beq (.s 5) (.s t) then _ else bif Key.beq (.s 7) (.s t) then _ else _)=_;rw[gR (by simpa using Ne.symm e3),gR (by simpa using Ne.symm e5),gR (by simpa using Ne.symm e7)];rfl
   case walk =>
    rw[aG9] at hnew |-;refine gB (wG (aTq c1 c2 c3 rfl aB rfl rfl (by decide) rfl) rfl rfl rfl) ?_;refine gB (wG (cD aB) rfl rfl rfl) ?_;refine gB (wG (aU (oA _ _ _ _ (by omega) (by omega)) rfl rfl (by decide) Tryz.func87 rfl rfl (.cons rfl cP.any (.cons rfl cP.any .nil)) rfl rfl rfl) rfl rfl rfl) ?_;refine gB (wG (cD aB) rfl rfl rfl) ?_;refine gB (wG (aU ((wS _ _ (3*(gZ K Kx pre.length+Kx)+20) K (by omega) (by omega)).mono (fun _ _ _ _ h=>h) (dY hnew)) rfl rfl (by decide) Tryz.func56 rfl rfl (.cons rfl cP.any (.cons rfl cP.any .nil)) rfl rfl rfl) rfl rfl rfl) ?_;refine gB (aO4 c1 c2.length aE9 rfl cS rfl rfl rfl rfl rfl rfl) ?_;exact bP (by kernel_rfl) rfl
   case after =>
    intro e a'' W'' he;cases e with
    | normal =>
     obtain⟨l',h1,h2⟩:=he;rcases h2 with ⟨h3,_⟩ | ⟨_,h3⟩
     ·rw[h1] at h3; cases h3
     ·exact aR3 (by omega) (Nat.le_refl _) hi rfl h3
    | ret=>exact he.elim
    | exit id=>exact he.elim
    | goto t=>exact he.elim
    | panic c=>exact he.elim
    | outgrown=>exact he.elim
end Vc
end Go.Proofs.YtjmbkipbmbnhjaaGreat

namespace Go.Proofs.YtjmbkipbmbnhjaaGreat
open Go.RowKit Go.Shelf
open Dg Zn
namespace Vc
attribute [local go_sem] Oper.semAt_some
def aWx (p:List Rat) (x:Rat) (pre:List Nat):List Rat:=pre.foldl (fun s k=>eI (p.getD (p.length-1-k) 0::s) (aI s x)) []
theorem aKn (p q:List Rat):(eI p q).length<=max p.length q.length:=by
 unfold eI;refine Nat.le_trans (jK _) ?_;rw[iA];exact Nat.le_refl _
end Vc
end Go.Proofs.YtjmbkipbmbnhjaaGreat

namespace Go.Proofs.YtjmbkipbmbnhjaaGreat
open Go.RowKit
open Go.Lib (hid)
open Dg Zn
namespace Vc
theorem yZ {k:IntKind} {zs:List Int}:∀ s∈jG k zs,s.kind=some none:=by
 intro s hs;obtain⟨z,_,rfl⟩:=List.mem_map.1 hs;rfl
theorem zK (zs:List Int) (h:(zs.all fun z=>decide (-9223372036854775808<=z)&&decide (z<=9223372036854775807))=true) (i:Nat) : -9223372036854775808<=zs.getD i 0/\zs.getD i 0<=9223372036854775807:=by
 rcases Nat.lt_or_ge i zs.length with hl | hl
 ·have:=List.all_eq_true.1 h zs[i] (List.getElem_mem hl);rw[Bool.and_eq_true] at this;rw[List.getD_eq_getElem?_getD,List.getElem?_eq_getElem hl];exact⟨of_decide_eq_true this.1,of_decide_eq_true this.2⟩
 ·rw[List.getD_eq_getElem?_getD,List.getElem?_eq_none hl];exact⟨by decide,by decide⟩
theorem aVf {a b:Rat} (h:a=b) {j k:Nat}:aC Tryz.prog 18 [RT a j,RT b k] (.one (.v (.bool true))):=by
 have:=aGv a b j k;rw[decide_eq_true h] at this;exact this
theorem aWm (p:List Rat) (K:Nat) (hK:K<=1000000) (hp:p.length<=1000000) (h:¬ (p≠[]/\aK p=0)):aC Tryz.prog 65 [PL p K] (.one (.v (.bool true))):=by
 have:=aQu p K hK hp;rw[decide_eq_true h] at this;exact this
set_option maxRecDepth 100000
theorem aQn (z:Int):0<=dU z 105/\dU z 105<105:=by
 unfold dU;exact⟨Int.emod_nonneg _ (by decide),Int.emod_lt_of_pos _ (by decide)⟩
def aO (z:Int):Rat:=Rat.divInt ((dU z 105).tmod 15-7) (1+((dU z 105).tdiv 15).tmod 4)
theorem small_facts (z:Int):(0<=(dU z 105).tmod 15/\(dU z 105).tmod 15<15)/\(0<=(dU z 105).tdiv 15/\(dU z 105).tdiv 15<=7)/\(0<=((dU z 105).tdiv 15).tmod 4/\((dU z 105).tdiv 15).tmod 4<4):=by
 obtain⟨h1,h2⟩:=aQn z;generalize dU z 105=m at *;have d0:0<=m.tdiv 15:=Int.tdiv_nonneg h1 (by decide);refine⟨⟨Int.tmod_nonneg _ h1,Int.tmod_lt_of_pos _ (by decide)⟩,⟨d0,?_⟩,⟨Int.tmod_nonneg _ d0,Int.tmod_lt_of_pos _ (by decide)⟩⟩;rw[Int.tdiv_eq_ediv_of_nonneg h1];omega
theorem dC (z:Int):aD [aO z] 1=true:=by
 obtain⟨⟨a1,a2⟩,_,b1,b2⟩:=small_facts z;have h:=yT (p:=(dU z 105).tmod 15-7) (q:=1+((dU z 105).tdiv 15).tmod 4) (k:=1) (by rw[kP]; omega) (by rw[kP]; omega);exact oF h.1 h.2
theorem eZ (z:Int) (h1 : -9223372036854775808<=z) (h2:z<=9223372036854775807):aC (D:=Dm) Tryz.prog 11 [.v (.int .i64 z)] (.one (RT (aO z) 1)):=by
 have hf:=small_facts z;refine aC.of (n:=14) Tryz.func11 rfl rfl rfl rfl rfl fun cx hfr=>?_;refine sr rfl ?_;refine p2 (aV (i:=0) bS) ?_;refine RV.done (sr rfl ?_);refine xm ?_;refine xd rfl (aQz z 105 h1 h2 (by decide) (by decide)) Tryz.func22 (xb rfl rfl) hfr ?_;refine xn ?_;refine RV.done (sr rfl ?_);refine xm ?_;refine p1 (aE5 (by decide) rfl rfl bd rfl rfl) ?_;refine p1 (eD (c:=(dU z 105).tmod 15-7) (by rw[cF (by omega) (by omega)]) rfl rfl bd rfl rfl) ?_;refine xm ?_;refine p1 (aE6 (c:=(dU z 105).tdiv 15) (by decide) (cF (by omega) (by omega)) rfl rfl bd rfl rfl) ?_;refine p1 (aE5 (by decide) rfl rfl bd rfl rfl) ?_;refine p1 (cU (c:=1+((dU z 105).tdiv 15).tmod 4) (by rw[cF (by omega) (by omega)]) rfl rfl bd rfl rfl) ?_;refine xd rfl ((rO ((dU z 105).tmod 15-7) (1+((dU z 105).tdiv 15).tmod 4) (by omega) (by omega) (by omega) (by omega)).mono (fun _ _ _ _ h=>h) (dY (dC z))) Tryz.func32 (xb rfl rfl) hfr ?_;refine p1 (aP (aB).2) ?_;refine RV.done ?_;refine CV.ret ?_;exact aW rfl (.inr rfl) ⟨_,_,_,_,_,rfl,rfl,rfl,aB⟩ cH
theorem aVe {k:Option Nat} {l l':List (SA Dm)} (h:gL (fun s s':SA Dm=>∀ L ρ w v,s.is L ρ w v->s'.is L ρ w v) l l'):∀ L ρ w cs,cE L ρ w (cY k l) cs->cE L ρ w (cY k l') cs:=by
 induction h with
 | nil=>intro L ρ w cs h; exact h
 | cons h1 _ ih =>
  rintro L ρ w cs ⟨p,r,v,e1,e2,e3,e4⟩;exact⟨p,r,v,e1,e2,h1 L ρ w v e3,ih L ρ w r e4⟩
theorem aSx {B:Nat}:∀ L ρ w v,(SA.v eR:SA Dm).is L ρ w v->(RT 0 B).is L ρ w v:=by
 intro L ρ w v hv w' _;obtain rfl:v=eR:=hv;have h0:(aA (0:Int).natAbs).length<=B:=by rw[show (0:Int).natAbs=0 from rfl,gA]; exact Nat.zero_le _
 exact⟨_,_,rfl,aM.nil (by decide),aM.nil (by decide),h0,h0⟩
theorem aTx {T:TypeId} {n B:Nat} {f:Nat->Nat}:(XV.row T (some 4) (List.replicate n (SA.v eR)):XV Dm).leR f (.row T (some 4) (bV (List.replicate n 0) B)):=by
 have h:gL (fun s s':SA Dm=>∀ L ρ w v,s.is L ρ w v->s'.is L ρ w v) (List.replicate n (SA.v eR)) (bV (List.replicate n 0) B):=by
  unfold bV;rw[List.map_replicate]
  induction n with
  | zero=>exact .nil
  | succ n ih=>rw[List.replicate_succ,List.replicate_succ]; exact .cons aSx ih
 exact⟨rfl,rfl,h.length_eq,fun _=>aDe,aVe h⟩
theorem aVl {l:List Rat} {B i:Nat} {a:Rat}:(bV l B).set i (RT a B)=bV (l.set i a) B:=by simp[bV,List.map_set]
def lN (p q:List Rat) (i:Nat):Nat->List Rat->List Rat
 | 0,l=>l
 | j+1,l=>(lN p q i j l).set (i+j) ((lN p q i j l).getD (i+j) 0+p.getD i 0*q.getD j 0)
def jZ (p q:List Rat):Nat->List Rat
 | 0=>List.replicate (p.length+q.length-1) 0
 | i+1=>lN p q i q.length (jZ p q i)
def kR (p q:List Rat):List Rat:=if p=[]\/q=[] then [] else aJ (jZ p q p.length)
theorem zR {p q:List Rat} {i:Nat}:∀ {j:Nat} {l:List Rat},(lN p q i j l).length=l.length
 | 0,_=>rfl
 | j+1,l=>by rw[lN,List.length_set,zR]
theorem uC {p q:List Rat}:∀ {i:Nat},(jZ p q i).length=p.length+q.length-1
 | 0=>List.length_replicate
 | i+1=>by rw[jZ,zR,uC]
theorem aWv {l:List Rat} {B i:Nat} {a:Rat} (hl:aD l B=true) (ha:aD [a] B=true):aD (l.set i a) B=true:=qC fun b hb=>by
 rcases List.mem_or_eq_of_mem_set hb with hb | rfl
 ·exact wZ hl hb
 ·exact ha
theorem aD9 {p q:List Rat} {K J:Nat} (h1:1<=K) (h2:1<=J) (hp:aD p K=true) (hq:aD q J=true) {i:Nat}:∀ {j m:Nat} {l:List Rat},1<=m->aD l m=true->aD (lN p q i j l) (m+j*(K+J+1))=true
 | 0,m,l,_,hl=>oZ (Nat.le_add_right _ _) hl
 | j+1,m,l,hm,hl=>by
  have ih:=aD9 h1 h2 hp hq (i:=i) (j:=j) hm hl;rw[lN,Nat.succ_mul];refine aWv (oZ (by omega) ih) (lJ ?_ (aE0 (by omega) (by omega) (uJ ih (i+j)) (aAs h1 h2 (uJ hp i) (uJ hq j))));omega
theorem aD8 {p q:List Rat} {K J:Nat} (h1:1<=K) (h2:1<=J) (hp:aD p K=true) (hq:aD q J=true):∀ {i:Nat},aD (jZ p q i) (1+i*(q.length*(K+J+1)))=true
 | 0=>qC fun a ha=>by rw[List.eq_of_mem_replicate ha]; exact wT
 | i+1=>by
  rw[jZ,Nat.succ_mul,<- Nat.add_assoc];exact aD9 h1 h2 hp hq (by omega) (aD8 h1 h2 hp hq)
theorem aRj (p q:List Rat) (K J B:Nat) (hp:p.length<=1000000) (hq:q.length<=1000000) (h:p=[]\/q=[]):aC Tryz.prog 42 [PL p K,PL q J] (.one (PL [] B)):=by
 refine aC.of (n:=58) Tryz.func42 rfl rfl rfl rfl rfl fun cx hfr=>?_;refine sr rfl ?_;refine xn ?_;refine RV.done ?_;refine CV.seq ?_;refine sr rfl ?_;refine xm ?_;refine p1 (bY bL bG) ?_;refine p1 (dF) ?_;refine xm ?_;refine RV.bool (fun h0=>?_) (fun h0=>?_)
 ·refine xk ?_;refine xk ?_;refine xk ?_;refine p1 (cI) ?_;refine RV.done ?_;refine CV.yes rfl ?_;refine sr rfl ?_;refine xn ?_;refine RV.done ?_;refine CV.ret ?_;exact aW rfl (.inr rfl) rfl (fun L ρ w v h=>xD L ρ w v h)
 ·refine y1 (bU (.inl rfl)) ?_;refine y1 (bY bL bG) ?_;refine y1 (dF) ?_;refine p1 (cN) ?_;refine RV.done ?_;refine CV.cond rfl (fun hc=>?_) (fun hc=>False.elim (h.elim (fun e=>by rw[e] at h0; simp at h0) (fun e=>by rw[e] at hc; simp at hc)));refine sr rfl ?_;refine xn ?_;refine RV.done ?_;refine CV.ret ?_;exact aW rfl (.inr rfl) rfl (fun L ρ w v h=>xD L ρ w v h)
section
variable (p q:List Rat) (K J B:Nat) (hp:p.length<=100000) (hq:q.length<=100000) (hp0:p≠[]) (hq0:q≠[]) (hK:K<=150000) (hJ:J<=150000) (hB:B<=1000000) (hz:∀ i j,i<p.length->j<=q.length->aD (lN p q i j (jZ p q i)) B=true)
include hp hq hp0 hq0 hK hJ hB hz
theorem aRi:aC Tryz.prog 42 [PL p K,PL q J] (.one (PL (aJ (jZ p q p.length)) B)):=by
 have hpl:=List.length_pos_iff.2 hp0;have hql:=List.length_pos_iff.2 hq0;refine aC.of (n:=58) Tryz.func42 rfl rfl rfl rfl rfl fun cx hfr=>?_;refine sr rfl ?_;refine xn ?_;refine RV.done ?_;refine CV.seq ?_;refine sr rfl ?_;refine xm ?_;refine p1 (bY bL bG) ?_;refine p1 (dF) ?_;refine xm ?_;refine RV.bool (fun hb=>False.elim (by simp at hb; exact hp0 hb)) (fun hb=>?_);refine y1 (bU (.inl rfl)) ?_;refine y1 (bY bL bG) ?_;refine y1 (dF) ?_;refine p1 (cN) ?_;refine RV.done ?_;refine CV.cond rfl (fun hc=>False.elim (by simp at hc; exact hq0 hc)) (fun hc=>?_);refine CV.skip ?_;refine sr rfl ?_;refine xm ?_;refine p1 (bY bL bG) ?_;refine xm ?_;refine p1 (bY bL bG) ?_;refine p1 (cU (c:=((p.length+q.length:Nat):Int)) (by rw[cF (by omega) (by omega)]; omega) rfl rfl bd rfl rfl) ?_;refine p1 (eD (c:=((p.length+q.length-1:Nat):Int)) (by rw[cF (by omega) (by omega)]; omega) rfl rfl bd rfl rfl) ?_;refine p2 (aAd (r:=22) (Nat.le_refl _) (by omega) (by omega) eS mH rfl rfl rfl rfl bd rfl rfl rfl rfl rfl) ?_;refine xn ?_;refine RV.done ?_;refine CV.seq ?_;refine sr rfl ?_;refine xn ?_;refine RV.done ?_;refine CV.block ?_;refine CV.loop (X:={i:Nat // i<=p.length}) (fun i=>[(.s 6,.av (.one (.v (.int .i64 (i.1:Int))))),(.s 5,.av (.one (.sl 22 (p.length+q.length-1)))),(.b 22,.row 31 (some 4) (bV (jZ p q i.1) B)),(.s 0,.av (.one (PL p K))),(.s 1,.av (.one (PL q J)))]) (fun i=>p.length-i.1) ⟨0,Nat.zero_le _⟩ (bQ.mk ⟨aF _,aF _,aTx,aF _,aF _,trivial⟩ rfl rfl) (fun i=>?_);obtain⟨i,hi⟩:=i;simp only;refine CV.seq ?_;refine sr rfl ?_;refine xm ?_;refine xm ?_;refine p1 (bY bL bG) ?_;refine p1 (eE) ?_;refine RV.done ?_;refine CV.cond rfl (fun hc=>?_) (fun hc=>?_)
 ·have hlt:i<p.length:=(by have:=of_decide_eq_true hc; omega)
  refine CV.skip ?_;refine CV.seq ?_;refine CV.block ?_;refine sr rfl ?_;refine xn ?_;refine RV.done ?_;refine CV.block ?_;refine CV.loop (X:={j:Nat // j<=q.length}) (fun j=>[(.s 7,.av (.one (.v (.int .i64 (j.1:Int))))),(.s 6,.av (.one (.v (.int .i64 (i:Int))))),(.s 5,.av (.one (.sl 22 (p.length+q.length-1)))),(.b 22,.row 31 (some 4) (bV (lN p q i j.1 (jZ p q i)) B)),(.s 0,.av (.one (PL p K))),(.s 1,.av (.one (PL q J)))]) (fun j=>q.length-j.1) ⟨0,Nat.zero_le _⟩ (bQ.mk ⟨aF _,aF _,aF _,aF _,aF _,aF _,trivial⟩ rfl rfl) (fun j=>?_);obtain⟨j,hj⟩:=j;simp only;refine CV.seq ?_;refine sr rfl ?_;refine xm ?_;refine xm ?_;refine p1 (bY bL bG) ?_;refine p1 (eE) ?_;refine RV.done ?_;refine CV.cond rfl (fun hd=>?_) (fun hd=>?_)
  ·have hlj:j<q.length:=(by have:=of_decide_eq_true hd; omega)
   have hlen:(lN p q i j (jZ p q i)).length=p.length+q.length-1:=(by rw[zR,uC])
   have hnew:=hz i (j+1) hlt hlj;have hel:=uJ hnew (i+j);rw[lN,List.getD_eq_getElem?_getD,List.getElem?_set_self (by omega),Option.getD_some] at hel;refine CV.skip ?_;refine CV.seq ?_;refine CV.block ?_;refine CV.region rfl (fun _=>by kernel_rfl) ?_;refine xm ?_;refine xm ?_;refine xm ?_;refine p1 (cU (c:=((i+j:Nat):Int)) (by rw[cF (by omega) (by omega)]; omega) rfl rfl bd rfl rfl) ?_;refine xm ?_;refine xm ?_;refine xm ?_;refine p1 (cU (c:=((i+j:Nat):Int)) (by rw[cF (by omega) (by omega)]; omega) rfl rfl bd rfl rfl) ?_;refine p1 (oC (i:=i+j) (by omega) (by rw[bL]; omega) eS cS rfl rfl bd rfl rfl rfl) ?_;refine p1 (uD (i:=i+j) (gE (by omega)) rfl aB (by show 0<4; decide) rfl rfl bd rfl rfl) ?_;refine xm ?_;refine xm ?_;refine p1 (dT (k:=some 4) (i:=i) (gE hlt) bG cS) ?_;refine p1 (cD aB) ?_;refine xm ?_;refine xm ?_;refine p1 (dT (k:=some 4) (i:=j) (gE hlj) bG cS) ?_;refine p1 (cD aB) ?_;refine xd rfl (aCu _ _ _ _ (by omega) (by omega)) Tryz.func89 (xb rfl rfl) hfr ?_;refine xd rfl ((aHt _ _ B (3*(K+J)+20) (by omega) (by omega)).mono (fun _ _ _ _ h=>h) (dY hel)) Tryz.func31 (xb rfl rfl) hfr ?_;refine p1 (oC (i:=i+j) (by omega) (by rw[bL]; omega) eS cS rfl rfl bd rfl rfl rfl) ?_;refine p1 (tI (i:=i+j) (by rw[bL]; omega) (by show 0<4; decide) cS (.inl rfl) rfl rfl rfl rfl rfl rfl rfl rfl rfl) ?_;refine bP (by kernel_rfl) ?_;refine CV.region rfl (fun h=>nomatch h) ?_;refine xm ?_;refine p1 (cU (c:=((j+1:Nat):Int)) (by rw[cF (by omega) (by omega)]; omega) rfl rfl bd rfl rfl) ?_;refine xn ?_;refine RV.done ?_;exact⟨⟨j+1,hlj⟩,bQ.mk ⟨aF _,aF _,aF _,gS aVl,aF _,aF _,trivial⟩ rfl rfl,by show q.length-(j+1)<q.length-j; omega⟩
  ·refine CV.exit ?_;have hjq:j=q.length:=(by have:=of_decide_eq_false hd; omega)
   subst hjq;refine CV.region rfl (fun h=>nomatch h) ?_;refine xm ?_;refine p1 (cU (c:=((i+1:Nat):Int)) (by rw[cF (by omega) (by omega)]; omega) rfl rfl bd rfl rfl) ?_;refine xn ?_;refine RV.done ?_;exact⟨⟨i+1,hlt⟩,bQ.mk ⟨aF _,aF _,gS rfl,aF _,aF _,trivial⟩ rfl rfl,by show p.length-(i+1)<p.length-i; omega⟩
 ·refine CV.exit ?_;refine CV.seq ?_;have hip:i=p.length:=(by have:=of_decide_eq_false hc; omega)
  subst hip;refine nX (r:=22) (t:=5) (G:=Dm.gen (cM (some 4) (bV (jZ p q p.length) B))) (cx.bw hfr) rfl rfl (by rw[bL,uC]) rfl rfl (dS _ _) (lC _ _) ?_;refine CV.region rfl (fun h=>nomatch h) ?_;refine xm ?_;refine xd rfl (oX _ _ (by rw[uC]; omega)) Tryz.func12 (xa rfl) hfr ?_;refine xn ?_;refine RV.done ?_;refine CV.ret ?_;exact aW rfl (.inr rfl) rfl cH
end
theorem aKv {zs:List Int} (hz:∀ z∈zs,-9223372036854775808<=z/\z<=9223372036854775807):∀ L ρ w v,(ZI .i64 zs).is L ρ w v->(SA.d (Dm.ints zs)).is L ρ w v:=by
 intro L ρ w v h w' hw;obtain⟨ao,cap,e,hle,hc⟩:=h w' hw;rw[rE] at e hle hc;refine⟨hz,ao,cap,e,hle.1,hle.2,fun hl=>?_⟩;obtain⟨b,off,e2,cs,h3,h4⟩:=hc hl;obtain rfl:=aI1 h3;refine⟨b,off,e2,fun i hi=>h4 i _ ?_⟩;rw[List.getElem?_map,List.getElem?_eq_getElem hi,List.getD_eq_getElem?_getD,List.getElem?_eq_getElem hi];rfl
theorem aHs (p q:List Rat):(kR p q).length<=p.length+q.length-1:=by
 unfold kR;split
 ·exact Nat.zero_le _
 ·refine Nat.le_trans (jK _) ?_;rw[uC];exact Nat.le_refl _
theorem aS5 {p q:List Rat} {K J:Nat} (h1:1<=K) (h2:1<=J) (hp:aD p K=true) (hq:aD q J=true):aD (kR p q) (1+p.length*(q.length*(K+J+1)))=true:=by
 unfold kR;split
 ·rfl
 ·exact wU (aD8 h1 h2 hp hq)
theorem aRh (p q:List Rat) (K J B:Nat) (h1:1<=K) (h2:1<=J) (hzp:aD p K=true) (hzq:aD q J=true) (hp:p.length<=100000) (hq:q.length<=100000) (hK:K<=100000) (hJ:J<=100000) (hB:B<=100000) (hle:1+(p.length+1)*(q.length*(K+J+1))<=B):aC Tryz.prog 42 [PL p K,PL q J] (.one (PL (kR p q) B)):=by
 by_cases h:p=[]\/q=[]
 ·rw[kR,if_pos h];exact aRj p q K J B (by omega) (by omega) h
 ·rw[kR,if_neg h];refine aRi p q K J B hp hq (fun e=>h (.inl e)) (fun e=>h (.inr e)) (by omega) (by omega) (by omega) fun i j hi hj=>?_;refine oZ ?_ (aD9 h1 h2 hzp hzq (by omega) (aD8 h1 h2 hzp hzq));have e1:i*(q.length*(K+J+1))+q.length*(K+J+1)<=(p.length+1)*(q.length*(K+J+1)):=by
   rw[<- Nat.succ_mul];exact Nat.mul_le_mul_right _ (by omega)
  have e2:=Nat.mul_le_mul_right (K+J+1) hj;omega
theorem aEz {a:Rat} {k:Nat} (h:aD [a] k=true):aD [-a] k=true:=by
 obtain⟨h1,h2⟩:=qB h;refine oF ?_ h2;rw[show (-a).num = -a.num from rfl];exact Vc.aAh h1
theorem zZ:aD [Rat.divInt 1 1] 1=true:=by decide +kernel
theorem yE (a b:Int):aD [aO a,aO b,Rat.divInt 1 1] 1=true:=aEa (dC a) (aEa (dC b) zZ)
theorem vG (a:Int):aD [-(aO a),Rat.divInt 1 1] 1=true:=aEa (aEz (dC a)) zZ
def dW (zs:List Int) (i n:Nat):List Rat:=if (zs.getD i 0).tmod 7=3/\i<4/\n<4 then [aO ((zs.getD i 0).tdiv 7),aO ((zs.getD i 0).tdiv 3),Rat.divInt 1 1] else [-(aO (zs.getD i 0)),Rat.divInt 1 1]
def cO (zs:List Int):Nat->List Rat
 | 0=>aJ [Rat.divInt (1+iF zs 1 5) 1]
 | m+1=>kR (cO zs m) (aJ (dW zs (m+2) (cO zs m).length))
def aNj (zs:List Int):List Rat:=aJ (tab (fun i=>aO (zs.getD (i+1) 0)) (min (zs.length-1) 5))
def aN (zs:List Int):List Rat:=if iF zs 0 3=0 then aNj zs else cO zs (min (zs.length-2) 3)
theorem aJo (zs:List Int):aD (aNj zs) 1=true:=wU (aK0 fun _ _=>dC _)
theorem aLq (zs:List Int) (i n:Nat):aD (dW zs i n) 1=true:=by
 unfold dW;split
 ·exact yE _ _
 ·exact vG _
theorem rT (zs:List Int) (i n:Nat):(dW zs i n).length<=3:=by
 unfold dW;split<;>simp
def kB:Nat->Nat
 | 0=>1
 | m+1=>1+(2*m+2)*(3*(kB m+2))
theorem aMt:∀ {m:Nat},1<=kB m
 | 0=>Nat.le_refl _
 | m+1=>by rw[kB]; omega
theorem nR (zs:List Int):∀ m,(cO zs m).length<=2*m+1/\aD (cO zs m) (kB m)=true
 | 0=>by
  refine⟨jK _,wU ?_⟩;obtain⟨h1,h2⟩:=aA3 zs 1 5 (by decide);have h:=yT (p:=1+iF zs 1 5) (q:=1) (k:=1) (by rw[kP]; omega) (by rw[kP]; decide);exact oF h.1 h.2
 | m+1=>by
  obtain⟨h1,h2⟩:=nR zs m;have hl:=jK (dW zs (m+2) (cO zs m).length);have hl2:=rT zs (m+2) (cO zs m).length;have hr:=aHs (cO zs m) (aJ (dW zs (m+2) (cO zs m).length));refine⟨by rw[cO]; omega,oZ ?_ (aS5 aMt (Nat.le_refl 1) h2 (wU (aLq zs (m+2) (cO zs m).length)))⟩;rw[kB];have e1:(cO zs m).length*((aJ (dW zs (m+2) (cO zs m).length)).length*(kB m+1+1))<=(2*m+2)*(3*(kB m+2)):=Nat.mul_le_mul (by omega) (Nat.mul_le_mul (by omega) (Nat.le_refl _));omega
theorem zN (zs:List Int) (m:Nat) (hm:m<=2):aC Tryz.prog 42 [PL (cO zs m) (kB m),PL (aJ (dW zs (m+2) (cO zs m).length)) 1] (.one (PL (cO zs (m+1)) (kB (m+1)))):=by
 obtain⟨h1,h2⟩:=nR zs m;have hk:kB m<=253:=by
  match m,hm with
  | 0,_=>decide
  | 1,_=>decide
  | 2,_=>decide
 have hl:=jK (dW zs (m+2) (cO zs m).length);have hl2:=rT zs (m+2) (cO zs m).length;have e1:((cO zs m).length+1)*((aJ (dW zs (m+2) (cO zs m).length)).length*(kB m+1+1))<=(2*m+2)*(3*(kB m+2)):=Nat.mul_le_mul (by omega) (Nat.mul_le_mul (by omega) (Nat.le_refl _));have e2:(2*m+2)*(3*(kB m+2))<=6*(3*255):=Nat.mul_le_mul (by omega) (by omega);rw[cO];refine aRh _ _ (kB m) 1 (kB (m+1)) aMt (Nat.le_refl _) h2 (wU (aLq zs (m+2) (cO zs m).length)) (by omega) (by omega) (by omega) (by decide) (by rw[kB]; omega) (by rw[kB]; omega)
theorem aA8 {z:Int} (h1 : -9223372036854775808<=z) (h2:z<=9223372036854775807) : -9223372036854775808<=z.tdiv 7/\z.tdiv 7<=9223372036854775807:=by
 rcases Int.le_total 0 z with h | h
 ·rw[Int.tdiv_eq_ediv_of_nonneg h];omega
 ·obtain⟨y,rfl⟩:∃ y,z = -y:=⟨-z,by omega⟩
  rw[Int.neg_tdiv,Int.tdiv_eq_ediv_of_nonneg (by omega)];omega
theorem aA9 {z:Int} (h1 : -9223372036854775808<=z) (h2:z<=9223372036854775807) : -9223372036854775808<=z.tdiv 3/\z.tdiv 3<=9223372036854775807:=by
 rcases Int.le_total 0 z with h | h
 ·rw[Int.tdiv_eq_ediv_of_nonneg h];omega
 ·obtain⟨y,rfl⟩:∃ y,z = -y:=⟨-z,by omega⟩
  rw[Int.neg_tdiv,Int.tdiv_eq_ediv_of_nonneg (by omega)];omega
theorem aBa {m:Nat} (h:m<=3):kB m<=5000:=by
 match m,h with
 | 0,_=>decide
 | 1,_=>decide
 | 2,_=>decide
 | 3,_=>decide
section
variable (zs:List Int) (hz:∀ z∈zs,-9223372036854775808<=z/\z<=9223372036854775807)
include hz
theorem aFl (i:Nat) : -9223372036854775808<=zs.getD i 0/\zs.getD i 0<=9223372036854775807:=by
 rcases Nat.lt_or_ge i zs.length with h | h
 ·rw[List.getD_eq_getElem?_getD,List.getElem?_eq_getElem h];exact hz _ (List.getElem_mem h)
 ·rw[List.getD_eq_getElem?_getD,List.getElem?_eq_none h];exact⟨by decide,by decide⟩
theorem aRg:aC Tryz.prog 9 [ZI .i64 zs] (.one (PL (aN zs) 5000)):=by
 have h03:=aA3 zs 0 3 (by decide);have h15:=aA3 zs 1 5 (by decide);refine aC.of (n:=89) Tryz.func9 rfl rfl rfl rfl rfl fun cx hfr=>?_;refine sr rfl ?_;refine xn ?_;refine RV.done ?_;refine CV.seq ?_;refine sr rfl ?_;refine xm ?_;refine xd rfl (aN2 zs 0 3 (by decide) (by decide)) Tryz.func41 (.cons rfl ⟨rfl,aKv hz⟩ (xb rfl rfl)) hfr ?_;refine p1 (dF) ?_;refine RV.done ?_;refine CV.cond rfl (fun h0=>?_) (fun h0=>?_)
 ·have e0:iF zs 0 3=0:=beq_iff_eq.1 h0;refine sr rfl ?_;refine xn ?_;refine RV.done ?_;refine CV.seq ?_;refine CV.seq ?_;refine tX 3 100 31 (some 4) rfl rfl rfl rfl ?_;refine CV.region rfl (fun h=>nomatch h) ?_;refine xn ?_;refine RV.done ?_;refine CV.block ?_;refine CV.loop (X:={k:Nat // k<=min (zs.length-1) 5}) (fun k=>[(.s 4,.av (.one (.v (.int .i64 ((k.1+1:Nat):Int))))),(.s 3,.av (.one (.sl 100 k.1))),(.b 100,.row 31 (some 4) (jC (fun i=>aO (zs.getD (i+1) 0)) 1 k.1)),(.s 0,.av (.one (ZI .i64 zs)))]) (fun k=>zs.length-k.1) ⟨0,Nat.zero_le _⟩ (bQ.mk ⟨aF _,aF _,gS rfl,aF _,trivial⟩ rfl rfl) (fun k=>?_);obtain⟨k,hk⟩:=k;simp only;refine CV.seq ?_;refine sr rfl ?_;refine xm ?_;refine xm ?_;refine p1 (bY (rE _) lK) ?_;refine p1 (eE) ?_;refine xm ?_;refine RV.bool (fun g1=>?_) (fun g1=>?_)
  ·refine y1 (bU (.inl rfl)) ?_;refine y1 (eE) ?_;refine p1 (cI) ?_;refine RV.done ?_;refine CV.cond rfl (fun hc=>?_) (fun hc=>?_)
   ·have hlt:k+1<zs.length:=(by have:=of_decide_eq_true g1; omega)
    have hlt6:k<5:=(by have:=of_decide_eq_true hc; omega)
    refine CV.skip ?_;refine CV.seq ?_;refine CV.block ?_;refine CV.region rfl (fun h=>nomatch h) ?_;refine xm ?_;refine xm ?_;refine xm ?_;refine p1 (dT (k:=none) (i:=k+1) (uN hlt) lK sG) ?_;refine p1 (cD iB) ?_;refine xc (eZ _ (aFl zs hz (k+1)).1 (aFl zs hz (k+1)).2) Tryz.func11 (xa rfl) hfr ?_;refine p1 (iH (G:=Dm.gen (cM (some 4) [_])) (dS _ _) eS sF rfl rfl rfl (by intro s hs; obtain rfl:=List.mem_singleton.1 hs; rfl) rfl rfl rfl bd (xa rfl)) ?_;refine lI (aS.plain (rJ (r:=100) (r':=101) (nW (by decide) rfl) (by rw[nQ]; show (k+1)*64<=_; omega) (by rw[nQ]; show k+1<=_; omega) eS mH rfl rfl rfl (by intro x hx; obtain rfl:=List.mem_singleton.1 hx; rfl) nQ.symm rfl rfl bd rfl rfl rfl rfl rfl rfl rfl rfl) rfl) ?_;refine xn ?_;refine RV.done ?_;refine CV.region rfl (fun h=>nomatch h) ?_;refine xm ?_;refine p1 (cU (c:=((k+1+1:Nat):Int)) (by rw[cF (by omega) (by omega)]; omega) rfl rfl bd rfl rfl) ?_;refine xn ?_;refine RV.done ?_;exact⟨⟨k+1,by omega⟩,oE (fun i=>if i=100 then 101 else i) ⟨mT,pZ rfl rfl,gS (aHw (f:=fun i=>aO (zs.getD (i+1) 0))),mT,trivial⟩ rfl rfl rfl rfl,by show zs.length-(k+1)<zs.length-k; omega⟩
   ·refine CV.exit ?_;refine CV.seq ?_;have hk1:k=min (zs.length-1) 5:=(by have h2:=of_decide_eq_false hc; omega)
    subst hk1;rw[wH];refine nX (r:=100) (t:=3) (G:=Dm.gen (cM (some 4) (bV (tab (fun i=>aO (zs.getD (i+1) 0)) (min (zs.length-1) 5)) 1))) (cx.bw hfr) rfl rfl (by rw[bL,iA]) rfl rfl (dS _ _) (lC _ _) ?_;refine CV.region rfl (fun h=>nomatch h) ?_;refine xm ?_;refine xd rfl ((oX _ _ (by rw[iA]; omega)).mono (fun _ _ _ _ h=>h) (bI (B:=5000) (oZ (by decide) (aJo zs)))) Tryz.func12 (xa rfl) hfr ?_;refine xn ?_;refine RV.done ?_;refine CV.ret ?_;exact aW rfl (.inr rfl) rfl (lM (by rw[aN,if_pos e0]; rfl))
  ·refine xk ?_;refine xk ?_;refine p1 (cN) ?_;refine RV.done ?_;refine CV.no rfl ?_;refine CV.exit ?_;refine CV.seq ?_;have hk1:k=min (zs.length-1) 5:=(by have h2:=of_decide_eq_false g1; omega)
   subst hk1;rw[wH];refine nX (r:=100) (t:=3) (G:=Dm.gen (cM (some 4) (bV (tab (fun i=>aO (zs.getD (i+1) 0)) (min (zs.length-1) 5)) 1))) (cx.bw hfr) rfl rfl (by rw[bL,iA]) rfl rfl (dS _ _) (lC _ _) ?_;refine CV.region rfl (fun h=>nomatch h) ?_;refine xm ?_;refine xd rfl ((oX _ _ (by rw[iA]; omega)).mono (fun _ _ _ _ h=>h) (bI (B:=5000) (oZ (by decide) (aJo zs)))) Tryz.func12 (xa rfl) hfr ?_;refine xn ?_;refine RV.done ?_;refine CV.ret ?_;exact aW rfl (.inr rfl) rfl (lM (by rw[aN,if_pos e0]; rfl))
 ·have e0:¬ iF zs 0 3=0:=beq_eq_false_iff_ne.1 h0;refine CV.skip ?_;refine sr rfl ?_;refine xm ?_;refine xd rfl (aN2 zs 1 5 (by decide) (by decide)) Tryz.func41 (.cons rfl ⟨rfl,aKv hz⟩ (xb rfl rfl)) hfr ?_;refine p1 (cU (c:=1+iF zs 1 5) (by rw[cF (by omega) (by omega)]) rfl rfl bd rfl rfl) ?_;refine xd rfl (rO (1+iF zs 1 5) 1 (by omega) (by omega) (by decide) (by decide)) Tryz.func32 (xb rfl rfl) hfr ?_;refine p1 (iH (G:=Dm.gen (cM (some 4) (bV [Rat.divInt (1+iF zs 1 5) 1] 6))) (ss:=bV [Rat.divInt (1+iF zs 1 5) 1] 6) (dS _ _) eS sF rfl rfl rfl aDf rfl rfl rfl bd (xa rfl)) ?_;refine xc ((oX [Rat.divInt (1+iF zs 1 5) 1] 6 (Nat.le_of_ble_eq_true rfl)).mono (fun _ _ _ _ h=>h) (bI (nR zs 0).2)) Tryz.func12 (xa rfl) hfr ?_;refine xn ?_;refine RV.done ?_;refine CV.seq ?_;refine sr rfl ?_;refine xn ?_;refine RV.done ?_;refine CV.block ?_;refine CV.loop (X:={m:Nat // m<=min (zs.length-2) 3}) (fun m=>[(.s 6,.av (.one (.v (.int .i64 ((m.1+2:Nat):Int))))),(.s 5,.av (.one (PL (cO zs m.1) (kB m.1)))),(.s 0,.av (.one (ZI .i64 zs)))]) (fun m=>zs.length-m.1) ⟨0,Nat.zero_le _⟩ (bQ.mk ⟨aF _,aF _,aF _,trivial⟩ rfl rfl) (fun m=>?_);obtain⟨m,hm⟩:=m;simp only;refine CV.seq ?_;refine sr rfl ?_;refine xm ?_;refine xm ?_;refine p1 (bY (rE _) lK) ?_;refine p1 (eE) ?_;refine xm ?_;refine RV.bool (fun g1=>?_) (fun g1=>?_)
  ·refine y1 (bU (.inl rfl)) ?_;refine y1 (eE) ?_;refine p1 (cI) ?_;refine RV.done ?_;refine CV.cond rfl (fun hc=>?_) (fun hc=>?_)
   ·have hlt:m+2<zs.length:=(by have:=of_decide_eq_true g1; omega)
    have hm3:m<3:=(by have:=of_decide_eq_true hc; omega)
    have hzm:=aFl zs hz (m+2);have hpf:=nR zs m;have hpf1:=nR zs (m+1);have hk1:=aBa (m:=m) (by omega);have hk2:=aBa (m:=m+1) (by omega);refine CV.skip ?_;refine CV.seq ?_;refine CV.block ?_;refine sr rfl ?_;refine xm ?_;refine xm ?_;refine p1 (dT (k:=none) (i:=m+2) (uN hlt) lK sG) ?_;refine p1 (cD iB) ?_;refine xc (eZ _ hzm.1 hzm.2) Tryz.func11 (xa rfl) hfr ?_;refine xc (aRc _ _) Tryz.func24 (xa rfl) hfr ?_;refine xd rfl ((rO 1 1 (by decide) (by decide) (by decide) (by decide)).mono (fun _ _ _ _ h=>h) (dY zZ)) Tryz.func32 (xb rfl rfl) hfr ?_;refine p1 (iH (G:=Dm.gen (cM (some 4) (bV [-(aO (zs.getD (m+2) 0)),Rat.divInt 1 1] 1))) (ss:=bV [-(aO (zs.getD (m+2) 0)),Rat.divInt 1 1] 1) (dS _ _) eS sF rfl rfl rfl aDf rfl rfl rfl bd (xb rfl rfl)) ?_;refine xn ?_;refine RV.done ?_;refine CV.seq ?_;refine sr rfl ?_;refine xm ?_;refine xm ?_;refine p1 (dT (k:=none) (i:=m+2) (uN hlt) lK sG) ?_;refine p1 (cD iB) ?_;refine p1 (aE5 (by decide) rfl rfl bd rfl rfl) ?_;refine p1 (dF) ?_;refine xm ?_;refine RV.bool (fun n1=>?_) (fun n1=>?_)
    ·refine y1 (bU (.inl rfl)) ?_;refine y1 (eE) ?_;refine p1 (cI) ?_;refine xm ?_;refine RV.bool (fun n2=>?_) (fun n2=>?_)
     ·refine y1 (bU (.inl rfl)) ?_;refine y1 (bY bL bG) ?_;refine y1 (eE) ?_;refine p1 (cI) ?_;refine RV.done ?_;refine CV.cond rfl (fun n3=>?_) (fun n3=>?_)
      ·refine CV.region rfl (fun _=>by kernel_rfl) ?_;refine xm ?_;refine xm ?_;refine p1 (dT (k:=none) (i:=m+2) (uN hlt) lK sG) ?_;refine p1 (cD iB) ?_;refine p1 (aE6 (c:=(zs.getD (m+2) 0).tdiv 7) (by decide) (cF (aA8 hzm.1 hzm.2).1 (aA8 hzm.1 hzm.2).2) rfl rfl bd rfl rfl) ?_;refine xc (eZ _ (aA8 hzm.1 hzm.2).1 (aA8 hzm.1 hzm.2).2) Tryz.func11 (xa rfl) hfr ?_;refine xm ?_;refine xm ?_;refine p1 (dT (k:=none) (i:=m+2) (uN hlt) lK sG) ?_;refine p1 (cD iB) ?_;refine p1 (aE6 (c:=(zs.getD (m+2) 0).tdiv 3) (by decide) (cF (aA9 hzm.1 hzm.2).1 (aA9 hzm.1 hzm.2).2) rfl rfl bd rfl rfl) ?_;refine xc (eZ _ (aA9 hzm.1 hzm.2).1 (aA9 hzm.1 hzm.2).2) Tryz.func11 (xa rfl) hfr ?_;refine xd rfl ((rO 1 1 (by decide) (by decide) (by decide) (by decide)).mono (fun _ _ _ _ h=>h) (dY zZ)) Tryz.func32 (xb rfl rfl) hfr ?_;refine p1 (iH (G:=Dm.gen (cM (some 4) (bV [aO ((zs.getD (m+2) 0).tdiv 7),aO ((zs.getD (m+2) 0).tdiv 3),Rat.divInt 1 1] 1))) (ss:=bV [aO ((zs.getD (m+2) 0).tdiv 7),aO ((zs.getD (m+2) 0).tdiv 3),Rat.divInt 1 1] 1) (dS _ _) eS sF rfl rfl rfl aDf rfl rfl rfl bd (.cons rfl cP.any (xb rfl rfl))) ?_;refine xn ?_;refine bP (by kernel_rfl) ?_;have hf:dW zs (m+2) (cO zs m).length=[aO ((zs.getD (m+2) 0).tdiv 7),aO ((zs.getD (m+2) 0).tdiv 3),Rat.divInt 1 1]:=(by unfold dW; rw[if_pos ⟨beq_iff_eq.1 n1,by have:=of_decide_eq_true n2; omega,by have:=of_decide_eq_true n3; omega⟩])
       rw[<- hf];refine CV.region rfl (fun h=>nomatch h) ?_;refine xm ?_;refine xm ?_;refine xd rfl (oX (dW zs (m+2) (cO zs m).length) 1 (by have:=rT zs (m+2) (cO zs m).length; omega)) Tryz.func12 (xa rfl) hfr ?_;refine xd rfl (zN zs m (by omega)) Tryz.func42 (xb rfl rfl) hfr ?_;refine xn ?_;refine RV.done ?_;refine CV.region rfl (fun h=>nomatch h) ?_;refine xm ?_;refine p1 (cU (c:=((m+1+2:Nat):Int)) (by rw[cF (by omega) (by omega)]; omega) rfl rfl bd rfl rfl) ?_;refine xn ?_;refine RV.done ?_;exact⟨⟨m+1,by omega⟩,bQ.mk ⟨aF _,aF _,aF _,trivial⟩ rfl rfl,by show zs.length-(m+1)<zs.length-m; omega⟩
      ·refine CV.skip ?_;have hf:dW zs (m+2) (cO zs m).length=[-(aO (zs.getD (m+2) 0)),Rat.divInt 1 1]:=(by unfold dW; rw[if_neg (fun h=>by have:=of_decide_eq_false n3; omega)])
       rw[<- hf];refine CV.region rfl (fun h=>nomatch h) ?_;refine xm ?_;refine xm ?_;refine xd rfl (oX (dW zs (m+2) (cO zs m).length) 1 (by have:=rT zs (m+2) (cO zs m).length; omega)) Tryz.func12 (xa rfl) hfr ?_;refine xd rfl (zN zs m (by omega)) Tryz.func42 (xb rfl rfl) hfr ?_;refine xn ?_;refine RV.done ?_;refine CV.region rfl (fun h=>nomatch h) ?_;refine xm ?_;refine p1 (cU (c:=((m+1+2:Nat):Int)) (by rw[cF (by omega) (by omega)]; omega) rfl rfl bd rfl rfl) ?_;refine xn ?_;refine RV.done ?_;exact⟨⟨m+1,by omega⟩,bQ.mk ⟨aF _,aF _,aF _,trivial⟩ rfl rfl,by show zs.length-(m+1)<zs.length-m; omega⟩
     ·refine xk ?_;refine xk ?_;refine xk ?_;refine p1 (cN) ?_;refine RV.done ?_;refine CV.no rfl ?_;refine CV.skip ?_;have hf:dW zs (m+2) (cO zs m).length=[-(aO (zs.getD (m+2) 0)),Rat.divInt 1 1]:=(by unfold dW; rw[if_neg (fun h=>by have:=of_decide_eq_false n2; omega)])
      rw[<- hf];refine CV.region rfl (fun h=>nomatch h) ?_;refine xm ?_;refine xm ?_;refine xd rfl (oX (dW zs (m+2) (cO zs m).length) 1 (by have:=rT zs (m+2) (cO zs m).length; omega)) Tryz.func12 (xa rfl) hfr ?_;refine xd rfl (zN zs m (by omega)) Tryz.func42 (xb rfl rfl) hfr ?_;refine xn ?_;refine RV.done ?_;refine CV.region rfl (fun h=>nomatch h) ?_;refine xm ?_;refine p1 (cU (c:=((m+1+2:Nat):Int)) (by rw[cF (by omega) (by omega)]; omega) rfl rfl bd rfl rfl) ?_;refine xn ?_;refine RV.done ?_;exact⟨⟨m+1,by omega⟩,bQ.mk ⟨aF _,aF _,aF _,trivial⟩ rfl rfl,by show zs.length-(m+1)<zs.length-m; omega⟩
    ·refine xk ?_;refine xk ?_;refine p1 (cN) ?_;refine xm ?_;refine xk ?_;refine xk ?_;refine xk ?_;refine p1 (cN) ?_;refine RV.done ?_;refine CV.no rfl ?_;refine CV.skip ?_;have hf:dW zs (m+2) (cO zs m).length=[-(aO (zs.getD (m+2) 0)),Rat.divInt 1 1]:=(by unfold dW; rw[if_neg (fun h=>by rw[beq_eq_false_iff_ne] at n1; exact n1 h.1)])
     rw[<- hf];refine CV.region rfl (fun h=>nomatch h) ?_;refine xm ?_;refine xm ?_;refine xd rfl (oX (dW zs (m+2) (cO zs m).length) 1 (by have:=rT zs (m+2) (cO zs m).length; omega)) Tryz.func12 (xa rfl) hfr ?_;refine xd rfl (zN zs m (by omega)) Tryz.func42 (xb rfl rfl) hfr ?_;refine xn ?_;refine RV.done ?_;refine CV.region rfl (fun h=>nomatch h) ?_;refine xm ?_;refine p1 (cU (c:=((m+1+2:Nat):Int)) (by rw[cF (by omega) (by omega)]; omega) rfl rfl bd rfl rfl) ?_;refine xn ?_;refine RV.done ?_;exact⟨⟨m+1,by omega⟩,bQ.mk ⟨aF _,aF _,aF _,trivial⟩ rfl rfl,by show zs.length-(m+1)<zs.length-m; omega⟩
   ·refine CV.exit ?_;refine CV.seq ?_;have hmm:m=min (zs.length-2) 3:=(by have h2:=of_decide_eq_false hc; omega)
    refine CV.region rfl (fun h=>nomatch h) ?_;refine xm ?_;refine xn ?_;refine RV.done ?_;refine CV.ret ?_;exact aW rfl (.inr rfl) rfl (by rw[aN,if_neg e0,<- hmm]; exact bI (oZ (aBa (by omega)) (nR zs m).2))
  ·refine xk ?_;refine xk ?_;refine p1 (cN) ?_;refine RV.done ?_;refine CV.no rfl ?_;refine CV.exit ?_;refine CV.seq ?_;have hmm:m=min (zs.length-2) 3:=(by have h2:=of_decide_eq_false g1; omega)
   refine CV.region rfl (fun h=>nomatch h) ?_;refine xm ?_;refine xn ?_;refine RV.done ?_;refine CV.ret ?_;exact aW rfl (.inr rfl) rfl (by rw[aN,if_neg e0,<- hmm]; exact bI (oZ (aBa (by omega)) (nR zs m).2))
end
theorem cC (l:List Rat):aJ (aJ l)=aJ l:=by
 rcases aGt l with h | h
 ·rw[h]; rfl
 ·generalize aJ l=m at *;by_cases hm:m=[]
  ·rw[hm]; rfl
  ·obtain⟨m',a,rfl⟩:∃ m' a,m=m'++[a]:=⟨m.dropLast,m.getLast hm,(List.dropLast_concat_getLast _).symm⟩
   have ha:a≠0:=by simpa using h
   rw[sT,if_neg ha]
theorem aPv (p q:List Rat):aJ (kR p q)=kR p q:=by
 unfold kR;split
 ·rfl
 ·exact cC _
theorem aP2 (zs:List Int):aJ (aN zs)=aN zs:=by
 unfold aN;split
 ·exact cC _
 ·cases h:min (zs.length-2) 3 with
  | zero=>exact cC _
  | succ m=>exact aPv _ _
end Vc
end Go.Proofs.YtjmbkipbmbnhjaaGreat

namespace Go.Proofs.YtjmbkipbmbnhjaaGreat
open Go.RowKit
open Dg Zn
namespace Vc
def ev:List Rat->Rat->Rat
 | [],_=>0
 | a::l,x=>a+x*ev l x
theorem aC8 {l:List Rat} (h:aJ l=[]):∀ k,l.getD k 0=0:=by
 induction l with
 | nil=>intro k; rfl
 | cons a l ih =>
  rw[aJ] at h;by_cases h1:aJ l=[]
  ·rw[if_pos h1] at h;by_cases h0:a=0
   ·subst h0;intro k;cases k with
    | zero=>rfl
    | succ k=>exact ih h1 k
   ·rw[if_neg h0] at h; cases h
  ·rw[if_neg h1] at h; cases h
theorem aDk {l:List Rat} (h:∀ k,l.getD k 0=0):aJ l=[]:=by
 induction l with
 | nil=>rfl
 | cons a l ih =>
  have h1:aJ l=[]:=ih fun k=>h (k+1);have h0:a=0:=h 0;rw[aJ,if_pos h1,if_pos h0]
theorem aI8:∀ {p q:List Rat},(∀ k,p.getD k 0=q.getD k 0)->aJ p=aJ q
 | [],q,h=>(aDk fun k=>(h k).symm).symm
 | a::p,[],h=>aDk h
 | a::p,b::q,h=>by
  have h1:=aI8 (p:=p) (q:=q) fun k=>h (k+1);obtain rfl:a=b:=h 0;rw[aJ,aJ,h1]
theorem tB (l:List Rat):∀ k,(aJ l).getD k 0=l.getD k 0:=by
 induction l with
 | nil=>intro k; rfl
 | cons a l ih =>
  intro k;rw[aJ];by_cases h1:aJ l=[]
  ·rw[if_pos h1];have:=aC8 h1;cases k with
   | zero=>split<;>simp_all
   | succ k => 
    have e:=this k;split
    ·simpa using e.symm
    ·simpa using e.symm
  ·rw[if_neg h1];cases k with
   | zero=>rfl
   | succ k=>exact ih k
theorem pK:∀ {l:List Rat},(∀ k,l.getD k 0=0)->∀ x,ev l x=0
 | [],_,x=>rfl
 | a::l,h,x=>by
  have h0:a=0:=h 0;rw[ev,h0,pK (l:=l) fun k=>h (k+1)];grind
theorem xK:∀ {p q:List Rat},(∀ k,p.getD k 0=q.getD k 0)->∀ x,ev p x=ev q x
 | [],q,h,x=>(pK (fun k=>(h k).symm) x).symm
 | a::p,[],h,x=>pK h x
 | a::p,b::q,h,x=>by
  obtain rfl:a=b:=h 0;rw[ev,ev,xK (p:=p) (q:=q) (fun k=>h (k+1))]
theorem jQ (l:List Rat) (x:Rat):ev (aJ l) x=ev l x:=xK (tB l) x
theorem aQ7 (g:Nat->Rat) (n:Nat):tab g (n+1)=g 0::tab (fun k=>g (k+1)) n:=by
 unfold tab;rw[List.range_succ_eq_map,List.map_cons,List.map_map];rfl
theorem pD {g:Nat->Rat} {n k:Nat}:(tab g n).getD k 0=if k<n then g k else 0:=by
 unfold tab;rw[List.getD_eq_getElem?_getD,List.getElem?_map];by_cases h:k<n
 ·rw[if_pos h,List.getElem?_range h]; rfl
 ·rw[if_neg h,List.getElem?_eq_none (by rw[List.length_range]; omega)]; rfl
theorem rC (g:Nat->Rat) (n:Nat) (x:Rat):ev (tab g (n+1)) x=g 0+x*ev (tab (fun k=>g (k+1)) n) x:=by rw[aQ7,ev]
theorem aCl (f g:Nat->Rat) (x:Rat):∀ n,ev (tab (fun k=>f k+g k) n) x=ev (tab f n) x+ev (tab g n) x:=by
 intro n
 induction n generalizing f g with
 | zero=>show (0:Rat)=0+0; grind
 | succ n ih=>rw[rC,rC,rC,ih]; grind
theorem aB0 (f:Nat->Rat) (a x:Rat):∀ n,ev (tab (fun k=>f k*a) n) x=ev (tab f n) x*a:=by
 intro n
 induction n generalizing f with
 | zero=>show (0:Rat)=0*a; grind
 | succ n ih=>rw[rC,rC,ih]; grind
theorem uU (p:List Rat) {n:Nat} (h:p.length<=n) (x:Rat):ev (tab (fun k=>p.getD k 0) n) x=ev p x:=by
 refine xK (fun k=>?_) x;rw[pD];by_cases hk:k<n
 ·rw[if_pos hk]
 ·rw[if_neg hk,dI (by omega)]
theorem fM (p q:List Rat) (x:Rat):ev (eI p q) x=ev p x+ev q x:=by
 rw[eI,jQ,aCl,uU p (Nat.le_max_left _ _),uU q (Nat.le_max_right _ _)]
theorem bH (p:List Rat) (a x:Rat):ev (aI p a) x=ev p x*a:=by
 rw[aI,jQ,aB0,uU p (Nat.le_refl _)]
theorem jR (p q:List Rat) (x:Rat):ev (fC p q) x=ev p x-ev q x:=by
 have e:(fun k=>p.getD k 0-q.getD k 0)=fun k=>p.getD k 0+q.getD k 0*(-1):=by funext k; grind
 rw[fC,jQ,e,aCl,aB0,uU p (Nat.le_max_left _ _),uU q (Nat.le_max_right _ _)];grind
theorem aLs:∀ {l:List Rat},aJ l≠[]->∃ e N:Rat,0<e/\((∀ x,N<=x->e<=ev l x)\/(∀ x,N<=x->ev l x <= -e))
 | [],h=>absurd rfl h
 | a::l,h=>by
  rw[aJ] at h;by_cases h1:aJ l=[]
  ·rw[if_pos h1] at h;have h0:a≠0:=fun e=>h (by rw[if_pos e]);have hz:=pK (aC8 h1);rcases (by grind:0<a\/0 < -a) with hp | hp
   ·exact⟨a,0,hp,.inl fun x _=>by rw[ev,hz]; grind⟩
   ·exact⟨-a,0,hp,.inr fun x _=>by rw[ev,hz]; grind⟩
  ·obtain⟨e,N,he,hN⟩:=aLs h1;obtain⟨M,m1,m2,m3,m4⟩:∃ M:Rat,N<=M/\0<=M/\e-a<=M*e/\e+a<=M*e:=by
    have hi:e*e⁻¹=1:=Rat.mul_inv_cancel e (by grind);have hi0:0<=e⁻¹:=Rat.le_of_lt (Rat.inv_pos.2 he);have hge:∀ y:Rat,∃ z:Rat,y<=z/\0<=z:=fun y=>by
     rcases (by grind:y<=0\/0<=y) with q | q
     ·exact⟨0,q,by grind⟩
     ·exact⟨y,by grind,q⟩
    obtain⟨z1,a1,a2⟩:=hge N;obtain⟨z2,b1,b2⟩:=hge (e-a);obtain⟨z3,c1,c2⟩:=hge (e+a);refine⟨z1+z2*e⁻¹+z3*e⁻¹,?_,?_,?_,?_⟩
    ·have:=Rat.mul_nonneg b2 hi0;have:=Rat.mul_nonneg c2 hi0;grind
    ·have:=Rat.mul_nonneg b2 hi0;have:=Rat.mul_nonneg c2 hi0;grind
    ·have:=Rat.mul_nonneg a2 (Rat.le_of_lt he);have q:(z1+z2*e⁻¹+z3*e⁻¹)*e=z1*e+z2+z3:=by grind
     grind
    ·have:=Rat.mul_nonneg a2 (Rat.le_of_lt he);have q:(z1+z2*e⁻¹+z3*e⁻¹)*e=z1*e+z2+z3:=by grind
     grind
   refine⟨e,M,he,?_⟩;rcases hN with hN | hN
   ·refine .inl fun x hx=>?_;have h2:=hN x (by grind);have h3:M*e<=x*ev l x:=by
     have q1:M*e<=x*e:=Rat.mul_le_mul_of_nonneg_right hx (Rat.le_of_lt he);have q2:x*e<=x*ev l x:=Rat.mul_le_mul_of_nonneg_left h2 (by grind);grind
    rw[ev];grind
   ·refine .inr fun x hx=>?_;have h2:=hN x (by grind);have h3:M*e<=x*(- ev l x):=by
     have q1:M*e<=x*e:=Rat.mul_le_mul_of_nonneg_right hx (Rat.le_of_lt he);have q2:x*e<=x*(- ev l x):=Rat.mul_le_mul_of_nonneg_left (by grind) (by grind);grind
    rw[ev];grind
theorem pN {l:List Rat} (h:∀ x,ev l x=0):aJ l=[]:=by
 rcases Decidable.em (aJ l=[]) with q | q
 ·exact q
 ·obtain⟨e,N,he,hN⟩:=aLs q;rcases hN with hN | hN
  ·have h1:=hN N Rat.le_refl;rw[h N] at h1;grind
  ·have h1:=hN N Rat.le_refl;rw[h N] at h1;grind
theorem uL {p q:List Rat} (h:∀ x,ev p x=ev q x):∀ k,p.getD k 0=q.getD k 0:=by
 have h1:aJ (fC p q)=[]:=pN fun x=>by rw[jR,h x]; grind
 intro k;have h2:=aC8 h1 k;rw[fC,tB,pD] at h2;by_cases hk:k<max p.length q.length
 ·rw[if_pos hk] at h2;grind
 ·rw[dI (by omega),dI (by omega)]
theorem iD {p q:List Rat} (hp:aJ p=p) (hq:aJ q=q) (h:∀ x,ev p x=ev q x):p=q:=by
 rw[<- hp,<- hq];exact aI8 (uL h)
/-! Products. -/
theorem rM (f:Nat->Rat) (s:Nat):∀ c,dD f (s+c)=dD f s+dD (fun i=>f (s+i)) c
 | 0=>by show dD f s=dD f s+0; grind
 | c+1=>by
  show dD f (s+c)+f (s+c)=dD f s+(dD (fun i=>f (s+i)) c+f (s+c));rw[rM f s c];grind
theorem nV {f:Nat->Rat}:∀ {n:Nat},(∀ i,i<n->f i=0)->dD f n=0
 | 0,_=>rfl
 | n+1,h=>by
  show dD f n+f n=0;rw[nV (n:=n) fun i hi=>h i (by omega),h n (by omega)];grind
theorem wI {f g:Nat->Rat}:∀ {n:Nat},(∀ i,i<n->f i=g i)->dD f n=dD g n
 | 0,_=>rfl
 | n+1,h=>by
  show dD f n+f n=dD g n+g n;rw[wI (n:=n) fun i hi=>h i (by omega),h n (by omega)]
def fQ (p q:List Rat) (k:Nat):Rat:=dD (fun i=>p.getD i 0*q.getD (k-i) 0) (k+1)
theorem aEq (a:Rat) (p q:List Rat) (k:Nat):fQ (a::p) q k=q.getD k 0*a+(if k=0 then 0 else fQ p q (k-1)):=by
 unfold fQ;rw[show k+1=1+k by omega,rM];show (0+a*q.getD (k-0) 0)+_=_;rw[Nat.sub_zero];cases k with
 | zero=>show 0+a*_+0=_+if 0=0 then 0 else _; rw[if_pos rfl]; grind
 | succ k =>
  rw[if_neg (by omega),Nat.add_sub_cancel];have e:dD (fun i=>(a::p).getD (1+i) 0*q.getD (k+1-(1+i)) 0) (k+1)=dD (fun i=>p.getD i 0*q.getD (k-i) 0) (k+1):=wI fun i hi=>by
   rw[show 1+i=i+1 by omega,List.getD_cons_succ,show k+1-(i+1)=k-i by omega]
  rw[e];grind
theorem aNt (q:List Rat) (x:Rat):∀ (p:List Rat) (n:Nat),p.length+q.length<=n+1->0<q.length->ev (tab (fQ p q) n) x=ev p x*ev q x
 | [],n,h,h0=>by
  rw[ev];have e:∀ k,fQ [] q k=0:=fun k=>nV fun i _=>by rw[dI (Nat.zero_le _)]; grind
  rw[pK (fun k=>by rw[pD,e]; split<;>rfl)];grind
 | a::p,n,h,h0=>by
  rw[List.length_cons] at h;have e:fQ (a::p) q=fun k=>q.getD k 0*a+(if k=0 then 0 else fQ p q (k-1)):=funext fun k=>aEq a p q k;obtain⟨m,rfl⟩:∃ m,n=m+1:=⟨n-1,by omega⟩
  rw[e,aCl,aB0,uU q (by omega),rC];have e2:(fun k=>if k+1=0 then (0:Rat) else fQ p q (k+1-1))=fQ p q:=by
   funext k
   rw[if_neg (by omega),Nat.add_sub_cancel]
  rw[if_pos rfl,e2,aNt q x p m (by omega) h0,ev];grind
theorem aTa {q:List Rat} {i:Nat} (h:i<q.length):q.reverse.getD i 0=q.getD (q.length-1-i) 0:=by
 rw[List.getD_eq_getElem?_getD,List.getD_eq_getElem?_getD,List.getElem?_reverse h]
theorem aKa {q:List Rat} {i j:Nat}:(q.drop i).getD j 0=q.getD (i+j) 0:=by
 rw[List.getD_eq_getElem?_getD,List.getD_eq_getElem?_getD,List.getElem?_drop]
theorem aAu {p q:List Rat} (h0:0<q.length) {k:Nat}:kS p q k=fQ p q k:=by
 unfold kS xX fQ;rw[List.length_drop,List.length_drop,List.length_reverse];generalize hs:k-(q.length-1)=s;generalize ht:q.length-1-k=t;have e1:dD (fun i=>(p.drop s).getD i 0*(q.reverse.drop t).getD i 0) (min (p.length-s) (q.length-t))=dD (fun i=>p.getD (s+i) 0*q.getD (k-(s+i)) 0) (min (p.length-s) (q.length-t)):=wI fun i hi=>by
  rw[aKa,aKa,aTa (by omega),show q.length-1-(t+i)=k-(s+i) by omega]
 have e2:dD (fun i=>p.getD (s+i) 0*q.getD (k-(s+i)) 0) (k+1-s)=dD (fun i=>p.getD (s+i) 0*q.getD (k-(s+i)) 0) (min (p.length-s) (q.length-t)):=by
  generalize hc:min (p.length-s) (q.length-t)=c;obtain⟨d,hd⟩:∃ d,k+1-s=c+d:=⟨k+1-s-c,by omega⟩
  rw[hd,rM,nV (f:=fun i=>p.getD (s+(c+i)) 0*q.getD (k-(s+(c+i))) 0),Rat.add_zero];intro i hi;rw[dI (l:=p) (by omega),Rat.zero_mul]
 rw[e1,<- e2,show k+1=s+(k+1-s) by omega,rM,nV (n:=s),Rat.zero_add]
 ·rw[show s+(k+1-s)-s=k+1-s by omega]
 ·intro i hi;rw[dI (l:=q) (by omega),Rat.mul_zero]
theorem aU8 {f g:Nat->Rat} {n:Nat} (h:∀ k,k<n->f k=g k):tab f n=tab g n:=List.map_congr_left fun k hk=>h k (List.mem_range.1 hk)
theorem bZ (p q:List Rat) (x:Rat):ev (aT p q) x=ev p x*ev q x:=by
 rw[aT,jQ];rcases Nat.eq_zero_or_pos q.length with h | h
 ·obtain rfl:=List.eq_nil_of_length_eq_zero h;rw[ev,Rat.mul_zero];refine pK (fun k=>?_) x;rw[pD];split
  ·exact nV fun i hi=>by
    rw[List.length_drop,List.length_drop,List.length_reverse,List.length_nil] at hi;omega
  ·rfl
 ·rw[aU8 fun k _=>aAu h,aNt q x p _ (by omega) h]
def pw (x:Rat):Nat->Rat
 | 0=>1
 | n+1=>pw x n*x
theorem aFd (c x:Rat):∀ (l:List Rat) (i:Nat),i<l.length->ev (l.set i (l.getD i 0+c)) x=ev l x+c*pw x i
 | a::l,0,_=>by show a+c+x*ev l x=a+x*ev l x+c*1; grind
 | a::l,i+1,h=>by
  show a+x*ev (l.set i (l.getD i 0+c)) x=a+x*ev l x+c*(pw x i*x);rw[aFd c x l i (by simpa using h)];grind
theorem aMf (x:Rat) (i:Nat):∀ j,pw x (i+j)=pw x i*pw x j
 | 0=>by show pw x i=pw x i*1; grind
 | j+1=>by show pw x (i+j)*x=pw x i*(pw x j*x); rw[aMf x i j]; grind
def mP (q:List Rat) (x:Rat) (j:Nat):Rat:=dD (fun k=>q.getD k 0*pw x k) j
theorem aPr (f:Nat->Rat) (n:Nat):dD f (n+1)=f 0+dD (fun k=>f (k+1)) n:=by
 rw[show n+1=1+n by omega,rM];show 0+f 0+_=_;rw[Rat.zero_add];congr 1;exact wI fun i _=>by rw[Nat.add_comm]
theorem aJc (f:Nat->Rat) (a:Rat):∀ n,dD (fun k=>f k*a) n=dD f n*a
 | 0=>by show (0:Rat)=0*a; grind
 | n+1=>by show dD (fun k=>f k*a) n+f n*a=(dD f n+f n)*a; rw[aJc f a n]; grind
theorem aAy (x:Rat):∀ (q:List Rat),mP q x q.length=ev q x
 | []=>rfl
 | a::q=>by
  rw[mP,List.length_cons,aPr,ev];have e:dD (fun k=>(a::q).getD (k+1) 0*pw x (k+1)) q.length=dD (fun k=>q.getD k 0*pw x k*x) q.length:=wI fun k _=>by
   show q.getD k 0*(pw x k*x)=_;grind
  rw[e,aJc];have:=aAy x q;unfold mP at this;rw[this];show a*1+_=_;grind
theorem aM3 (p q:List Rat) (i:Nat) (x:Rat):∀ (j:Nat) (l:List Rat),i+j<=l.length->ev (lN p q i j l) x=ev l x+p.getD i 0*pw x i*mP q x j
 | 0,l,_=>by show ev l x=ev l x+_*0; grind
 | j+1,l,h=>by
  rw[lN,aFd _ _ _ _ (by rw[zR]; omega),aM3 p q i x j l (by omega),aMf];show _=_+_*(mP q x j+q.getD j 0*pw x j);grind
theorem aM2 (p q:List Rat) (x:Rat):∀ i,i<=p.length->ev (jZ p q i) x=mP p x i*ev q x
 | 0,_=>by
  rw[jZ,pK]
  ·show (0:Rat)=0*_; grind
  ·intro k;rw[List.getD_eq_getElem?_getD,List.getElem?_replicate];split<;>rfl
 | i+1,h=>by
  rw[jZ,aM3 p q i x q.length _ (by rw[uC]; omega),aM2 p q x i (by omega),aAy];show _=(mP p x i+p.getD i 0*pw x i)*_;grind
theorem aV4 (p q:List Rat) (x:Rat):ev (kR p q) x=ev p x*ev q x:=by
 unfold kR;split
 ·rename_i h;rcases h with rfl | rfl
  ·rw[ev]; grind
  ·rw[ev]; grind
 ·rw[jQ,aM2 p q x _ (Nat.le_refl _),aAy]
/-! Values,shifts. -/
theorem aUc {l:List Rat} {k:Nat} (h:k<l.length):l.drop (l.length-(k+1))=l.getD (l.length-1-k) 0::l.drop (l.length-k):=by
 rw[List.drop_eq_getElem_cons (by omega),List.getD_eq_getElem?_getD,List.getElem?_eq_getElem (by omega)];rw[show l.length-(k+1)+1=l.length-k by omega];rw[Option.getD_some];simp only[show l.length-(k+1)=l.length-1-k by omega]
theorem aHa (p:List Rat) (x:Rat):∀ k,k<=p.length->oH p x (lT id k)=ev (p.drop (p.length-k)) x
 | 0,_=>by rw[Nat.sub_zero,List.drop_length]; rfl
 | k+1,h=>by
  rw[aDu,aG9,aHa p x k (by omega),aUc (by omega),ev];show _*x+p.getD (p.length-1-k) 0=_;grind
theorem aV3 (p:List Rat) (x:Rat):aBc p x=ev p x:=by
 rw[aBc,aHa p x _ (Nat.le_refl _),Nat.sub_self,List.drop_zero]
/-! Derivatives. -/
def bC:List Rat->Rat->Rat
 | [],_=>0
 | _::l,x=>ev l x+x*bC l x
theorem aDs:∀ {l:List Rat},(∀ k,l.getD k 0=0)->∀ x,bC l x=0
 | [],_,_=>rfl
 | _::l,h,x=>by
  have h':∀ k,l.getD k 0=0:=fun k=>h (k+1);rw[bC,pK h',aDs h'];grind
theorem aLt:∀ {p q:List Rat},(∀ k,p.getD k 0=q.getD k 0)->∀ x,bC p x=bC q x
 | [],q,h,x=>(aDs (fun k=>(h k).symm) x).symm
 | a::p,[],h,x=>aDs h x
 | a::p,b::q,h,x=>by
  have h':∀ k,p.getD k 0=q.getD k 0:=fun k=>h (k+1);rw[bC,bC,xK h',aLt h']
theorem qP {p q:List Rat} (h:∀ x,ev p x=ev q x) (x:Rat):bC p x=bC q x:=aLt (uL h) x
theorem aHb (x:Rat):∀ (p:List Rat) (c:Nat),ev (tab (fun k=>p.getD k 0*((k+c:Nat):Rat)) p.length) x=x*bC p x+(c:Rat)*ev p x
 | [],c=>by show (0:Rat)=x*0+c*0; grind
 | a::p,c=>by
  rw[List.length_cons,rC];have e:(fun k=>(a::p).getD (k+1) 0*((k+1+c:Nat):Rat))=fun k=>p.getD k 0*((k+(c+1):Nat):Rat):=by
   funext k
   rw[List.getD_cons_succ,show k+1+c=k+(c+1) by omega]
  rw[e,aHb x p (c+1),ev,bC];show a*((0+c:Nat):Rat)+_=_;rw[Nat.zero_add];have e2:((c+1:Nat):Rat)=(c:Rat)+1:=by simp
  rw[e2];grind
theorem fA (p:List Rat) (x:Rat):ev (bO p) x=bC p x:=by
 rw[bO,jQ];cases p with
 | nil=>rfl
 | cons a p =>
  have e:(fun k=>(a::p).getD (k+1) 0*((k+1:Nat):Rat))=fun k=>p.getD k 0*((k+1:Nat):Rat):=rfl;rw[e,List.length_cons,Nat.add_sub_cancel,aHb x p 1,bC];simp;grind
theorem aV6 (p q:List Rat):∀ x,bC (eI p q) x=bC p x+bC q x:=by
 induction p generalizing q with
 | nil =>
  intro x;rw[qP (q:=q) (fun y=>by rw[fM,ev]; grind),bC];grind
 | cons a p ih =>
  intro x;cases q with
  | nil=>rw[qP (q:=a::p) (fun y=>by rw[fM,ev]; grind)]; simp only[bC]; grind
  | cons b q =>
   rw[qP (q:=(a+b)::eI p q) (fun y=>by simp only[fM,ev]; grind)];simp only[bC,fM,ih];grind
theorem wE (p:List Rat) (a:Rat):∀ x,bC (aI p a) x=bC p x*a:=by
 induction p with
 | nil=>intro x; rw[qP (q:=[]) (fun y=>by rw[bH,ev]; grind)]; rw[bC]; grind
 | cons b p ih =>
  intro x;rw[qP (q:=(b*a)::aI p a) (fun y=>by simp only[bH,ev]; grind)];simp only[bC,bH,ih];grind
theorem mW {p q r:List Rat} (h:∀ x,ev r x=ev p x*ev q x):∀ x,bC r x=bC p x*ev q x+ev p x*bC q x:=by
 induction p generalizing r with
 | nil =>
  intro x;rw[qP (q:=[]) (fun y=>by rw[h,ev]; grind)];simp only[bC,ev];grind
 | cons a p ih =>
  intro x;rw[qP (q:=eI (aI q a) (0::aT p q)) (fun y=>by rw[h,fM,bH,ev,ev,bZ]; grind)];rw[aV6,wE,bC,ih (bZ p q),bZ,bC,ev];grind
theorem aW1 {e B:Nat} (h:e<=29*B) (hB:1<=B):2^e<1000000000^B:=by
 have h1:2^e<=2^(29*B):=Nat.pow_le_pow_right (by decide) h;rw[Nat.pow_mul] at h1;exact Nat.lt_of_le_of_lt h1 (Nat.pow_lt_pow_left (by decide) (by omega))
theorem wY {l:List Rat} {e B:Nat} (hB:1<=B) (he:e<=29*B) (h:∀ a∈l,a.num.natAbs<=2^e/\a.den<=2^e):aD l B=true:=by
 refine qC fun a ha=>?_;have hp:=aW1 he hB;obtain⟨h1,h2⟩:=h a ha;refine oF (kP.2 (Nat.lt_of_le_of_lt h1 hp)) (kP.2 (Nat.lt_of_le_of_lt ?_ hp));unfold qd;split
 ·exact Nat.zero_le _
 ·exact h2
/-! A number with few bits. -/
def dH (a:Rat) (e:Nat):Prop:=∃ z m:Int,m≠0/\a*(m:Rat)=(z:Rat)/\z.natAbs<=2^e/\m.natAbs<=2^e
theorem nA {m:Int} (h:m≠0):(m:Rat)≠0:=fun e=>h (by
 have:(m:Rat)=((0:Int):Rat):=e;exact Rat.intCast_inj.1 this)
theorem xC (a:Rat):a*(a.den:Rat)=(a.num:Rat):=by
 have h:=Rat.num_divInt_den a;rw[Rat.divInt_eq_div,Rat.intCast_natCast] at h;have hd:(a.den:Rat)≠0:=fun e=>a.den_nz (by
  have:((a.den:Int):Rat)=((0:Int):Rat):=by rw[Rat.intCast_natCast]; exact e
  have:=Rat.intCast_inj.1 this;omega)
 have h2:(a.num:Rat)/(a.den:Rat)*(a.den:Rat)=(a.num:Rat):=by
  rw[Rat.div_def,Rat.mul_assoc,Rat.inv_mul_cancel _ hd,Rat.mul_one]
 rw[h] at h2;exact h2
theorem aIj {a:Rat} {e:Nat} (h:dH a e):a.num.natAbs<=2^e/\a.den<=2^e:=by
 obtain⟨z,m,hm,h1,h2,h3⟩:=h;have h4:a.num*m=z*a.den:=by
  have e1:=xC a;have e2:((a.num*m:Int):Rat)=((z*a.den:Int):Rat):=by
   rw[Rat.intCast_mul,Rat.intCast_mul,<- h1,<- e1];rw[Rat.intCast_natCast];grind
  exact Rat.intCast_inj.1 e2
 have h5:a.num.natAbs*m.natAbs=z.natAbs*a.den:=by
  have:=congrArg Int.natAbs h4;rw[Int.natAbs_mul,Int.natAbs_mul,Int.natAbs_natCast] at this;exact this
 have hc:Nat.Coprime a.num.natAbs a.den:=a.reduced;have d1:a.den ∣ m.natAbs:=by
  have:a.den ∣ a.num.natAbs*m.natAbs:=⟨z.natAbs,by rw[h5,Nat.mul_comm]⟩
  exact(Nat.Coprime.symm hc).dvd_of_dvd_mul_left this
 have d2:a.num.natAbs ∣ z.natAbs:=by
  have:a.num.natAbs ∣ z.natAbs*a.den:=⟨m.natAbs,h5.symm⟩
  exact hc.dvd_of_dvd_mul_right this
 refine⟨?_,Nat.le_trans (Nat.le_of_dvd (by omega) d1) h3⟩;by_cases hz:z.natAbs=0
 ·rw[hz,Nat.zero_mul] at h5;have h6:m.natAbs≠0:=by omega
  have:a.num.natAbs=0:=(Nat.mul_eq_zero.1 h5).resolve_right h6;omega
 ·exact Nat.le_trans (Nat.le_of_dvd (by omega) d2) h2
theorem nC {a:Rat} {e B:Nat} (hB:1<=B) (he:e<=29*B) (h:dH a e):aD [a] B=true :=
 wY hB he fun b hb=>by obtain rfl:=List.mem_singleton.1 hb; exact aIj h
def Cm (m:Int) (p:List Rat) (e:Nat):Prop:=∀ k,∃ z:Int,p.getD k 0*(m:Rat)=(z:Rat)/\z.natAbs<=2^e
def Cb (p:List Rat) (e:Nat):Prop:=∃ m:Int,m≠0/\m.natAbs<=2^e/\Cm m p e
theorem eO {d e:Nat} (h:d<=e):2^d<=2^e:=Nat.pow_le_pow_right (by decide) h
theorem Cm.mono {m:Int} {p:List Rat} {d e:Nat} (h:Cm m p d) (hd:d<=e):Cm m p e:=fun k=>by
 obtain⟨z,h1,h2⟩:=h k;exact⟨z,h1,Nat.le_trans h2 (eO hd)⟩
theorem Cb.mono {p:List Rat} {d e:Nat} (h:Cb p d) (hd:d<=e):Cb p e:=by
 obtain⟨m,h1,h2,h3⟩:=h;exact⟨m,h1,Nat.le_trans h2 (eO hd),h3.mono hd⟩
theorem Cb.few {p:List Rat} {e:Nat} (h:Cb p e) (k:Nat):dH (p.getD k 0) e:=by
 obtain⟨m,h1,h2,h3⟩:=h;obtain⟨z,h4,h5⟩:=h3 k;exact⟨z,m,h1,h4,h5,h2⟩
theorem Cb.sz {p:List Rat} {e B:Nat} (h:Cb p e) (hB:1<=B) (he:e<=29*B):aD p B=true :=
 wY hB he fun a ha=>by
  obtain⟨i,hi,rfl⟩:=List.getElem_of_mem ha;have:=aIj (h.few i);rw[List.getD_eq_getElem?_getD,List.getElem?_eq_getElem hi] at this;exact this
theorem Cm.ext {m:Int} {p q:List Rat} {e:Nat} (h:Cm m p e) (hq:∀ k,q.getD k 0=p.getD k 0):Cm m q e:=fun k=>by rw[hq]; exact h k
theorem Cb.ext {p q:List Rat} {e:Nat} (h:Cb p e) (hq:∀ k,q.getD k 0=p.getD k 0):Cb q e:=by
 obtain⟨m,h1,h2,h3⟩:=h;exact⟨m,h1,h2,h3.ext hq⟩
theorem aVt {a b c d:Nat} (h1:a<=2^c) (h2:b<=2^d):a*b<=2^(c+d):=by rw[Nat.pow_add]; exact Nat.mul_le_mul h1 h2
theorem fW {a b:Int} {c d:Nat} (h1:a.natAbs<=2^c) (h2:b.natAbs<=2^d):(a*b).natAbs<=2^(c+d):=by rw[Int.natAbs_mul]; exact aVt h1 h2
theorem aWi {a b:Int} {c:Nat} (h1:a.natAbs<=2^c) (h2:b.natAbs<=2^c):(a+b).natAbs<=2^(c+1):=by rw[Nat.pow_succ]; omega
theorem aEu {a b:Int} {c:Nat} (h1:a.natAbs<=2^c) (h2:b.natAbs<=2^c):(a-b).natAbs<=2^(c+1):=by rw[Nat.pow_succ]; omega
theorem oY {g:Nat->Rat} {n k:Nat}:(aJ (tab g n)).getD k 0=if k<n then g k else 0:=by rw[tB,pD]
theorem Cb.scale {p:List Rat} {a:Rat} {c d:Nat} (hp:Cb p c) (ha:dH a d):Cb (aI p a) (c+d):=by
 obtain⟨m,m1,m2,m3⟩:=hp;obtain⟨z,n,n1,n2,n3,n4⟩:=ha;refine⟨m*n,Int.mul_ne_zero m1 n1,fW m2 n4,fun k=>?_⟩;obtain⟨y,y1,y2⟩:=m3 k;refine⟨y*z,?_,fW y2 n3⟩;have e:(aI p a).getD k 0=p.getD k 0*a:=by
  rw[aI,oY];split
  ·rfl
  ·rw[dI (by omega)]; grind
 rw[e,Rat.intCast_mul,Rat.intCast_mul,<- y1,<- n2];grind
theorem Cb.derive {p:List Rat} {c t:Nat} (hp:Cb p c) (ht:p.length<=2^t):Cb (bO p) (c+t):=by
 obtain⟨m,m1,m2,m3⟩:=hp;refine⟨m,m1,Nat.le_trans m2 (eO (by omega)),fun k=>?_⟩;rw[bO,oY];by_cases hk:k<p.length-1
 ·rw[if_pos hk];obtain⟨y,y1,y2⟩:=m3 (k+1);refine⟨y*((k+1:Nat):Int),?_,fW y2 (by rw[Int.natAbs_natCast]; omega)⟩;rw[Rat.intCast_mul,<- y1,Rat.intCast_natCast];grind
 ·rw[if_neg hk];exact⟨0,by grind,Nat.zero_le _⟩
theorem aJd {f:Nat->Rat} {M:Rat} {e:Nat} (h:∀ i,∃ z:Int,f i*M=(z:Rat)/\z.natAbs<=2^e):∀ n,∃ z:Int,dD f n*M=(z:Rat)/\z.natAbs<=n*2^e
 | 0=>⟨0,by show (0:Rat)*M=((0:Int):Rat); rw[Rat.zero_mul]; rfl,Nat.zero_le _⟩
 | n+1=>by
  obtain⟨z,z1,z2⟩:=aJd h n;obtain⟨y,y1,y2⟩:=h n;refine⟨z+y,?_,by rw[Nat.succ_mul]; omega⟩;show (dD f n+f n)*M=_;rw[Rat.intCast_add,<- z1,<- y1];grind
theorem aM5 {p q:List Rat} {k:Nat} (h:p.length+q.length<=k+1):fQ p q k=0:=by
 refine nV fun i _=>?_;rcases Nat.lt_or_ge i p.length with hi | hi
 ·rw[dI (l:=q) (by omega),Rat.mul_zero]
 ·rw[dI hi,Rat.zero_mul]
theorem zO (p q:List Rat) (k:Nat):(aT p q).getD k 0=fQ p q k:=by
 rw[aT,oY];rcases Nat.eq_zero_or_pos q.length with h | h
 ·obtain rfl:=List.eq_nil_of_length_eq_zero h;have e:fQ p [] k=0:=nV fun i _=>by rw[dI (l:=[]) (Nat.zero_le _),Rat.mul_zero]
  rw[e];split
  ·exact nV fun i hi=>by
    rw[List.length_drop,List.length_drop,List.length_reverse,List.length_nil] at hi;omega
  ·rfl
 ·split
  ·exact aAu h
  ·rw[aM5 (by omega)]
theorem Cb.cv {p q:List Rat} {c d t:Nat} (hp:Cb p c) (hq:Cb q d) (ht:p.length+q.length<=2^t):∃ m:Int,m≠0/\m.natAbs<=2^(c+d+t)/\∀ k,∃ z:Int,fQ p q k*(m:Rat)=(z:Rat)/\z.natAbs<=2^(c+d+t):=by
 obtain⟨m,m1,m2,m3⟩:=hp;obtain⟨n,n1,n2,n3⟩:=hq;refine⟨m*n,Int.mul_ne_zero m1 n1,Nat.le_trans (fW m2 n2) (eO (by omega)),fun k=>?_⟩;rcases Nat.lt_or_ge (k+1) (p.length+q.length) with hk | hk
 ·obtain⟨z,z1,z2⟩:=aJd (f:=fun i=>p.getD i 0*q.getD (k-i) 0) (M:=((m*n:Int):Rat)) (e:=c+d) (fun i=>by
   obtain⟨y,y1,y2⟩:=m3 i;obtain⟨z,z1,z2⟩:=n3 (k-i);refine⟨y*z,?_,fW y2 z2⟩;rw[Rat.intCast_mul,Rat.intCast_mul,<- y1,<- z1];grind) (k+1)
  refine⟨z,z1,Nat.le_trans z2 ?_⟩;rw[Nat.pow_add 2 (c+d) t,Nat.mul_comm];exact Nat.mul_le_mul_left _ (by omega)
 ·rw[aM5 hk];exact⟨0,by rw[Rat.zero_mul]; rfl,Nat.zero_le _⟩
theorem Cb.mul {p q:List Rat} {c d t:Nat} (hp:Cb p c) (hq:Cb q d) (ht:p.length+q.length<=2^t):Cb (aT p q) (c+d+t):=by
 obtain⟨m,h1,h2,h3⟩:=hp.cv hq ht;exact⟨m,h1,h2,fun k=>by rw[zO]; exact h3 k⟩
theorem eC {p:List Rat} (hp:aJ p=p) (h0:p≠[]):aK p≠0:=by
 have:=aGt p;rw[hp] at this;exact this.resolve_left h0
theorem Cb.monic {p:List Rat} {c:Nat} (hp:Cb p c) (h0:aK p≠0):Cb (cL p) c:=by
 obtain⟨m,m1,m2,m3⟩:=hp;obtain⟨n,n1,n2⟩:=m3 (p.length-1);have hm:=nA m1;have hn:n≠0:=by
  rintro rfl;have h3:aK p*(m:Rat)=0:=n1;rcases Rat.mul_eq_zero.1 h3 with h | h
  ·exact h0 h
  ·exact hm h
 refine⟨n,hn,n2,fun k=>?_⟩;obtain⟨z,z1,z2⟩:=m3 k;refine⟨z,?_,z2⟩;have e:(cL p).getD k 0=p.getD k 0*(1/aK p):=by
  rw[cL,aI,oY];split
  ·rfl
  ·rw[dI (by omega)]; grind
 have n1':aK p*(m:Rat)=(n:Rat):=n1;rw[e,<- z1,<- n1'];grind
/-! vJ step of a division. -/
theorem aEb (p q:List Rat) (m:Rat) (k:Nat):(fE p q m).getD k 0=if k<p.length-1 then (if k<p.length-q.length then p.getD k 0 else p.getD k 0-m*q.getD (k-(p.length-q.length)) 0) else 0:=by rw[fE,oY]
theorem aLa (p q:List Rat) (m:Rat):(fE p q m).length<=p.length-1:=by
 unfold fE;refine Nat.le_trans (jK _) ?_;rw[iA];exact Nat.le_refl _
theorem aXo {p q:List Rat} {mp mq n:Int} {c d:Nat} (hp:Cm mp p c) (hq:Cm mq q d) (hm:mq≠0) (hn:aK q*(mq:Rat)=(n:Rat)) (hnb:n.natAbs<=2^d) (h0:aK q≠0):Cm (mp*n) (fE p q (aK p/aK q)) (c+d+1):=by
 intro k;obtain⟨l,l1,l2⟩:=hp (p.length-1);have l1':aK p*(mp:Rat)=(l:Rat):=l1;obtain⟨y,y1,y2⟩:=hp k;rw[aEb];have b1:(y*n).natAbs<=2^(c+d):=fW y2 hnb;have hq0:=nA hm;by_cases h1:k<p.length-1
 ·rw[if_pos h1];by_cases h2:k<p.length-q.length
  ·rw[if_pos h2];refine⟨y*n,?_,Nat.le_trans b1 (eO (by omega))⟩;rw[Rat.intCast_mul,Rat.intCast_mul,<- y1];grind
  ·rw[if_neg h2];obtain⟨z,z1,z2⟩:=hq (k-(p.length-q.length));refine⟨y*n-l*z,?_,aEu b1 (fW l2 z2)⟩;rw[Rat.intCast_sub,Rat.intCast_mul,Rat.intCast_mul,Rat.intCast_mul,<- y1,<- l1',<- z1,<- hn];grind
 ·rw[if_neg h1];exact⟨0,by rw[Rat.zero_mul]; rfl,Nat.zero_le _⟩
/-! Shifted lists; the value of one step. -/
def vH (s:Nat) (q:List Rat):List Rat:=List.replicate s 0++q
theorem aVc {s:Nat} {q:List Rat} {k:Nat}:(vH s q).getD k 0=if k<s then 0 else q.getD (k-s) 0:=by
 unfold vH;rw[List.getD_eq_getElem?_getD];by_cases h:k<s
 ·rw[if_pos h,List.getElem?_append_left (by rw[List.length_replicate]; exact h),List.getElem?_replicate,if_pos h];rfl
 ·rw[if_neg h,List.getElem?_append_right (by rw[List.length_replicate]; omega),List.length_replicate,List.getD_eq_getElem?_getD]
theorem aFc (q:List Rat) (x:Rat):∀ s,ev (vH s q) x=pw x s*ev q x
 | 0=>by show ev q x=1*ev q x; rw[Rat.one_mul]
 | s+1=>by
  show ev (List.replicate (s+1) 0++q) x=pw x s*x*ev q x;rw[List.replicate_succ,List.cons_append,ev];have:=aFc q x s;unfold vH at this;rw[this];grind
theorem jL (p:List Rat) (a:Rat) (k:Nat):(aI p a).getD k 0=p.getD k 0*a:=by
 rw[aI,oY];split
 ·rfl
 ·rw[dI (by omega),Rat.zero_mul]
theorem aVa (p q:List Rat) (k:Nat):(fC p q).getD k 0=p.getD k 0-q.getD k 0:=by
 rw[fC,oY];split
 ·rfl
 ·rw[dI (by omega),dI (by omega)]; grind
theorem aWh (p q:List Rat) (k:Nat):(eI p q).getD k 0=p.getD k 0+q.getD k 0:=by
 rw[eI,oY];split
 ·rfl
 ·rw[dI (by omega),dI (by omega)]; grind
theorem aVh {p q:List Rat} {m:Rat} (hl:q.length<=p.length) (h0:0<q.length) (hm:aK p=m*aK q) (k:Nat):(fE p q m).getD k 0=(fC p (aI (vH (p.length-q.length) q) m)).getD k 0:=by
 rw[aEb,aVa,jL,aVc];by_cases h1:k<p.length-q.length
 ·rw[if_pos (by omega),if_pos h1,if_pos h1]; grind
 ·rw[if_neg h1,if_neg h1];by_cases h2:k<p.length-1
  ·rw[if_pos h2]; grind
  ·rw[if_neg h2];by_cases h3:k=p.length-1
   ·rw[show k-(p.length-q.length)=q.length-1 by omega,h3];unfold aK at hm;rw[hm];grind
   ·rw[dI (l:=p) (by omega),dI (l:=q) (by omega)]; grind
theorem aM1 {p q:List Rat} {m:Rat} (hl:q.length<=p.length) (h0:0<q.length) (hm:aK p=m*aK q) (x:Rat):ev (fE p q m) x=ev p x-pw x (p.length-q.length)*ev q x*m:=by
 rw[xK (aVh hl h0 hm),jR,bH,aFc]
theorem aJj (p q:List Rat) (m:Rat):aJ (fE p q m)=fE p q m:=cC _
/-! Division. -/
def gI (u:List (Option Rat)):List Rat:=u.map fun o=>o.getD 0
theorem rQ {u:List (Option Rat)} {i:Nat}:(gI u).getD i 0=(u.getD i none).getD 0:=by
 unfold gI;rw[List.getD_eq_getElem?_getD,List.getD_eq_getElem?_getD,List.getElem?_map];cases u[i]?<;>rfl
theorem aR4 {p q:List Rat} {mp mq l n:Int} {e:Nat} (h1:aK p*(mp:Rat)=(l:Rat)) (h2:aK q*(mq:Rat)=(n:Rat)) (hp:mp≠0) (hq:aK q≠0) (hn:n≠0) (hl:(l*mq).natAbs<=2^e) (hb:(mp*n).natAbs<=2^e):dH (aK p/aK q) e:=by
 refine⟨l*mq,mp*n,Int.mul_ne_zero hp hn,?_,hl,hb⟩;rw[Rat.intCast_mul,Rat.intCast_mul,<- h1,<- h2,Rat.div_def];have:=Rat.mul_inv_cancel _ hq;grind
theorem xB {q:List Rat} {mq n:Int} (h2:aK q*(mq:Rat)=(n:Rat)) (hm:mq≠0) (hq:aK q≠0):n≠0:=by
 rintro rfl;rcases Rat.mul_eq_zero.1 (h2:aK q*(mq:Rat)=0) with h | h
 ·exact hq h
 ·exact nA hm h
theorem aAb {u:List (Option Rat)} {s i:Nat} {o:Option Rat} (h:s<u.length):(u.set s o).getD i none=if s=i then o else u.getD i none:=by
 rw[List.getD_eq_getElem?_getD,List.getD_eq_getElem?_getD];by_cases e:s=i
 ·subst e;rw[List.getElem?_set_self h,if_pos rfl];rfl
 ·rw[List.getElem?_set_ne e,if_neg e]
theorem aV5 {u:List (Option Rat)} {s:Nat} {a:Rat} (h:s<u.length) (hn:u.getD s none=none) (x:Rat):ev (gI (u.set s (some a))) x=ev (gI u) x+a*pw x s:=by
 have e:gI (u.set s (some a))=(gI u).set s ((gI u).getD s 0+a):=by
  rw[rQ,hn];unfold gI;rw[List.map_set];show _=List.set _ s (0+a);rw[Rat.zero_add];rfl
 rw[e,aFd _ _ _ _ (by unfold gI; rw[List.length_map]; exact h)]
theorem aUd {B:Nat} {q:List Rat} {mq n:Int} {d:Nat} (hB:1<=B) (hq:0<q.length) (h0:aK q≠0) (hm:mq≠0) (hmq:mq.natAbs<=2^d) (hqd:Cm mq q d) (hn:aK q*(mq:Rat)=(n:Rat)) (hnb:n.natAbs<=2^d) :
  ∀ (f:Nat) (r:List Rat) (u:List (Option Rat)) (mr:Int) (c:Nat),r.length<f->aJ r=r->mr≠0->mr.natAbs<=2^c->Cm mr r c->r.length+1<=u.length+q.length->(q.length<=r.length->∀ i,i<=r.length-q.length->u.getD i none=none)->c+(r.length+1-q.length)*(d+1)+d<=29*B ->
  ∃ U R j,kU B q f u r=some (U,R)/\U.length=u.length/\aJ R=R/\R.length<q.length/\(∀ x,ev (gI U) x*ev q x+ev R x=ev (gI u) x*ev q x+ev r x)/\j<=r.length+1-q.length/\Cm (mr*n^j) R (c+j*(d+1))/\(∀ i,∃ z:Int,((gI U).getD i 0-(gI u).getD i 0)*((mr*n^j:Int):Rat)=(z:Rat)/\z.natAbs<=2^(c+(r.length+1-q.length)*(d+1)+d))/\(∀ i,r.length-q.length<i\/r.length<q.length->U.getD i none=u.getD i none)/\(q.length<=r.length->U.getD (r.length-q.length) none=some (aK r/aK q)):=by
 have hn0:=xB hn hm h0;intro f
 induction f with
 | zero=>intro r u mr c hf; omega
 | succ f ih =>
  intro r u mr c hf htr hmr hmrb hrc hul hun hE;rw[kU];by_cases hl:q.length<=r.length
  ·rw[if_pos hl];obtain⟨l,l1,l2⟩:=hrc (r.length-1);have hr0:r≠[]:=fun e=>by rw[e,List.length_nil] at hl; omega
   obtain⟨t,ht⟩:∃ t,r.length+1-q.length=t+1:=⟨r.length-q.length,by omega⟩
   rw[ht,Nat.succ_mul] at hE;have hfew:dH (aK r/aK q) (c+d):=aR4 l1 hn hmr h0 hn0 (fW l2 hmq) (fW hmrb hnb);have hs1:aD [aK r/aK q] B=true:=nC hB (by omega) hfew;have hlr:aK r=aK r/aK q*aK q:=by
    rw[Rat.div_def,Rat.mul_assoc,Rat.inv_mul_cancel _ h0,Rat.mul_one]
   have hred:=aXo hrc hqd hm hn hnb h0;have hmn:(mr*n).natAbs<=2^(c+d+1):=Nat.le_trans (fW hmrb hnb) (eO (by omega));have hs2:aD (fE r q (aK r/aK q)) B=true:=Cb.sz ⟨mr*n,Int.mul_ne_zero hmr hn0,hmn,hred⟩ hB (by omega);rw[if_pos (by rw[hs1,hs2]; rfl)];have hlen:=aLa r q (aK r/aK q);generalize hs:r.length-q.length=s at *;have hsu:s<u.length:=by omega
   have hrl:r.length≠0:=fun e=>hr0 (List.eq_nil_of_length_eq_zero e);have hst:t=s:=by omega
   have hsteps:(fE r q (aK r/aK q)).length+1-q.length<=t:=by omega
   have hmulle:=Nat.mul_le_mul_right (d+1) hsteps;obtain⟨U,R,j,k1,k2,k3,k4,k5,k6,k7,k8,k9,-⟩:=ih (fE r q (aK r/aK q)) (u.set s (some (aK r/aK q))) (mr*n) (c+d+1) (by omega) (aJj _ _ _) (Int.mul_ne_zero hmr hn0) hmn hred (by rw[List.length_set]; omega) (fun _ i hi=>by
    rw[aAb hsu,if_neg (by omega)];exact hun hl i (by omega)) (by omega)
   have hUs:U.getD s none=some (aK r/aK q):=by
    rw[k9 s (by omega),aAb hsu,if_pos rfl]
   refine⟨U,R,j+1,k1,by rw[k2,List.length_set],k3,k4,fun x=>?_,by omega,?_,fun i=>?_,fun i hi=>?_,fun _=>hUs⟩
   ·rw[k5,aV5 hsu (hun hl s (Nat.le_refl _)),aM1 hl hq hlr,hs];grind
   ·rw[Int.pow_succ',<- Int.mul_assoc];exact k7.mono (by rw[Nat.succ_mul]; omega)
   ·have e:mr*n^(j+1)=mr*n*n^j:=by rw[Int.pow_succ',<- Int.mul_assoc]
    rw[e,ht,Nat.succ_mul];by_cases his:i=s
    ·subst his;have hdj:=Nat.mul_le_mul_left d (show j<=t by omega);refine⟨l*mq*n^j,?_,Nat.le_trans (fW (fW l2 hmq) (c:=c+d) (d:=d*j) ?_) (eO ?_)⟩
     ·rw[rQ,rQ,hUs,hun hl i (Nat.le_refl _)];show (aK r/aK q-0)*_=_;have h5:aK r/aK q*((mr*n:Int):Rat)=((l*mq:Int):Rat):=by
       rw[Rat.intCast_mul,Rat.intCast_mul,<- (show aK r*(mr:Rat)=(l:Rat) from l1),<- hn,Rat.div_def];have:=Rat.mul_inv_cancel _ h0;grind
      rw[Rat.intCast_mul (mr*n),Rat.intCast_mul (l*mq),<- h5];grind
     ·rw[Int.natAbs_pow,Nat.pow_mul];exact Nat.pow_le_pow_left hnb _
     ·have:d*j<=t*(d+1):=by
       rw[Nat.mul_comm d j];exact Nat.mul_le_mul (by omega) (by omega)
      omega
    ·obtain⟨z,z1,z2⟩:=k8 i;refine⟨z,?_,Nat.le_trans z2 (eO (by omega))⟩;rw[<- z1];congr 2;rw[rQ,rQ,aAb hsu,if_neg (fun e=>his e.symm)]
   ·have h7:s<i:=by omega
    rw[k9 i (by omega),aAb hsu,if_neg (by omega)]
  ·rw[if_neg hl];refine⟨u,r,0,rfl,rfl,htr,by omega,fun x=>rfl,Nat.zero_le _,?_,fun i=>⟨0,?_,Nat.zero_le _⟩,fun i _=>rfl,fun h=>absurd h hl⟩
   ·rw[Int.pow_zero,Int.mul_one];exact hrc.mono (by omega)
   ·have:(gI u).getD i 0-(gI u).getD i 0=0:=by grind
    rw[this,Rat.zero_mul];rfl
theorem aRs (n:Nat) (k:Nat):(gI (List.replicate n none)).getD k 0=0:=by
 rw[rQ,List.getD_eq_getElem?_getD,List.getElem?_replicate];split<;>rfl
theorem rA {p:List Rat} (h:p=[]\/aK p≠0):aJ p=p:=by
 rcases h with rfl | h
 ·rfl
 ·have hp:p≠[]:=by rintro rfl; exact h rfl
  obtain⟨m',a,rfl⟩:∃ m' a,p=m'++[a]:=⟨p.dropLast,p.getLast hp,(List.dropLast_concat_getLast _).symm⟩
  have ha:a≠0:=by simpa[aK] using h
  rw[sT,if_neg ha]
def oL (p q:List Rat) (c d:Nat):Nat:=c+(p.length+1-q.length)*(d+1)+d
theorem aC2 {B:Nat} {p q:List Rat} {c d:Nat} (hB:1<=B) (hp:aJ p=p) (hq:aJ q=q) (h0:q≠[]) (hc:Cb p c) (hd:Cb q d) (hE:oL p q c d<=29*B) :
  ∃ U R,dX B p q=some (U,R)/\aJ U=U/\aJ R=R/\R.length<q.length/\U.length=p.length+1-q.length/\(∀ x,ev p x=ev U x*ev q x+ev R x)/\Cb U (oL p q c d)/\Cb R (oL p q c d-d):=by
 unfold oL at *;obtain⟨mp,m1,m2,m3⟩:=hc;obtain⟨mq,n1,n2,n3⟩:=hd;obtain⟨n,nn1,nn2⟩:=n3 (q.length-1);have hl:=eC hq h0;have hql:=List.length_pos_iff.2 h0;obtain⟨U,R,j,k1,k2,k3,k4,k5,k6,k7,k8,k9,k10⟩:=aUd hB hql hl n1 n2 n3 nn1 nn2 (p.length+2) p (List.replicate (p.length+1-q.length) none) mp c (by omega) hp m1 m2 m3 (by rw[List.length_replicate]; omega) (fun _ i _=>by rw[List.getD_eq_getElem?_getD,List.getElem?_replicate]; split<;>rfl) hE;have hz:=aRs (p.length+1-q.length);rw[List.length_replicate] at k2;have hM:mp*n^j≠0:=Int.mul_ne_zero m1 (Int.pow_ne_zero (xB nn1 n1 hl));have hjd:j*(d+1)<=(p.length+1-q.length)*(d+1):=Nat.mul_le_mul_right _ k6;have hMb:(mp*n^j).natAbs<=2^(c+(p.length+1-q.length)*(d+1)):=by
  refine Nat.le_trans (fW m2 (d:=d*j) ?_) (eO ?_)
  ·rw[Int.natAbs_pow,Nat.pow_mul];exact Nat.pow_le_pow_left nn2 _
  ·have:d*j<=j*(d+1):=by rw[Nat.mul_comm]; exact Nat.mul_le_mul_left _ (by omega)
   omega
 refine⟨gI U,R,?_,?_,k3,k4,by unfold gI; rw[List.length_map,k2],fun x=>?_,⟨_,hM,Nat.le_trans hMb (eO (by omega)),fun i=>?_⟩,⟨_,hM,Nat.le_trans hMb (eO (by omega)),k7.mono (by omega)⟩⟩
 ·rw[dX,if_neg h0,k1];rfl
 ·refine rA ?_;rcases Nat.lt_or_ge p.length q.length with hlt | hge
  ·left
   refine List.eq_nil_of_length_eq_zero ?_;unfold gI;rw[List.length_map,k2];omega
  ·right
   have hp0:p≠[]:=fun e=>by rw[e,List.length_nil] at hge; omega
   have e:(gI U).length-1=p.length-q.length:=by unfold gI; rw[List.length_map,k2]; omega
   rw[aK,e,rQ,k10 hge];show aK p/aK q≠0;rw[Rat.div_def];intro h;rcases Rat.mul_eq_zero.1 h with h | h
   ·exact eC hp hp0 h
   ·exact hl (by rw[<- Rat.inv_inv (aK q),h,Rat.inv_zero])
 ·rw[k5,pK hz];grind
 ·obtain⟨z,z1,z2⟩:=k8 i;rw[hz] at z1;exact⟨z,by rw[<- z1]; grind,z2⟩
/-! Whole numbers. -/
theorem aCk {a:Rat} {z m:Int} (hm:m≠0) (h1:a*(m:Rat)=(z:Rat)):a.num.natAbs<=z.natAbs/\a.den ∣ m.natAbs/\a.den<=m.natAbs:=by
 have e1:=xC a;have h4:a.num*m=z*a.den:=by
  have e2:((a.num*m:Int):Rat)=((z*a.den:Int):Rat):=by
   rw[Rat.intCast_mul,Rat.intCast_mul,<- h1,<- e1];rw[Rat.intCast_natCast];grind
  exact Rat.intCast_inj.1 e2
 have h5:a.num.natAbs*m.natAbs=z.natAbs*a.den:=by
  have:=congrArg Int.natAbs h4;rw[Int.natAbs_mul,Int.natAbs_mul,Int.natAbs_natCast] at this;exact this
 have hc:Nat.Coprime a.num.natAbs a.den:=a.reduced;have d1:a.den ∣ m.natAbs:=by
  have:a.den ∣ a.num.natAbs*m.natAbs:=⟨z.natAbs,by rw[h5,Nat.mul_comm]⟩
  exact(Nat.Coprime.symm hc).dvd_of_dvd_mul_left this
 have d2:a.num.natAbs ∣ z.natAbs:=by
  have:a.num.natAbs ∣ z.natAbs*a.den:=⟨m.natAbs,h5.symm⟩
  exact hc.dvd_of_dvd_mul_right this
 refine⟨?_,d1,Nat.le_of_dvd (by omega) d1⟩;by_cases hz:z.natAbs=0
 ·rw[hz,Nat.zero_mul] at h5;have h6:m.natAbs≠0:=by omega
  have:a.num.natAbs=0:=(Nat.mul_eq_zero.1 h5).resolve_right h6;omega
 ·exact Nat.le_of_dvd (by omega) d2
theorem nB (z:Int):wR z=(z:Rat):=by
 rw[show wR z=Rat.divInt z 1 from rfl,Rat.divInt_eq_div,Rat.div_def];show (z:Rat)*(1:Rat)⁻¹=_;have:(1:Rat)⁻¹=1:=by decide +kernel
 rw[this,Rat.mul_one]
theorem kI {p:List Rat} {a:Rat} (hp:aJ p=p) (ha:a≠0):(aI p a).length=p.length/\aK (aI p a)=aK p*a:=by
 by_cases h0:p=[]
 ·subst h0;refine⟨rfl,?_⟩;show (0:Rat)=0*a;rw[Rat.zero_mul]
 ·have hpl:=List.length_pos_iff.2 h0;have e:(tab (fun k=>p.getD k 0*a) p.length).length=p.length:=iA;have hl:aK (tab (fun k=>p.getD k 0*a) p.length)=aK p*a:=by
   unfold aK;rw[e,pD,if_pos (by omega)]
  have ht:aI p a=tab (fun k=>p.getD k 0*a) p.length:=rA (.inr (by
   rw[hl];intro h;exact(Rat.mul_eq_zero.1 h).elim (eC hp h0) ha))
  rw[ht];exact⟨e,hl⟩
theorem Cm.scale1 {p:List Rat} {n c d:Nat} (hp:Cm 1 p c) (hn:n<=2^d):Cm 1 (aI p (wR (n:Int))) (c+d):=fun k=>by
 obtain⟨z,z1,z2⟩:=hp k;refine⟨z*(n:Int),?_,fW z2 (by rw[Int.natAbs_natCast]; exact hn)⟩;rw[jL,nB,Rat.intCast_mul,<- z1];grind
theorem lE (a:Rat):a*((1:Int):Rat)=a:=Rat.mul_one a
theorem nE {p:List Rat} {c:Nat} (h:Cm 1 p c):Cb p c:=⟨1,by decide,Nat.one_le_two_pow,h⟩
theorem aDl {B:Nat} {q:List Rat} {d:Nat} (hB:1<=B) (hq:0<q.length) (h0:aK q≠0) (hqd:Cm 1 q d) :
  ∀ (f:Nat) (p:List Rat) (c:Nat),p.length<f->aJ p=p->Cm 1 p c->c+(p.length+1-q.length)*(d+1)<=29*B ->
  ∃ R,kT B q f p=some R/\aJ R=R/\R.length<q.length/\(p.length<q.length->R=p)/\Cm 1 R (c+(p.length+1-q.length)*(d+1))/\∃ (a:Rat) (u:List Rat),a≠0/\∀ x,ev R x=a*ev p x+ev u x*ev q x:=by
 intro f
 induction f with
 | zero=>intro p c hf; omega
 | succ f ih =>
  intro p c hf htr hpc hE;rw[kT];by_cases hl:q.length<=p.length
  ·rw[if_pos hl];have hp0:p≠[]:=fun e=>by rw[e,List.length_nil] at hl; omega
   have hlp:=eC htr hp0;obtain⟨l,l1,l2⟩:=hpc (p.length-1);obtain⟨n,n1,n2⟩:=hqd (q.length-1);have l1':aK p*((1:Int):Rat)=(l:Rat):=l1;have n1':aK q*((1:Int):Rat)=(n:Rat):=n1;have hn0:=xB n1' (by decide) h0;obtain⟨t,ht⟩:∃ t,p.length+1-q.length=t+1:=⟨p.length-q.length,by omega⟩
   rw[ht,Nat.succ_mul] at hE;have hM:fO q p*(n:Rat)=(l:Rat):=by
    rw[<- l1',<- n1',lE,lE,fO,Rat.div_def,Rat.mul_assoc,Rat.inv_mul_cancel _ h0,Rat.mul_one]
   obtain⟨f1,_,f3⟩:=aCk hn0 hM;have hMl:aK p=fO q p*aK q:=by rw[fO,Rat.div_def,Rat.mul_assoc,Rat.inv_mul_cancel _ h0,Rat.mul_one]
   have hden:((fO q p).den:Rat)≠0:=fun e=>(fO q p).den_nz (by
    have:(((fO q p).den:Int):Rat)=((0:Int):Rat):=by rw[Rat.intCast_natCast]; exact e
    have:=Rat.intCast_inj.1 this;omega)
   have hw:wR ((fO q p).den:Int)≠0:=by rw[nB,Rat.intCast_natCast]; exact hden
   obtain⟨s1,s2⟩:=kI htr hw;have hS:Cm 1 (jD q p) (c+d):=hpc.scale1 (Nat.le_trans f3 n2);have hSl:(jD q p).length=p.length:=s1;have hnum:=xC (fO q p);have hSm:aK (jD q p)=wR (fO q p).num*aK q:=by
    show aK (aI p _)=_;rw[s2,nB,nB,Rat.intCast_natCast,hMl,<- hnum];grind
   have hN:Cm 1 (mulN q p) (c+d+1):=fun k=>by
    obtain⟨y,y1,y2⟩:=hS k;rw[mulN,aEb];by_cases h1:k<(jD q p).length-1
    ·rw[if_pos h1];by_cases h2:k<(jD q p).length-q.length
     ·rw[if_pos h2];exact⟨y,y1,Nat.le_trans y2 (eO (by omega))⟩
     ·rw[if_neg h2];obtain⟨z,z1,z2⟩:=hqd (k-((jD q p).length-q.length));refine⟨y-(fO q p).num*z,?_,aEu y2 (fW (Nat.le_trans f1 l2) z2)⟩;rw[lE] at y1 z1 |-;rw[y1,z1,nB,Rat.intCast_sub,Rat.intCast_mul]
    ·rw[if_neg h1];exact⟨0,by rw[Rat.zero_mul]; rfl,Nat.zero_le _⟩
   have hNl:(mulN q p).length<p.length:=by
    have:=aLa (jD q p) q (wR (fO q p).num);rw[hSl] at this;have:=List.length_pos_iff.2 hp0;show (fE _ _ _).length<_;omega
   have hpos:0<t*(d+1)\/t=0:=by
    rcases Nat.eq_zero_or_pos t with h | h
    ·exact .inr h
    ·exact .inl (Nat.mul_pos h (by omega))
   have o1:aD [fO q p] B=true:=wY (e:=c+d) hB (by omega) fun b hb=>by
    obtain rfl:=List.mem_singleton.1 hb;exact⟨Nat.le_trans f1 (Nat.le_trans l2 (eO (by omega))),Nat.le_trans f3 (Nat.le_trans n2 (eO (by omega)))⟩
   have o2:aD (jD q p) B=true:=(nE hS).sz hB (by omega);have o3:aD (mulN q p) B=true:=(nE hN).sz hB (by omega);have hok:uY B q p=true:=by
    unfold uY;rw[o1,o2,o3,decide_eq_true (by rw[hSl]; exact hl),decide_eq_true hNl];rfl
   rw[if_pos hok];have hsteps:(mulN q p).length+1-q.length<=t:=by omega
   have hmulle:=Nat.mul_le_mul_right (d+1) hsteps;obtain⟨R,k1,k2,k3,_,k5,a,u,k6,k7⟩:=ih (mulN q p) (c+d+1) (by omega) (aJj _ _ _) hN (by omega);refine⟨R,k1,k2,k3,fun h=>by omega,k5.mono (by rw[ht,Nat.succ_mul]; omega),a*wR ((fO q p).den:Int),eI u (aI (vH ((jD q p).length-q.length) [wR (fO q p).num]) (-a)),fun h=>(Rat.mul_eq_zero.1 h).elim k6 hw,fun x=>?_⟩;rw[k7,mulN,aM1 (by rw[hSl]; exact hl) hq hSm,jD,bH,fM,bH,aFc,ev,ev];grind
  ·rw[if_neg hl];refine⟨p,rfl,htr,by omega,fun _=>rfl,hpc.mono (by omega),1,[],by decide,fun x=>?_⟩;rw[ev];grind
theorem aCw {B:Nat} {m:Int} {c:Nat} (hB:1<=B) (hE:c<=29*B) (hm:m≠0) (hmb:m.natAbs<=2^c) :
  ∀ (l:List Rat) (e:Rat) (g:Int),(∀ a∈l,∃ z:Int,a*(m:Rat)=(z:Rat)/\z.natAbs<=2^c)->e*(m:Rat)=(g:Rat)->g≠0->g.natAbs<=2^c ->
  ∃ (D:Rat) (h:Int),gF B l e=some D/\D*(m:Rat)=(h:Rat)/\h≠0/\h.natAbs<=2^c/\(∃ y:Int,e=D*(y:Rat))/\∀ a∈l,∃ y:Int,a=D*(y:Rat)
 | [],e,g,_,h1,h2,h3=>⟨e,g,rfl,h1,h2,h3,⟨1,by rw[lE]⟩,fun a ha=>nomatch ha⟩
 | a::l,e,g,hl,h1,h2,h3=>by
  have hm0:=nA hm;have he:e≠0:=by
   rintro rfl;rw[Rat.zero_mul] at h1;exact h2 (Rat.intCast_inj.1 h1.symm)
  obtain⟨z,z1,z2⟩:=hl a List.mem_cons_self;have hi:=Rat.mul_inv_cancel e he;have r1:a/e*(g:Rat)=(z:Rat):=by
   rw[<- h1,<- z1,Rat.div_def];grind
  obtain⟨f1,⟨g1,f2⟩,f3⟩:=aCk h2 r1;obtain⟨g2,hg2⟩:∃ g2:Int,g=((a/e).den:Int)*g2:=by
   rcases Int.natAbs_eq g with h | h
   ·exact⟨g1,by rw[h,f2,Int.natCast_mul]⟩
   ·exact⟨-g1,by rw[h,f2,Int.natCast_mul,Int.mul_neg]⟩
  have hden:((a/e).den:Rat)≠0:=fun q=>(a/e).den_nz (by
   have:(((a/e).den:Int):Rat)=((0:Int):Rat):=by rw[Rat.intCast_natCast]; exact q
   have:=Rat.intCast_inj.1 this;omega)
  have hnum:=xC (a/e);have hg20:g2≠0:=by rintro rfl; exact h2 (by rw[hg2,Int.mul_zero])
  have hg2b:g2.natAbs<=2^c:=by
   have:=congrArg Int.natAbs hg2;rw[Int.natAbs_mul,Int.natAbs_natCast] at this;have h5:=Nat.le_mul_of_pos_left g2.natAbs (Nat.pos_of_ne_zero (a/e).den_nz);omega
  have hdi:=Rat.mul_inv_cancel _ hden;have r2:e/wR ((a/e).den:Int)*(m:Rat)=(g2:Rat):=by
   rw[nB,Rat.intCast_natCast,Rat.div_def];have h6:e*(m:Rat)=((a/e).den:Rat)*(g2:Rat):=by rw[h1,hg2,Rat.intCast_mul,Rat.intCast_natCast]
   grind
  have s1:aD [a/e] B=true:=wY (e:=c) hB hE fun b hb=>by
   obtain rfl:=List.mem_singleton.1 hb;exact⟨Nat.le_trans f1 z2,Nat.le_trans f3 h3⟩
  have s2:aD [e/wR ((a/e).den:Int)] B=true:=nC hB hE ⟨g2,m,hm,r2,hg2b,hmb⟩;obtain⟨D,h,k1,k2,k3,k4,⟨y,k5⟩,k6⟩:=aCw hB hE hm hmb l (e/wR ((a/e).den:Int)) g2 (fun b hb=>hl b (List.mem_cons_of_mem _ hb)) r2 hg20 hg2b;have hey:e=D*((y*((a/e).den:Int):Int):Rat):=by
   rw[nB,Rat.intCast_natCast,Rat.div_def] at k5;rw[Rat.intCast_mul,Rat.intCast_natCast];grind
  refine⟨D,h,by rw[gF,if_pos (by rw[s1,s2]; rfl),k1],k2,k3,k4,⟨_,hey⟩,fun b hb=>?_⟩;rcases List.mem_cons.1 hb with rfl | hb
  ·refine⟨y*(b/e).num,?_⟩;have h7:b=b/e*e:=by rw[Rat.div_def,Rat.mul_assoc,Rat.inv_mul_cancel _ he,Rat.mul_one]
   rw[nB,Rat.intCast_natCast,Rat.div_def] at k5;rw[Rat.intCast_mul,<- hnum];grind
  ·exact k6 b hb
theorem zC {B:Nat} {p:List Rat} {c:Nat} (hB:1<=B) (hp:aJ p=p) (hc:Cb p c) (hE:c<=29*B) :
  ∃ R,jU B p=some R/\aJ R=R/\R.length=p.length/\Cm 1 R c/\∃ a:Rat,a≠0/\∀ x,ev R x=a*ev p x:=by
 by_cases h0:p=[]
 ·subst h0;refine⟨[],?_,rfl,rfl,fun k=>⟨0,by rw[dI (Nat.zero_le _),Rat.zero_mul]; rfl,Nat.zero_le _⟩,1,by decide,fun x=>by rw[ev]; grind⟩;have z:aD [(0:Rat)] B=true:=wY (e:=0) hB (Nat.zero_le _) fun b hb=>by
   obtain rfl:=List.mem_singleton.1 hb;exact⟨by decide,by decide⟩
  show (if (aD [1/0] B&&_)=true then some _ else none)=_;rw[show (1:Rat)/0=0 by decide +kernel,z];rfl
 ·obtain⟨m,m1,m2,m3⟩:=hc;obtain⟨g,g1,g2⟩:=m3 (p.length-1);have hl:=eC hp h0;have hm0:=nA m1;have g1':aK p*(m:Rat)=(g:Rat):=g1;have hg:g≠0:=xB g1' m1 hl;have hmem:∀ a∈p,∃ k,a=p.getD k 0:=fun a ha=>by
   obtain⟨i,hi,rfl⟩:=List.getElem_of_mem ha;exact⟨i,by rw[List.getD_eq_getElem?_getD,List.getElem?_eq_getElem hi]; rfl⟩
  obtain⟨D,h,k1,k2,k3,k4,_,k6⟩:=aCw hB hE m1 m2 p (aK p) g (fun a ha=>by
   obtain⟨k,rfl⟩:=hmem a ha;exact m3 k) g1' hg g2
  have hD:D≠0:=by
   rintro rfl;rw[Rat.zero_mul] at k2;exact k3 (Rat.intCast_inj.1 k2.symm)
  have hDi:=Rat.mul_inv_cancel D hD;have h1D:(1:Rat)/D=D⁻¹:=by rw[Rat.div_def,Rat.one_mul]
  have hD1:(1:Rat)/D≠0:=by
   rw[h1D];intro e;rw[e] at hDi;grind
  have hCR:Cm 1 (aI p (1/D)) c:=fun k=>by
   rw[jL,lE,h1D];rcases Nat.lt_or_ge k p.length with hk | hk
   ·obtain⟨y,y1⟩:=k6 (p.getD k 0) (by rw[List.getD_eq_getElem?_getD,List.getElem?_eq_getElem hk]; exact List.getElem_mem hk);obtain⟨z,z1,z2⟩:=m3 k;refine⟨y,by rw[y1]; grind,?_⟩;have e:((h*y:Int):Rat)=(z:Rat):=by
     rw[Rat.intCast_mul,<- z1,y1,<- k2];grind
    have e:=congrArg Int.natAbs (Rat.intCast_inj.1 e);rw[Int.natAbs_mul] at e;have:=Nat.le_mul_of_pos_left y.natAbs (show 0<h.natAbs by omega);omega
   ·rw[dI hk];exact⟨0,by rw[Rat.zero_mul]; rfl,Nat.zero_le _⟩
  have s1:aD [1/D] B=true:=nC hB hE ⟨m,h,k3,by rw[h1D,<- k2]; grind,m2,k4⟩;have s2:=(nE hCR).sz hB hE;refine⟨aI p (1/D),?_,cC _,(kI hp hD1).1,hCR,1/D,hD1,fun x=>by rw[bH,Rat.mul_comm]⟩;unfold jU;rw[k1];show (if _ then some _ else none)=_;rw[s1,s2];rfl
/-! Divisors. -/
def Dv (g p:List Rat):Prop:=∃ u:List Rat,∀ x,ev p x=ev u x*ev g x
def dA (p q g:List Rat):Prop:=Dv g p/\Dv g q/\∃ a b:List Rat,∀ x,ev g x=ev a x*ev p x+ev b x*ev q x
theorem dA.symm {p q g:List Rat} (h:dA p q g):dA q p g:=by
 obtain⟨h1,h2,a,b,h3⟩:=h;exact⟨h2,h1,b,a,fun x=>by rw[h3]; grind⟩
theorem aUw (p:List Rat):dA p [] p:=⟨⟨[1],fun x=>by rw[ev,ev]; grind⟩,⟨[],fun x=>by rw[ev]; grind⟩,[1],[],fun x=>by rw[ev,ev,ev]; grind⟩
theorem dA.step {p q r g u:List Rat} {a:Rat} (ha:a≠0) (h:∀ x,ev r x=a*ev p x+ev u x*ev q x) (hg:dA q r g):dA p q g:=by
 obtain⟨⟨s,h1⟩,⟨t,h2⟩,c,d,h3⟩:=hg;have hi:=Rat.inv_mul_cancel a ha;refine⟨⟨aI (fC t (aT u s)) a⁻¹,fun x=>?_⟩,⟨s,h1⟩,aI d a,eI c (aT d u),fun x=>?_⟩
 ·rw[bH,jR,bZ];have e1:=h x;have e2:=h1 x;have e3:=h2 x;grind
 ·rw[bH,fM,bZ,h3,h x];grind
theorem dA.left {p p' q g:List Rat} {a:Rat} (ha:a≠0) (h:∀ x,ev p' x=a*ev p x) (hg:dA p' q g):dA p q g:=by
 obtain⟨⟨s,h1⟩,h2,c,d,h3⟩:=hg;have hi:=Rat.inv_mul_cancel a ha;refine⟨⟨aI s a⁻¹,fun x=>?_⟩,h2,aI c a,d,fun x=>?_⟩
 ·rw[bH];have e1:=h x;have e2:=h1 x;grind
 ·rw[bH,h3,h x];grind
theorem dA.right {p q q' g:List Rat} {a:Rat} (ha:a≠0) (h:∀ x,ev q' x=a*ev q x) (hg:dA p q' g):dA p q g:=(dA.left ha h hg.symm).symm
theorem dA.res {p q g g':List Rat} {a:Rat} (ha:a≠0) (h:∀ x,ev g' x=a*ev g x) (hg:dA p q g):dA p q g':=by
 obtain⟨⟨s,h1⟩,⟨t,h2⟩,c,d,h3⟩:=hg;have hi:=Rat.inv_mul_cancel a ha;refine⟨⟨aI s a⁻¹,fun x=>?_⟩,⟨aI t a⁻¹,fun x=>?_⟩,aI c a,aI d a,fun x=>?_⟩
 ·rw[bH];have e1:=h x;have e2:=h1 x;grind
 ·rw[bH];have e1:=h x;have e2:=h2 x;grind
 ·rw[bH,bH,h x,h3];grind
/-! Degrees. -/
theorem qF {p q:List Rat} (hp:aJ p=p) (hq:aJ q=q) (hp0:p≠[]) (hq0:q≠[]):(aT p q).length=p.length+q.length-1/\aK (aT p q)=aK p*aK q:=by
 have h1:=List.length_pos_iff.2 hp0;have h2:=List.length_pos_iff.2 hq0;have e:(tab (kS p q) (p.length+q.length-1)).length=p.length+q.length-1:=iA;have hl:aK (tab (kS p q) (p.length+q.length-1))=aK p*aK q:=by
  unfold aK;rw[e,pD,if_pos (by omega),aAu h2,fQ,show p.length+q.length-1-1+1=(p.length-1)+(1+(q.length-1)) by omega,rM,nV,Rat.zero_add,rM,nV (n:=q.length-1),Rat.add_zero]
  ·show (0:Rat)+p.getD (p.length-1+0) 0*q.getD _ 0=_;rw[Nat.add_zero,Rat.zero_add,show p.length+q.length-1-1-(p.length-1)=q.length-1 by omega]
  ·intro i hi;rw[dI (l:=p) (by omega),Rat.zero_mul]
  ·intro i hi;rw[dI (l:=q) (by omega),Rat.mul_zero]
 have ht:aT p q=tab (kS p q) (p.length+q.length-1):=rA (.inr (by
  rw[hl];intro h;exact(Rat.mul_eq_zero.1 h).elim (eC hp hp0) (eC hq hq0)))
 rw[ht];exact⟨e,hl⟩
theorem aJw (p q:List Rat):aJ (aT p q)=aT p q:=cC _
theorem rV {p:List Rat} (hp:aJ p=p) (h0:p≠[]):aJ p≠[]:=by rw[hp]; exact h0
theorem mK {g p:List Rat} (hg:aJ g=g) (hp:aJ p=p) (h0:p≠[]) (h:Dv g p):g≠[]/\g.length<=p.length/\(g.length=p.length->∃ c:Rat,c≠0/\∀ x,ev p x=c*ev g x):=by
 obtain⟨u,hu⟩:=h;have hu':∀ x,ev p x=ev (aJ u) x*ev g x:=fun x=>by rw[jQ,hu]
 have hg0:g≠[]:=by
  rintro rfl;exact rV hp h0 (pN fun x=>by rw[hu,ev,Rat.mul_zero])
 have hu0:aJ u≠[]:=by
  intro e;exact rV hp h0 (pN fun x=>by rw[hu',e,ev,Rat.zero_mul])
 have hpe:p=aT (aJ u) g:=iD hp (aJw _ _) fun x=>by rw[bZ,hu']
 obtain⟨m1,_⟩:=qF (cC u) hg hu0 hg0;have hul:=List.length_pos_iff.2 hu0;refine⟨hg0,by rw[hpe,m1]; omega,fun he=>?_⟩;have h1:(aJ u).length=1:=by
  rw[hpe,m1] at he;omega
 obtain⟨c,hc⟩:∃ c,aJ u=[c]:=List.length_eq_one_iff.1 h1;have hc0:c≠0:=by
  have:=eC (cC u) hu0;rw[hc] at this;exact this
 exact⟨c,hc0,fun x=>by rw[hu',hc,ev,ev]; grind⟩
theorem aQd {p q g h:List Rat} (hg:dA p q g) (hh:dA p q h) (tg:aJ g=g) (th:aJ h=h) (h0:g≠[]) (hl:aK g=aK h):g=h:=by
 have dv:∀ {g h:List Rat},dA p q g->dA p q h->Dv g h:=by
  rintro g h ⟨⟨s,h1⟩,⟨t,h2⟩,_⟩ ⟨_,_,a,b,h3⟩;exact⟨eI (aT a s) (aT b t),fun x=>by rw[fM,bZ,bZ,h3,h1,h2]; grind⟩
 obtain⟨n1,l1,_⟩:=mK th tg h0 (dv hh hg);obtain⟨_,l2,c1⟩:=mK tg th n1 (dv hg hh);obtain⟨c,hc,he⟩:=c1 (by omega);have e2:h=aI g c:=iD th (cC _) fun x=>by rw[bH,he,Rat.mul_comm]
 have hlast:=(kI tg hc).2;rw[<- e2,<- hl] at hlast;have hg1:=eC tg h0;have hi:=Rat.mul_inv_cancel _ hg1;have hc1:c=1:=by grind
 refine iD tg th fun x=>by rw[he,hc1,Rat.one_mul]
/-! poly.Gcd. -/
theorem aE4:∀ {g:Nat},1<=g->2^g*5<=5^g*2
 | 1,_=>by decide
 | g+2,_=>by
  have:=aE4 (g:=g+1) (by omega);rw[Nat.pow_succ 2,Nat.pow_succ 5];omega
theorem aMg:∀ {g:Nat},1<=g->2^g*(5*g+7)<=5^g*5
 | 1,_=>by decide
 | g+2,_=>by
  have h:=aMg (g:=g+1) (by omega);have h2:=aE4 (g:=g+1) (by omega);rw[Nat.pow_succ 2,Nat.pow_succ 5];generalize 5^(g+1)=y at *;generalize 2^(g+1)=x at *;have e:x*2*(5*(g+2)+7)=2*(x*(5*(g+1)+7))+2*(x*5):=by grind
  rw[e];omega
def jH (M n:Nat):Nat:=5^n*2^(M-n)
theorem aL7 {M n:Nat} (h:n<=M):jH M n<=5^M:=by
 unfold jH;obtain⟨k,rfl⟩:∃ k,M=n+k:=⟨M-n,by omega⟩
 rw[Nat.pow_add,Nat.add_sub_cancel_left];exact Nat.mul_le_mul_left _ (Nat.pow_le_pow_left (by decide) _)
theorem aU3 {M n:Nat} (h1:1<=n) (h:n<=M):5*2^(M-1)<=jH M n:=by
 unfold jH;obtain⟨k,rfl⟩:∃ k,n=k+1:=⟨n-1,by omega⟩
 obtain⟨j,rfl⟩:∃ j,M=k+1+j:=⟨M-(k+1),by omega⟩
 rw[show k+1+j-1=k+j by omega,show k+1+j-(k+1)=j by omega,Nat.pow_add,Nat.pow_succ,Nat.mul_comm (5^k) 5,Nat.mul_assoc 5,];refine Nat.mul_le_mul_left 5 (Nat.mul_le_mul_right _ (Nat.pow_le_pow_left (by decide) _))
theorem aI3 {M n g c d Z:Nat} (hg:1<=g) (hM:n+g<=M) (h:(2*(c+1)+5*(d+1))*jH M (n+g)<=Z):(2*(d+1)+5*(c+(g+1)*(d+1)+1))*jH M n<=Z:=by
 refine Nat.le_trans ?_ h;unfold jH;obtain⟨k,rfl⟩:∃ k,M=n+g+k:=⟨M-(n+g),by omega⟩
 rw[show n+g+k-n=g+k by omega,show n+g+k-(n+g)=k by omega,Nat.pow_add 2,Nat.pow_add 5];have h1:=aE4 hg;have h2:=aMg hg;generalize 2^g=x at *;generalize 5^g=y at *;have e1:2*(d+1)+5*(c+(g+1)*(d+1)+1)=5*(c+1)+(5*g+7)*(d+1):=by grind
 have e2:(5*(c+1)+(5*g+7)*(d+1))*x<=(2*(c+1)+5*(d+1))*y:=by
  have q1:=Nat.mul_le_mul_right (c+1) h1;have q2:=Nat.mul_le_mul_right (d+1) h2;have q3:(5*(c+1)+(5*g+7)*(d+1))*x=x*5*(c+1)+x*(5*g+7)*(d+1):=by grind
  have q4:(2*(c+1)+5*(d+1))*y=y*2*(c+1)+y*5*(d+1):=by grind
  omega
 rw[e1];generalize 5*(c+1)+(5*g+7)*(d+1)=u at *;generalize 2*(c+1)+5*(d+1)=v at *;have e3:u*(5^n*(x*2^k))=u*x*(5^n*2^k):=by grind
 have e4:v*(5^n*y*2^k)=v*y*(5^n*2^k):=by grind
 rw[e3,e4];exact Nat.mul_le_mul_right _ e2
theorem aCp {M n A B Z s:Nat} (h1:1<=n) (h:n<=M) (hA:A*jH M n<=Z) (hZ:Z<=s*5*2^(M-1)*B):A<=s*B:=by
 have h2:=Nat.le_trans (Nat.le_trans (Nat.mul_le_mul_left A (aU3 h1 h)) hA) hZ;have h3:0<5*2^(M-1):=Nat.mul_pos (by decide) (Nat.pow_pos (by decide));have e1:s*5*2^(M-1)*B=s*B*(5*2^(M-1)):=by grind
 rw[e1] at h2;exact Nat.le_of_mul_le_mul_right h2 h3
theorem aIg {B Z M:Nat} (hB:1<=B) (hZ:Z<=5*5*2^(M-1)*(29*B)) :
  ∀ (f:Nat) (p q:List Rat) (c d:Nat),q.length<f->aJ p=p->aJ q=q->p≠[]->q.length<p.length->p.length<=M->Cm 1 p c->Cm 1 q d->c<=29*B->d<=29*B->(2*(c+1)+5*(d+1))*jH M p.length<=Z ->
  ∃ R e,jE B f p q=some R/\R≠[]/\aJ R=R/\dA p q R/\R.length<=M/\Cm 1 R e/\e<=29*B/\2*(e+1)*jH M R.length<=Z:=by
 intro f
 induction f with
 | zero=>intro p q c d h; omega
 | succ f ih =>
  intro p q c d hf tp tq hp0 hlt hpM hpc hqd hcB hdB hX;rw[jE];by_cases hq:0<q.length
  ·rw[if_pos hq];have hq0:q≠[]:=List.length_pos_iff.1 hq;obtain⟨g,hg⟩:∃ g,p.length=q.length+g:=⟨p.length-q.length,by omega⟩
   have hsteps:p.length+1-q.length=g+1:=by omega
   rw[hg] at hX;have hW:=aI3 (by omega) (by omega) hX;have hbd:=aCp hq (by omega) (Nat.le_trans (Nat.mul_le_mul_right _ (show 5*(c+(g+1)*(d+1)+1)<=_ by omega)) hW) hZ;have hE:c+(p.length+1-q.length)*(d+1)<=29*B:=by
    rw[hsteps];omega
   obtain⟨r,k1,k2,k3,_,k5,a,u,k6,k7⟩:=aDl hB hq (eC tq hq0) hqd (p.length+2) p c (by omega) tp hpc hE;rw[hsteps] at k5;obtain⟨s,s1,s2,s3,s4,b,s5,s6⟩:=zC hB k2 (nE k5) (by omega);obtain⟨R,e,r1,r2,r3,r4,r5,r6,r7⟩:=ih q s d (c+(g+1)*(d+1)) (by omega) tq s2 hq0 (by omega) (by omega) hqd s4 hdB (by omega) hW;refine⟨R,e,?_,r2,r3,(r4.right s5 s6).step k6 k7,r5,r6,r7⟩;rw[k1];show (jU B r).bind _=_;rw[s1];show (if s.length<q.length then jE B f q s else none)=_;rw[if_pos (by omega),r1]
  ·rw[if_neg hq];obtain rfl:=List.eq_nil_of_length_eq_zero (show q.length=0 by omega);exact⟨p,c,rfl,hp0,tp,aUw p,hpM,hpc,hcB,Nat.le_trans (Nat.mul_le_mul_right _ (by omega)) hX⟩
theorem rB {p:List Rat} (hp:aJ p=p) (h0:p≠[]):aJ (cL p)=cL p/\(cL p).length=p.length/\aK (cL p)=1/\∃ a:Rat,a≠0/\∀ x,ev (cL p) x=a*ev p x:=by
 have hl:=eC hp h0;have hi:=Rat.mul_inv_cancel _ hl;have e:(1:Rat)/aK p=(aK p)⁻¹:=by rw[Rat.div_def,Rat.one_mul]
 have ha:(1:Rat)/aK p≠0:=by
  rw[e];intro h;rw[h] at hi;grind
 obtain⟨h1,h2⟩:=kI hp ha;exact⟨cC _,h1,by rw[cL,h2,e,hi],_,ha,fun x=>by rw[cL,bH,Rat.mul_comm]⟩
def vC (p q:List Rat) (c d:Nat):Nat:=if q.length<p.length then 2*(c+1)+5*(d+1) else 5*(c+1)+7*(d+1)
theorem aIf {B M Q:Nat} {p q:List Rat} {c d:Nat} (hB:1<=B) (tp:aJ p=p) (tq:aJ q=q) (h0:p≠[]\/q≠[]) (hpM:p.length<=M) (hqM:q.length<=M) (hc:Cb p c) (hd:Cb q d) (hcB:c<=29*B) (hdB:d<=29*B) (hQ:vC p q c d<=Q) (hZ:Q*5^M<=5*5*2^(M-1)*(29*B)) :
  ∃ G e,vB B p q=some G/\G≠[]/\aJ G=G/\aK G=1/\dA p q G/\G.length<=M/\Cb G e/\2*(e+1)*jH M G.length<=Q*5^M:=by
 have hM1:1<=M:=by
  rcases h0 with h | h
  ·have:=List.length_pos_iff.2 h; omega
  ·have:=List.length_pos_iff.2 h; omega
 have hQB:Q<=5*(29*B):=aCp (M:=M) (n:=M) hM1 (Nat.le_refl _) (by unfold jH; rw[Nat.sub_self,Nat.pow_zero,Nat.mul_one]; exact Nat.le_refl _) hZ;have hle:∀ {n A:Nat},n<=M->A<=Q->A*jH M n<=Q*5^M:=fun hn hA=>Nat.mul_le_mul hA (aL7 hn);obtain⟨p1,a1,a2,a3,a4,a,a5,a6⟩:=zC hB tp hc hcB;obtain⟨q1,b1,b2,b3,b4,b,b5,b6⟩:=zC hB tq hd hdB;have chain:∃ R e,jE B (p.length+q.length+3) p1 q1=some R/\R≠[]/\aJ R=R/\dA p1 q1 R/\R.length<=M/\Cm 1 R e/\e<=29*B/\2*(e+1)*jH M R.length<=Q*5^M:=by
  unfold vC at hQ;rcases Nat.lt_or_ge q.length p.length with hlt | hge
  ·rw[if_pos hlt] at hQ;exact aIg hB hZ _ p1 q1 c d (by omega) a2 b2 (fun e=>by rw[e,List.length_nil] at a3; omega) (by omega) (by omega) a4 b4 hcB hdB (hle (by omega) hQ)
  ·rw[if_neg (by omega)] at hQ;have hq0:q1≠[]:=by
    intro e;rw[e,List.length_nil] at b3;rcases h0 with h | h
    ·exact h (List.eq_nil_of_length_eq_zero (by omega))
    ·exact h (List.eq_nil_of_length_eq_zero (by omega))
   have hql:=List.length_pos_iff.2 hq0;rw[show p.length+q.length+3=(p.length+q.length+2)+1 by omega,jE,if_pos hql];have hs:(p1.length+1-q1.length)*(d+1)<=d+1:=by
    rcases Nat.lt_or_ge p1.length q1.length with h | h
    ·rw[show p1.length+1-q1.length=0 by omega,Nat.zero_mul]; omega
    ·rw[show p1.length+1-q1.length=1 by omega,Nat.one_mul]; omega
   obtain⟨r,k1,k2,k3,_,k5,a',u,k6,k7⟩:=aDl hB hql (eC b2 hq0) b4 (p1.length+2) p1 c (by omega) a2 a4 (by omega);obtain⟨s,s1,s2,s3,s4,b',s5,s6⟩:=zC hB k2 (nE (k5.mono (e:=c+d+1) (by omega))) (by omega);obtain⟨R,e,r1,r2,r3,r4,r5,r6,r7⟩:=aIg hB hZ (p.length+q.length+2) q1 s d (c+d+1) (by omega) b2 s2 hq0 (by omega) (by omega) b4 s4 hdB (by omega) (hle (by omega) (by omega));refine⟨R,e,?_,r2,r3,(r4.right s5 s6).step k6 k7,r5,r6,r7⟩;rw[k1];show (jU B r).bind _=_;rw[s1];show (if s.length<q1.length then jE B _ q1 s else none)=_;rw[if_pos (by omega),r1]
 obtain⟨R,e,r1,r2,r3,r4,r5,r6,he,r7⟩:=chain;obtain⟨m1,m2,m3,m,m4,m5⟩:=rB r3 r2;have hcb:=(nE r6).monic (eC r3 r2);refine⟨cL R,e,?_,fun h=>by rw[h,List.length_nil] at m2; exact r2 (List.eq_nil_of_length_eq_zero m2.symm),m1,m3,((r4.left a5 a6).right b5 b6).res m4 m5,by omega,hcb,by rw[m2]; exact r7⟩;unfold vB;rw[a1];show (jU B q).bind _=_;rw[b1];show (jE B _ p1 q1).bind _=_;rw[r1];show (if aD (cL R) B=true then some (cL R) else none)=_;rw[if_pos (hcb.sz hB he)]
/-! The reference's Gcd: the same chain with monic polynomials. -/
def aNh (B:Nat):Nat->List Rat->List Rat->Option (List Rat)
 | 0,_,_=>none
 | n+1,a,b=>if 0<b.length then (dX B a b).bind fun x=>if (aD (cL x.2) B&&decide (x.2.length<b.length))=true then aNh B n b (cL x.2) else none else some a
def aNg (B:Nat) (p q:List Rat):Option (List Rat):=if (aD (cL p) B&&aD (cL q) B)=true then aNh B (p.length+q.length+3) (cL p) (cL q) else none
/-! Divisors of a polynomial have short numbers: at whole numbers beyond the zeros a divisor is no greater than the polynomial,and its values there tell its coefficients. -/
def Zl (l:List Rat):Prop:=∀ k,∃ z:Int,l.getD k 0=(z:Rat)
def Dd (d:Int) (l:List Rat):Prop:=∀ k,∃ z:Int,l.getD k 0=((d*z:Int):Rat)
theorem aRx:∀ m:Nat,1<m->∃ p,1<p/\p ∣ m/\∀ d,d ∣ p->d=1\/d=p:=by
 intro m
 induction m using Nat.strongRecOn with
 | ind m ih =>
  intro h;by_cases hd:∃ d,1<d/\d<m/\d ∣ m
  ·obtain⟨d,h1,h2,h3⟩:=hd;obtain⟨p,p1,p2,p3⟩:=ih d h2 h1;exact⟨p,p1,Nat.dvd_trans p2 h3,p3⟩
  ·refine⟨m,h,Nat.dvd_refl m,fun d h1=>?_⟩;have hle:=Nat.le_of_dvd (by omega) h1;have h0:d≠0:=by
    rintro rfl;have:=Nat.eq_zero_of_zero_dvd h1;omega
   rcases Nat.lt_or_ge 1 d with h2 | h2
   ·rcases Nat.lt_or_ge d m with h3 | h3
    ·exact absurd ⟨d,h2,h3,h1⟩ hd
    ·exact .inr (by omega)
   ·exact .inl (by omega)
theorem aRl {p:Nat} (hp:∀ d,d ∣ p->d=1\/d=p) {a b:Int} (h:(p:Int) ∣ a*b):(p:Int) ∣ a\/(p:Int) ∣ b:=by
 have h':p ∣ a.natAbs*b.natAbs:=by rw[<- Int.natAbs_mul]; exact Int.ofNat_dvd_left.1 h
 rcases hp (Nat.gcd p a.natAbs) (Nat.gcd_dvd_left _ _) with h1 | h1
 ·exact .inr (Int.ofNat_dvd_left.2 (Nat.Coprime.dvd_of_dvd_mul_left h1 h'))
 ·exact .inl (Int.ofNat_dvd_left.2 (by rw[<- h1]; exact Nat.gcd_dvd_right _ _))
theorem aLv (p q:List Rat) (k:Nat):fQ p q k=fQ q p k:=by
 rw[<- zO,<- zO];exact uL (fun x=>by rw[bZ,bZ,Rat.mul_comm]) k
theorem Zl.tail {a:Rat} {l:List Rat} (h:Zl (a::l)):Zl l:=fun k=>h (k+1)
theorem Dd.cons {d:Int} {a:Rat} {l:List Rat} (h0:∃ z:Int,a=((d*z:Int):Rat)) (h:Dd d l):Dd d (a::l):=fun k=>by
 cases k with
 | zero=>exact h0
 | succ k=>exact h k
theorem Dd.nil (d:Int):Dd d []:=fun k=>⟨0,by rw[dI (Nat.zero_le _),Int.mul_zero]; rfl⟩
theorem aXx {p:Nat} (hp:∀ d,d ∣ p->d=1\/d=p):∀ (n:Nat) (g h:List Rat),g.length+h.length<=n->Zl g->Zl h->(∀ k,∃ z:Int,fQ g h k=(((p:Int)*z:Int):Rat))->Dd p g\/Dd p h:=by
 intro n
 induction n with
 | zero =>
  intro g h hn _ _ _;obtain rfl:=List.eq_nil_of_length_eq_zero (show g.length=0 by omega);exact .inl (Dd.nil p)
 | succ n ih =>
  have cut:∀ (a:Rat) (g h:List Rat),Zl (a::g)->Zl h->(∀ k,∃ z:Int,fQ (a::g) h k=(((p:Int)*z:Int):Rat))->(∃ z:Int,a=(((p:Int)*z:Int):Rat))->∀ k,∃ z:Int,fQ g h k=(((p:Int)*z:Int):Rat):=by
   rintro a g h hg hh hc ⟨y,hy⟩ k;obtain⟨z,hz⟩:=hc (k+1);rw[aEq,if_neg (by omega),Nat.add_sub_cancel] at hz;obtain⟨u,hu⟩:=hh (k+1);refine⟨z-u*y,?_⟩;rw[hu,hy] at hz;rw[Int.mul_sub,Rat.intCast_sub,<- hz,Rat.intCast_mul,Rat.intCast_mul,Rat.intCast_mul];grind
  intro g h hn hg hh hc
  match g,h with
  | [],_=>exact .inl (Dd.nil p)
  | _::_,[]=>exact .inr (Dd.nil p)
  | a::g,b::h =>
   obtain⟨a',ha⟩:=hg 0;obtain⟨b',hb⟩:=hh 0;have ha':a=(a':Rat):=ha;have hb':b=(b':Rat):=hb;simp only[List.length_cons] at hn;have h0:(p:Int) ∣ a'*b':=by
    obtain⟨z,hz⟩:=hc 0;rw[aEq,if_pos rfl] at hz;have e:((a'*b':Int):Rat)=(((p:Int)*z:Int):Rat):=by
     rw[<- hz,Rat.intCast_mul,<- ha',<- hb'];show _=b*a+0;grind
    exact⟨z,Rat.intCast_inj.1 e⟩
   rcases aRl hp h0 with ⟨y,hy⟩ | ⟨y,hy⟩
   ·have hd:∃ z:Int,a=(((p:Int)*z:Int):Rat):=⟨y,by rw[ha',hy]⟩
    rcases ih g (b::h) (by simp only[List.length_cons]; omega) hg.tail hh (cut a g (b::h) hg hh hc hd) with q | q
    ·exact .inl (q.cons hd)
    ·exact .inr q
   ·have hd:∃ z:Int,b=(((p:Int)*z:Int):Rat):=⟨y,by rw[hb',hy]⟩
    have hc':=cut b h (a::g) hh hg (fun k=>by rw[aLv]; exact hc k) hd;rcases ih (a::g) h (by simp only[List.length_cons]; omega) hg hh.tail (fun k=>by rw[aLv]; exact hc' k) with q | q
    ·exact .inl q
    ·exact .inr (q.cons hd)
def aFv (g:List Rat):Prop:=Zl g/\∀ d:Nat,1<d->¬ Dd d g
theorem aPp {P G H:List Rat} (hP:Zl P) (hG:aFv G) (h:∀ x,ev P x=ev G x*ev H x):∀ m:Nat,0<m->(∀ k,∃ z:Int,H.getD k 0*((m:Nat):Rat)=(z:Rat))->Zl H:=by
 intro m
 induction m using Nat.strongRecOn with
 | ind m ih =>
  intro hm hH;by_cases h1:m=1
  ·subst h1;intro k;obtain⟨z,hz⟩:=hH k;exact⟨z,by rw[<- hz]; show _=_*(1:Rat); grind⟩
  ·obtain⟨p,p1,⟨m',p2⟩,p3⟩:=aRx m (by omega);have hm':0<m':=by
    rcases Nat.eq_zero_or_pos m' with q | q
    ·subst q; omega
    ·exact q
   have hp0:((p:Nat):Rat)≠0:=fun e=>by
    have:(((p:Int)):Rat)=((0:Int):Rat):=by rw[Rat.intCast_natCast]; exact e
    have:=Rat.intCast_inj.1 this;omega
   have hmm:((m:Nat):Rat)=((p:Nat):Rat)*((m':Nat):Rat):=by rw[p2,Rat.natCast_mul]
   have hS:Zl (aI H ((m:Nat):Rat)):=fun k=>by rw[jL]; exact hH k
   have hcv:∀ k,∃ z:Int,fQ G (aI H ((m:Nat):Rat)) k=(((p:Int)*z:Int):Rat):=fun k=>by
    obtain⟨z,hz⟩:=hP k;refine⟨m'*z,?_⟩;have e:fQ G (aI H ((m:Nat):Rat)) k=(aI P ((m:Nat):Rat)).getD k 0:=by
     rw[<- zO];exact uL (fun x=>by rw[bZ,bH,bH,h]; grind) k
    rw[e,jL,hz,hmm,Rat.intCast_mul,Rat.intCast_mul,Rat.intCast_natCast,Rat.intCast_natCast];grind
   rcases aXx p3 _ G (aI H ((m:Nat):Rat)) (Nat.le_refl _) hG.1 hS hcv with q | q
   ·exact absurd q (hG.2 p p1)
   ·have hlt:m'<m:=by
     rw[p2];have:=Nat.mul_le_mul_right m' p1;omega
    refine ih m' hlt hm' fun k=>?_;obtain⟨z,hz⟩:=q k;rw[jL,hmm,Rat.intCast_mul,Rat.intCast_natCast] at hz;refine⟨z,?_⟩;have hi:=Rat.mul_inv_cancel _ hp0;grind
theorem aEr:∀ l:List Rat,∃ m:Nat,0<m/\∀ k,∃ z:Int,l.getD k 0*((m:Nat):Rat)=(z:Rat)
 | []=>⟨1,Nat.one_pos,fun k=>⟨0,by rw[dI (Nat.zero_le _),Rat.zero_mul]; rfl⟩⟩
 | a::l=>by
  obtain⟨m,h1,h2⟩:=aEr l;refine⟨a.den*m,Nat.mul_pos (Nat.pos_of_ne_zero a.den_nz) h1,fun k=>?_⟩;cases k with
  | zero =>
   refine⟨a.num*m,?_⟩;show a*_=_;rw[Rat.natCast_mul,Rat.intCast_mul,<- xC a,Rat.intCast_natCast];grind
  | succ k =>
   obtain⟨z,hz⟩:=h2 k;refine⟨a.den*z,?_⟩;show l.getD k 0*_=_;rw[Rat.natCast_mul,Rat.intCast_mul,<- hz,Rat.intCast_natCast];grind
theorem aXh {d:Nat} (hd:0<d) {g:List Rat} (h:Dd d g):Zl (aI g (1/((d:Nat):Rat))):=fun k=>by
 obtain⟨z,hz⟩:=h k;refine⟨z,?_⟩;have hd0:((d:Nat):Rat)≠0:=fun e=>by
  have:(((d:Int)):Rat)=((0:Int):Rat):=by rw[Rat.intCast_natCast]; exact e
  have:=Rat.intCast_inj.1 this;omega
 have hi:=Rat.mul_inv_cancel _ hd0;rw[jL,hz,Rat.div_def,Rat.one_mul,Rat.intCast_mul,Rat.intCast_natCast];grind
theorem aTj:∀ (n:Nat) (g:List Rat),aJ g=g->g≠[]->Zl g->(∀ z:Int,aK g=(z:Rat)->z.natAbs<=n)->∃ (r:List Rat) (c:Rat),c≠0/\aJ r=r/\r.length=g.length/\aFv r/\∀ x,ev r x=c*ev g x:=by
 intro n
 induction n with
 | zero =>
  intro g tg hg0 hz hl;obtain⟨z,hz'⟩:=hz (g.length-1);have:=hl z hz';exact absurd (show aK g=0 by show g.getD _ 0=0; rw[hz',show z=0 by omega]; rfl) (eC tg hg0)
 | succ n ih =>
  intro g tg hg0 hz hl;by_cases hd:∃ d:Nat,1<d/\Dd d g
  ·obtain⟨d,d1,d2⟩:=hd;have hd0:((d:Nat):Rat)≠0:=fun e=>by
    have:(((d:Int)):Rat)=((0:Int):Rat):=by rw[Rat.intCast_natCast]; exact e
    have:=Rat.intCast_inj.1 this;omega
   have hi:=Rat.mul_inv_cancel _ hd0;have e1:(1:Rat)/((d:Nat):Rat)=((d:Nat):Rat)⁻¹:=by rw[Rat.div_def,Rat.one_mul]
   have hc:(1:Rat)/((d:Nat):Rat)≠0:=by
    rw[e1];intro e;rw[e] at hi;grind
   obtain⟨s1,s2⟩:=kI tg hc;obtain⟨r,c,r1,r2,r3,r4,r5⟩:=ih (aI g (1/((d:Nat):Rat))) (cC _) (fun e=>by
    rw[e] at s1;exact hg0 (List.eq_nil_of_length_eq_zero s1.symm)) (aXh (by omega) d2) (fun z hz2=>by
     obtain⟨y,hy⟩:=d2 (g.length-1);have hy':aK g=(((d:Int)*y:Int):Rat):=hy;have hb:=hl _ hy';rw[s2,hy',e1,Rat.intCast_mul,Rat.intCast_natCast] at hz2;have e2:(y:Rat)=(z:Rat):=by rw[<- hz2]; grind
     obtain rfl:=Rat.intCast_inj.1 e2;rw[Int.natAbs_mul,Int.natAbs_natCast] at hb;have hy0:y.natAbs≠0:=fun e=>eC tg hg0 (by rw[hy',show y=0 by omega,Int.mul_zero]; rfl);have:=Nat.mul_le_mul_right y.natAbs d1;omega)
   exact⟨r,c*(1/((d:Nat):Rat)),fun e=>(Rat.mul_eq_zero.1 e).elim r1 hc,r2,by rw[r3,s1],r4,fun x=>by rw[r5,bH]; grind⟩
  ·exact⟨g,1,by decide,tg,rfl,⟨hz,fun d d1 d2=>hd ⟨d,d1,d2⟩⟩,fun x=>by rw[Rat.one_mul]⟩
theorem aVk {g:List Rat} (tg:aJ g=g) (hg0:g≠[]):∃ (r:List Rat) (c:Rat),c≠0/\aJ r=r/\r.length=g.length/\aFv r/\∀ x,ev r x=c*ev g x:=by
 obtain⟨m,m1,m2⟩:=aEr g;have hm0:((m:Nat):Rat)≠0:=fun e=>by
  have:(((m:Int)):Rat)=((0:Int):Rat):=by rw[Rat.intCast_natCast]; exact e
  have:=Rat.intCast_inj.1 this;omega
 obtain⟨s1,s2⟩:=kI tg hm0;have hz:Zl (aI g ((m:Nat):Rat)):=fun k=>by rw[jL]; exact m2 k
 obtain⟨z,hz2⟩:=hz ((aI g ((m:Nat):Rat)).length-1);obtain⟨r,c,r1,r2,r3,r4,r5⟩:=aTj z.natAbs (aI g ((m:Nat):Rat)) (cC _) (fun e=>by
  rw[e] at s1;exact hg0 (List.eq_nil_of_length_eq_zero s1.symm)) hz (fun y hy=>by
   have e:(y:Rat)=(z:Rat):=by rw[<- hy]; exact hz2
   rw[Rat.intCast_inj.1 e];exact Nat.le_refl _)
 exact⟨r,c*((m:Nat):Rat),fun e=>(Rat.mul_eq_zero.1 e).elim r1 hm0,r2,by rw[r3,s1],r4,fun x=>by rw[r5,bH]; grind⟩
/-! Whole numbers as they are. -/
def eJ:List Int->Int->Int
 | [],_=>0
 | a::l,x=>a+x*eJ l x
def sO (L:List Int):List Rat:=L.map fun z:Int=>(z:Rat)
theorem aFm {l:List Rat} (h:Zl l):∃ L:List Int,l=sO L:=by
 induction l with
 | nil=>exact⟨[],rfl⟩
 | cons a l ih =>
  obtain⟨L,hL⟩:=ih h.tail;obtain⟨z,hz⟩:=h 0;exact⟨z::L,by rw[hL,show a=(z:Rat) from hz]; rfl⟩
theorem aAx (x:Int):∀ L:List Int,ev (sO L) (x:Rat)=(eJ L x:Rat)
 | []=>rfl
 | a::L=>by
  show (a:Rat)+(x:Rat)*ev (sO L) x=_;rw[aAx x L,eJ,Rat.intCast_add,Rat.intCast_mul]
theorem aD6 (L:List Int) (k:Nat):(sO L).getD k 0=(L.getD k 0:Rat):=by
 unfold sO;rw[List.getD_eq_getElem?_getD,List.getD_eq_getElem?_getD,List.getElem?_map];cases L[k]?<;>rfl
theorem aLn {c:Nat} {x:Int} (hx:2^c+1<=x):∀ (L:List Int),(∀ k,(L.getD k 0).natAbs<=2^c)->L≠[]->L.getD (L.length-1) 0≠0->1<=(eJ L x).natAbs
 | [],_,h,_=>absurd rfl h
 | [a],_,_,h=>by
  have h':a≠0:=h;show 1<=(a+x*0).natAbs;omega
 | a::b::L,hb,_,hl=>by
  have ih:=aLn hx (b::L) (fun k=>hb (k+1)) (by simp) (by simpa using hl);have ha:a.natAbs<=2^c:=hb 0;rw[eJ];have h1:(x*eJ (b::L) x).natAbs=x.natAbs*(eJ (b::L) x).natAbs:=Int.natAbs_mul _ _;have h2:=Nat.le_mul_of_pos_right x.natAbs (show 0<(eJ (b::L) x).natAbs by omega);have h3:(2:Int)^c=((2^c:Nat):Int):=by simp
  rw[h3] at hx;generalize 2^c=y at *;omega
theorem aJ4 {c s:Nat} {x:Int} (hx:x.natAbs<=2^s):∀ (L:List Int),(∀ k,(L.getD k 0).natAbs<=2^c)->(eJ L x).natAbs<=2^(c+L.length*(s+1))
 | [],_=>Nat.zero_le _
 | a::L,hb=>by
  have ih:=aJ4 hx L (fun k=>hb (k+1));have ha:a.natAbs<=2^c:=hb 0;rw[eJ];refine Nat.le_trans (aWi (c:=c+L.length*(s+1)+s) (Nat.le_trans ha (eO (by omega))) (Nat.le_trans (fW hx ih) (eO (by omega)))) (eO ?_);rw[List.length_cons,Nat.succ_mul];omega
def gP (s:Int):Int->List Int->Int × List Int
 | a,[]=>(a,[])
 | a,b::l=>(a+s*(gP s b l).1,(gP s b l).1::(gP s b l).2)
theorem aK1 (s:Int):∀ (l:List Int) (a:Int),(gP s a l).2.length=l.length
 | [],_=>rfl
 | b::l,_=>by rw[gP,List.length_cons,aK1 s l b,List.length_cons]
theorem aMe (s x:Int):∀ (l:List Int) (a:Int),a+x*eJ l x=(gP s a l).1+(x-s)*eJ (gP s a l).2 x
 | [],a=>by show a+x*0=a+(x-s)*0; grind
 | b::l,a=>by
  have ih:=aMe s x l b;rw[gP,eJ,eJ];show a+x*(b+x*eJ l x)=a+s*(gP s b l).1+(x-s)*((gP s b l).1+x*eJ (gP s b l).2 x);rw[ih];grind
theorem aK2 (s:Int):∀ (l:List Int) (a:Int),a=(gP s a l).1-s*(gP s a l).2.getD 0 0/\∀ k,l.getD k 0=(gP s a l).2.getD k 0-s*(gP s a l).2.getD (k+1) 0
 | [],a=>⟨by show a=a-s*0; grind,fun k=>by show (0:Int)=0-s*0; grind⟩
 | b::l,a=>by
  obtain⟨h1,h2⟩:=aK2 s l b;rw[gP];refine⟨?_,fun k=>?_⟩
  ·show a=a+s*(gP s b l).1-s*(gP s b l).1;grind
  ·cases k with
   | zero=>exact h1
   | succ k=>exact h2 k
theorem aMl:∀ (n:Nat) (L:List Int) (s:Int) (v t:Nat),L.length<=n->(∀ j:Nat,j<n->(eJ L (s+j)).natAbs<=2^v)->s.natAbs+n<=2^t->∀ k,(L.getD k 0).natAbs<=2^(v+n*(t+2))
 | 0,L,s,v,t,hL,_,_,k=>by
  obtain rfl:=List.eq_nil_of_length_eq_zero (show L.length=0 by omega);exact Nat.zero_le _
 | n+1,[],_,_,_,_,_,_,k=>Nat.zero_le _
 | n+1,a::L,s,v,t,hL,hv,ht,k=>by
  rw[List.length_cons] at hL;obtain⟨g1,g2⟩:=aK2 s L a;have hev:=fun x=>aMe s x L a;have hl:=aK1 s L a;generalize (gP s a L).1=c at *;generalize (gP s a L).2=L' at *;have hc:c.natAbs<=2^v:=by
   have h0:=hv 0 (by omega);have e:=hev s;rw[show s-s=0 by omega,Int.zero_mul,Int.add_zero] at e;rw[show s+((0:Nat):Int)=s by omega,eJ,e] at h0;exact h0
  have ih:=aMl n L' (s+1) (v+1) t (by omega) (fun j hj=>by
   have h1:=hv (j+1) (by omega);rw[show s+((j+1:Nat):Int)=s+1+j by omega,eJ,hev] at h1;have h2:((s+1+j-s)*eJ L' (s+1+j)).natAbs=(s+1+j-s).natAbs*(eJ L' (s+1+j)).natAbs:=Int.natAbs_mul _ _;have h3:=Nat.le_mul_of_pos_left (eJ L' (s+1+j)).natAbs (show 0<(s+1+j-s).natAbs by omega);rw[Nat.pow_succ];omega) (by omega)
  have hs:s.natAbs<=2^t:=by omega
  have hsum:∀ {y z:Int} {w:Nat},y.natAbs<=2^w->z.natAbs<=2^w->(y-s*z).natAbs<=2^(w+t+1):=fun hy hz=>by
   refine aEu (Nat.le_trans hy (eO (by omega))) ?_;rw[Nat.add_comm];exact fW hs hz
  have hexp:v+1+n*(t+2)+t+1=v+(n+1)*(t+2):=by rw[Nat.succ_mul]; omega
  rw[<- hexp];cases k with
  | zero =>
   show a.natAbs<=_;rw[g1];exact hsum (Nat.le_trans hc (eO (by omega))) (ih 0)
  | succ k =>
   show (L.getD k 0).natAbs<=_;rw[g2];exact hsum (ih k) (ih (k+1))
def xW (c n:Nat):Nat:=c+n*(c+3)+n*(c+4)
theorem Cm.whole {m:Int} {p:List Rat} {c:Nat} (h:Cm m p c):Zl (aI p (m:Rat)):=fun k=>by
 obtain⟨z,z1,_⟩:=h k;exact⟨z,by rw[jL,z1]⟩
theorem aDv {P G:List Rat} {c n:Nat} (tP:aJ P=P) (hP0:P≠[]) (hc:Cb P c) (hn:P.length<=n) (hn2:n<=2^c) (tG:aJ G=G) (h:Dv G P):Cb (cL G) (xW c n):=by
 obtain⟨hG0,hGl,_⟩:=mK tG tP hP0 h;obtain⟨m,m1,_,m3⟩:=hc;obtain⟨u,hu⟩:=h;have hm0:=nA m1;obtain⟨s1,s2⟩:=kI tP hm0;obtain⟨r,a,a1,r1,r2,r3,r4⟩:=aVk tG hG0;have hai:=Rat.inv_mul_cancel a a1;have hPz:=m3.whole;have hq:∀ x,ev (aI P (m:Rat)) x=ev r x*ev (aI u (a⁻¹*(m:Rat))) x:=fun x=>by
  rw[bH,bH,r4,hu];grind
 obtain⟨d,d1,d2⟩:=aEr (aI u (a⁻¹*(m:Rat)));have hHz:=aPp hPz r3 hq d d1 d2;obtain⟨LP,eP⟩:=aFm hPz;obtain⟨LG,eG⟩:=aFm r3.1;obtain⟨LH,eH⟩:=aFm hHz;have hmul:∀ x:Int,eJ LP x=eJ LG x*eJ LH x:=fun x=>by
  have:=hq (x:Rat);rw[eP,eG,eH,aAx,aAx,aAx,<- Rat.intCast_mul] at this;exact Rat.intCast_inj.1 this
 have hPb:∀ k,(LP.getD k 0).natAbs<=2^c:=fun k=>by
  obtain⟨z,z1,z2⟩:=m3 k;have e:((LP.getD k 0:Int):Rat)=(z:Rat):=by rw[<- aD6,<- eP,jL,z1]
  rw[Rat.intCast_inj.1 e];exact z2
 have hLPl:LP.length=P.length:=by
  have:=congrArg List.length eP;rw[s1] at this;rw[this];simp[sO]
 have hP0':LP≠[]:=fun e=>by
  rw[e,List.length_nil] at hLPl;exact hP0 (List.eq_nil_of_length_eq_zero hLPl.symm)
 have hPl:LP.getD (LP.length-1) 0≠0:=fun e=>by
  have h1:aK (aI P (m:Rat))=0:=by
   unfold aK;rw[s1,eP,aD6,<- hLPl,e];rfl
  rw[s2] at h1;exact(Rat.mul_eq_zero.1 h1).elim (eC tP hP0) hm0
 have hLGl:LG.length=r.length:=by rw[eG]; simp[sO]
 have hval:∀ j:Nat,j<n->(eJ LG ((2^(c+1):Nat)+(j:Int))).natAbs<=2^(c+n*(c+3)):=fun j hj=>by
  have hlo:1<=(eJ LP ((2^(c+1):Nat)+(j:Int))).natAbs:=aLn (c:=c) (by
   have e:(2:Int)^c=((2^c:Nat):Int):=by simp
   rw[e,Nat.pow_succ];have:=Nat.one_le_two_pow (n:=c);omega) LP hPb hP0' hPl
  have hhi:=aJ4 (c:=c) (s:=c+2) (x:=(2^(c+1):Nat)+(j:Int)) (by
   rw[Nat.pow_succ 2 (c+1),Nat.pow_succ];omega) LP hPb
  rw[hmul,Int.natAbs_mul] at hlo hhi;have h0:0<(eJ LH ((2^(c+1):Nat)+(j:Int))).natAbs:=Nat.pos_of_ne_zero fun e=>by rw[e,Nat.mul_zero] at hlo; omega
  refine Nat.le_trans (Nat.le_trans (Nat.le_mul_of_pos_right _ h0) hhi) (eO ?_);exact Nat.add_le_add_left (Nat.mul_le_mul_right (c+3) (show LP.length<=n by omega)) c
 have hcoef:=aMl n LG ((2^(c+1):Nat):Int) (c+n*(c+3)) (c+2) (by omega) hval (by
  rw[Int.natAbs_natCast,Nat.pow_succ 2 (c+1),Nat.pow_succ];omega)
 have hr0:r≠[]:=fun e=>by
  rw[e] at r2;exact hG0 (List.eq_nil_of_length_eq_zero r2.symm)
 have hCr:Cm 1 r (xW c n):=fun k=>⟨LG.getD k 0,by rw[lE,eG,aD6],hcoef k⟩
 have hmr:=(nE hCr).monic (eC r1 hr0);obtain⟨x1,x2,x3,b,b1,b2⟩:=rB r1 hr0;obtain⟨y1,y2,y3,b',b3,b4⟩:=rB tG hG0;have hab:∃ e:Rat,∀ x,ev (cL G) x=e*ev (cL r) x:=by
  have hbi:=Rat.inv_mul_cancel b b1;exact⟨b'*a⁻¹*b⁻¹,fun x=>by rw[b2,b4,r4]; grind⟩
 obtain⟨e,he⟩:=hab;have hco:=uL (p:=cL G) (q:=aI (cL r) e) fun x=>by rw[bH,he,Rat.mul_comm]
 have he1:e=1:=by
  have h1:=hco (G.length-1);rw[jL] at h1;have h2:aK (cL G)=(cL G).getD (G.length-1) 0:=by unfold aK; rw[y2]
  have h3:aK (cL r)=(cL r).getD (G.length-1) 0:=by unfold aK; rw[x2,r2]
  rw[<- h2,<- h3,x3,y3] at h1;grind
 refine hmr.ext fun k=>?_;rw[hco,jL,he1,Rat.mul_one]
/-! Exact division,quotients without a common divisor,polynomials without double zeros. -/
theorem xL {a b g:List Rat} (hg:aJ g≠[]) (h:∀ x,ev a x*ev g x=ev b x*ev g x):∀ x,ev a x=ev b x:=by
 have h0:aJ (fC a b)=[]:=by
  by_cases q:aJ (fC a b)=[]
  ·exact q
  ·obtain⟨m1,_⟩:=qF (p:=aJ (fC a b)) (q:=aJ g) (cC _) (cC _) q hg;have h1:aJ (aT (aJ (fC a b)) (aJ g))=[]:=pN fun x=>by
    have:=h x;rw[bZ,jQ,jQ,jR];grind
   rw[aJw] at h1;rw[h1,List.length_nil] at m1;have:=List.length_pos_iff.2 q;have:=List.length_pos_iff.2 hg;omega
 intro x;have h2:=jQ (fC a b) x;rw[h0,jR,ev] at h2;grind
theorem aQg {u g U R:List Rat} (tg:aJ g=g) (tR:aJ R=R) (hd:Dv g u) (h:∀ x,ev u x=ev U x*ev g x+ev R x) (hl:R.length<g.length):R=[]:=by
 obtain⟨w,hw⟩:=hd;by_cases h0:R=[]
 ·exact h0
 ·have:=(mK tg tR h0 ⟨fC w U,fun x=>by rw[jR]; have h1:=h x; have h2:=hw x; grind⟩).2.1;omega
theorem aIk {u g U:List Rat} (tu:aJ u=u) (h:∀ x,ev u x=ev U x*ev g x):aT U g=u:=iD (cC _) tu fun x=>by rw[bZ,h]
theorem aQb {u v:List Rat} {c:Rat} (tu:aJ u=u) (tv:aJ v=v) (hu:u≠[]) (hc:c≠0) (h:∀ x,ev u x=c*ev v x):cL u=cL v:=by
 have e:u=aI v c:=iD tu (cC _) fun x=>by rw[bH,h,Rat.mul_comm]
 obtain⟨_,s2⟩:=kI tv hc;have hl:=eC tu hu;rw[e,s2] at hl;have hv:aK v≠0:=fun q=>hl (by rw[q,Rat.zero_mul]);have hi:=Rat.mul_inv_cancel _ hv;have hci:=Rat.mul_inv_cancel _ hc;have hlast:aK u=aK v*c:=by rw[e,s2]
 refine iD (cC _) (cC _) fun x=>?_;rw[cL,cL,bH,bH,h,hlast,Rat.div_def,Rat.div_def,Rat.one_mul,Rat.one_mul];have e2:(aK v*c)⁻¹=(aK v)⁻¹*c⁻¹:=by
  have h3:aK v*c≠0:=fun q=>(Rat.mul_eq_zero.1 q).elim hv hc;have h4:=Rat.mul_inv_cancel _ h3;have h5:(aK v*c)*((aK v)⁻¹*c⁻¹)=1:=by grind
  grind
 rw[e2];grind
/-! No double zeros. -/
def pL (h:List Rat):Nat->List Rat
 | 0=>[1]
 | k+1=>aT (pL h k) h
theorem aAz (h:List Rat) (x:Rat):∀ k,ev h x*bC (pL h k) x=(k:Rat)*ev (pL h k) x*bC h x
 | 0=>by show _*((0:Rat)+x*0)=(0:Rat)*_*_; grind
 | k+1=>by
  have ih:=aAz h x k;have e:bC (pL h (k+1)) x=bC (pL h k) x*ev h x+ev (pL h k) x*bC h x:=mW (bZ (pL h k) h) x;have e2:((k+1:Nat):Rat)=(k:Rat)+1:=by simp
  rw[e,e2,show pL h (k+1)=aT (pL h k) h from rfl,bZ];grind
theorem aNl {p G f h f1 w:List Rat} (hG:dA p (bO p) G) (hp:∀ x,ev p x=ev f x*ev G x) (hf:∀ x,ev f x=ev f1 x*ev h x) (hw:∀ x,bC f x=ev w x*ev h x):∀ k,Dv (pL h k) G
 | 0=>⟨G,fun x=>by show _=_*((1:Rat)+x*0); grind⟩
 | k+1=>by
  obtain⟨Gk,hk⟩:=aNl hG hp hf hw k;obtain⟨_,_,s,t,hb⟩:=hG;have h1:∀ x,bC p x=bC f x*ev G x+ev f x*bC G x:=mW hp;have h2:∀ x,bC G x=bC Gk x*ev (pL h k) x+ev Gk x*bC (pL h k) x:=mW hk;have h3:∀ x,bC f x=bC f1 x*ev h x+ev f1 x*bC h x:=mW hf;have hp2:∀ x,ev p x=ev (pL h (k+1)) x*(ev f1 x*ev Gk x):=fun x=>by
   show _=ev (aT (pL h k) h) x*_;rw[hp,hf,hk,bZ];grind
  have hd2:∀ x,bC p x=ev (pL h (k+1)) x*(ev w x*ev Gk x+(k:Rat)*ev Gk x*(ev w x-bC f1 x)+ev f1 x*bC Gk x):=fun x=>by
   have e4:=aAz h x k;have e5:=h3 x;rw[hw] at e5;show _=ev (aT (pL h k) h) x*_;rw[h1,h2,hw,hf,hk,bZ];have e6:ev f1 x*bC h x=(ev w x-bC f1 x)*ev h x:=by grind
   have e7:ev f1 x*ev h x*(ev Gk x*bC (pL h k) x)=ev Gk x*(k:Rat)*ev (pL h k) x*(ev f1 x*bC h x):=by
    have:ev f1 x*ev h x*(ev Gk x*bC (pL h k) x)=ev f1 x*ev Gk x*(ev h x*bC (pL h k) x):=by grind
    rw[this,e4];grind
   rw[Rat.mul_add (ev f1 x*ev h x),e7,e6];grind
  refine⟨eI (aT s (aT f1 Gk)) (aT t (eI (eI (aT w Gk) (aI (aT Gk (fC w (bO f1))) (k:Rat))) (aT f1 (bO Gk)))),fun x=>?_⟩;rw[hb,fA,hp2,hd2];simp only[fM,bZ,bH,jR,fA];grind
theorem aAt {h:List Rat} (th:aJ h=h) (h2:2<=h.length):∀ k,aJ (pL h k)=pL h k/\k+1<=(pL h k).length
 | 0=>⟨by show aJ [1]=[1]; exact rA (.inr (by show (1:Rat)≠0; decide)),Nat.le_refl _⟩
 | k+1=>by
  obtain⟨h3,h4⟩:=aAt th h2 k;refine⟨cC _,?_⟩;show _<=(aT (pL h k) h).length;have e:=(qF h3 th (fun q=>by rw[q,List.length_nil] at h4; omega) (fun q=>by rw[q,List.length_nil] at h2; omega)).1;omega
theorem aRv {p G f H:List Rat} (hG:dA p (bO p) G) (tG:aJ G=G) (G0:G≠[]) (hp:∀ x,ev p x=ev f x*ev G x) (tH:aJ H=H) (H0:H≠[]) (hH:dA f (bO f) H) (hl:aK H=1):H=[1]:=by
 obtain⟨⟨f1,hf⟩,⟨w,hw⟩,_⟩:=hH;have hw':∀ x,bC f x=ev w x*ev H x:=fun x=>by rw[<- fA,hw]
 rcases Nat.lt_or_ge H.length 2 with h2 | h2
 ·have h1:H.length=1:=by have:=List.length_pos_iff.2 H0; omega
  obtain⟨c,rfl⟩:=List.length_eq_one_iff.1 h1;have:c=1:=hl;rw[this]
 ·obtain⟨t1,t2⟩:=aAt tH h2 G.length;have:=(mK t1 tG G0 (aNl hG hp hf hw' G.length)).2.1;omega
theorem aI7:aJ [(1:Rat)]=[1]:=rA (.inr (by show (1:Rat)≠0; decide))
theorem aQe {p G:List Rat} (hG:dA p (bO p) G):dA (aT p p) (bO (aT p p)) (aT p G):=by
 obtain⟨⟨f,h1⟩,⟨w,h2⟩,s,t,h3⟩:=hG;have hd:∀ x,ev (bO (aT p p)) x=2*ev p x*ev (bO p) x:=fun x=>by
  rw[fA,mW (bZ p p),fA];grind
 refine⟨⟨f,fun x=>by rw[bZ,bZ]; have:=h1 x; grind⟩,⟨aI w 2,fun x=>by rw[hd,bZ,bH,h2]; grind⟩,s,aI t (1/2),fun x=>?_⟩;have e:(1:Rat)/2*2=1:=by decide +kernel
 rw[hd,bZ,bZ,bH,h3];grind
def fP (a:Rat):Rat:=if a<0 then -a else a
theorem aKo {a:Rat} (h:a≠0):0<fP a:=by unfold fP; split<;>grind
theorem aL3 (a:Rat):fP a=a\/fP a = -a:=by
 unfold fP;split
 ·exact .inr rfl
 ·exact .inl rfl
theorem aKp {a:Rat} {m g:Int} (h:a*(m:Rat)=(g:Rat)):∃ y:Int,fP a*(m:Rat)=(y:Rat)/\y.natAbs=g.natAbs:=by
 rcases aL3 a with e | e
 ·exact⟨g,by rw[e,h],rfl⟩
 ·exact⟨-g,by rw[e,Rat.neg_mul,h,Rat.intCast_neg],Int.natAbs_neg g⟩
theorem aI4 (a:Rat):(0:Rat)<wR (a.den:Int):=by
 rw[nB,Rat.intCast_natCast];exact Rat.natCast_pos.2 (Nat.pos_of_ne_zero a.den_nz)
theorem aH1 {B:Nat}:∀ {l:List Rat} {e D:Rat},gF B l e=some D->0<e->0<D
 | [],e,D,h,he=>by
  rw[gF] at h;obtain rfl:=Option.some.inj h;exact he
 | a::l,e,D,h,he=>by
  rw[gF] at h;split at h
  ·refine aH1 h ?_;rw[Rat.div_def];exact Rat.mul_pos he (Rat.inv_pos.2 (aI4 _))
  ·cases h
def gO (B:Nat) (p:List Rat) (t:Rat):Option (List Rat × Rat) :=
 if p=[] then some ([],0) else (gF B p (fP (aK p))).bind fun D=>if (aD [1/D] B&&(aD (aI p (1/D)) B&&aD [t*D] B))=true then some (aI p (1/D),t*D) else none
theorem aEl {a b:Rat} {c d:Nat} (ha:dH a c) (hb:dH b d):dH (a*b) (c+d):=by
 obtain⟨z,m,h1,h2,h3,h4⟩:=ha;obtain⟨y,n,k1,k2,k3,k4⟩:=hb;refine⟨z*y,m*n,Int.mul_ne_zero h1 k1,?_,fW h3 k3,fW h4 k4⟩;rw[Rat.intCast_mul,Rat.intCast_mul,<- h2,<- k2];grind
theorem aEm {a:Rat} {c:Nat} (h0:a≠0) (ha:dH a c):dH a⁻¹ c:=by
 obtain⟨z,m,h1,h2,h3,h4⟩:=ha;have hi:=Rat.mul_inv_cancel a h0;have hz:z≠0:=by
  rintro rfl;have:=nA h1;have h2:a*(m:Rat)=0:=h2;rcases Rat.mul_eq_zero.1 h2 with e | e
  ·exact h0 e
  ·exact this e
 exact⟨m,z,hz,by rw[<- h2]; grind,h4,h3⟩
theorem zT {a:Rat} {c d:Nat} (h:dH a c) (hd:c<=d):dH a d:=by
 obtain⟨z,m,h1,h2,h3,h4⟩:=h;exact⟨z,m,h1,h2,Nat.le_trans h3 (eO hd),Nat.le_trans h4 (eO hd)⟩
theorem aV0 {a:Rat} {c:Nat} (h:dH a c):dH (-a) c:=by
 obtain⟨z,m,h1,h2,h3,h4⟩:=h;exact⟨-z,m,h1,by rw[Rat.neg_mul,h2,Rat.intCast_neg],by rw[Int.natAbs_neg]; exact h3,h4⟩
theorem aLp {a:Rat} {z:Int} {c:Nat} (h:a=(z:Rat)) (hz:z.natAbs<=2^c):dH a c:=⟨z,1,by decide,by rw[lE,h],hz,Nat.one_le_two_pow⟩
theorem aG2 {B:Nat} {δ:Rat}:∀ {l:List Rat} {e D:Rat},gF B l e=some D->e≠0->(∀ a∈l,∃ y:Int,a = δ*(y:Rat))->(∃ y:Int,e = δ*(y:Rat))->∃ y:Int,D = δ*(y:Rat)
 | [],e,D,h,_,_,he=>by
  rw[gF] at h;obtain rfl:=Option.some.inj h;exact he
 | a::l,e,D,h,e0,hl,⟨g,hg⟩=>by
  rw[gF] at h;split at h
  ·obtain⟨z,hz⟩:=hl a List.mem_cons_self;have hi:=Rat.mul_inv_cancel e e0;have hδ : δ≠0:=by
    rintro rfl;rw[Rat.zero_mul] at hg;exact e0 hg
   have hg0:g≠0:=by
    rintro rfl;exact e0 (by rw[hg]; exact Rat.mul_zero δ)
   have hdi:=Rat.mul_inv_cancel δ hδ;have r1:a/e*(g:Rat)=(z:Rat):=by
    have h1:a/e*e=a:=by rw[Rat.div_def,Rat.mul_assoc,Rat.inv_mul_cancel _ e0,Rat.mul_one]
    generalize a/e=r at h1 |-;have h2 : δ*(r*(g:Rat)) = δ*(z:Rat):=by
     rw[<- hz,<- h1,hg];grind
    have h3:=congrArg (fun q => δ⁻¹*q) h2;simp only[<- Rat.mul_assoc,Rat.inv_mul_cancel _ hδ,Rat.one_mul] at h3;exact h3
   obtain⟨_,⟨g1,f2⟩,_⟩:=aCk hg0 r1;obtain⟨g2,hg2⟩:∃ g2:Int,g=((a/e).den:Int)*g2:=by
    rcases Int.natAbs_eq g with h | h
    ·exact⟨g1,by rw[h,f2,Int.natCast_mul]⟩
    ·exact⟨-g1,by rw[h,f2,Int.natCast_mul,Int.mul_neg]⟩
   have hdp:=aI4 (a/e);have hd0:wR ((a/e).den:Int)≠0:=by grind
   have he2:e/wR ((a/e).den:Int) = δ*(g2:Rat):=by
    have hgw:(g:Rat)=wR ((a/e).den:Int)*(g2:Rat):=by rw[nB,<- Rat.intCast_mul,<- hg2]
    have h5:=Rat.mul_inv_cancel _ hd0;rw[Rat.div_def];generalize wR ((a/e).den:Int)=w at *;have h4:e = δ*(g2:Rat)*w:=by
     rw[hg,hgw];grind
    have h6:e*w⁻¹ = δ*(g2:Rat)*(w*w⁻¹):=by rw[<- Rat.mul_assoc,<- h4]
    rw[h6,h5,Rat.mul_one]
   refine aG2 h ?_ (fun b hb=>hl b (List.mem_cons_of_mem _ hb)) ⟨g2,he2⟩;rw[Rat.div_def];intro q;exact(Rat.mul_eq_zero.1 q).elim e0 (by have:=Rat.inv_pos.2 hdp; grind)
  ·cases h
theorem aC9 {B:Nat} {p:List Rat} {t κ:Rat} {b c e:Nat} (hB:1<=B) (hp:aJ p=p) (h0:p≠[]) (hc:Cb p c) (ht:dH t e) (hE:e+c<=29*B) (hb:b<=29*B) (hκ : κ≠0) (hi:∀ k,∃ z:Int,p.getD k 0 = κ*(z:Rat)/\z.natAbs<=2^b) :
  ∃ R T,gO B p t=some (R,T)/\aJ R=R/\R.length=p.length/\Cm 1 R b/\dH T (e+c)/\(0<t->0<T)/\∃ a:Rat,0<a/\(∀ x,ev R x=a*ev p x)/\T*a=t:=by
 obtain⟨m,m1,m2,m3⟩:=hc;obtain⟨g,g1,g2⟩:=m3 (p.length-1);have hl:=eC hp h0;have g1':aK p*(m:Rat)=(g:Rat):=g1;obtain⟨y,y1,y2⟩:=aKp g1';have hg:g≠0:=xB g1' m1 hl;have hy:y≠0:=by omega
 have hmem:∀ a∈p,∃ k,a=p.getD k 0:=fun a ha=>by
  obtain⟨i,hi,rfl⟩:=List.getElem_of_mem ha;exact⟨i,by rw[List.getD_eq_getElem?_getD,List.getElem?_eq_getElem hi]; rfl⟩
 obtain⟨D,h,k1,k2,k3,k4,_,k6⟩:=aCw (c:=c) hB (by omega) m1 m2 p (fP (aK p)) y (fun a ha=>by
  obtain⟨k,rfl⟩:=hmem a ha;exact m3 k) y1 hy (by omega)
 have habs:=aKo hl;have hDp:0<D:=aH1 k1 habs;have hD:D≠0:=by grind
 have hDi:=Rat.mul_inv_cancel D hD;have h1D:(1:Rat)/D=D⁻¹:=by rw[Rat.div_def,Rat.one_mul]
 have hD1p:0<(1:Rat)/D:=by rw[h1D]; exact Rat.inv_pos.2 hDp
 have hD1:(1:Rat)/D≠0:=by grind
 obtain⟨v,hv⟩:∃ v:Int,D = κ*(v:Rat):=aG2 k1 (by grind) (fun a ha=>by
   obtain⟨k,rfl⟩:=hmem a ha;obtain⟨z,z1,_⟩:=hi k;exact⟨z,z1⟩) (by
   obtain⟨z,z1,_⟩:=hi (p.length-1);have z1:aK p = κ*(z:Rat):=z1;rcases aL3 (aK p) with q | q
   ·exact⟨z,by rw[q,z1]⟩
   ·exact⟨-z,by rw[q,z1,Rat.intCast_neg]; grind⟩)
 have hv0:v≠0:=by
  rintro rfl;exact hD (by rw[hv]; exact Rat.mul_zero κ)
 have hCR:Cm 1 (aI p (1/D)) b:=fun k=>by
  rw[jL,lE,h1D];rcases Nat.lt_or_ge k p.length with hk | hk
  ·obtain⟨y,y1⟩:=k6 (p.getD k 0) (by rw[List.getD_eq_getElem?_getD,List.getElem?_eq_getElem hk]; exact List.getElem_mem hk);obtain⟨z,z1,z2⟩:=hi k;refine⟨y,by rw[y1]; grind,?_⟩;have e:((v*y:Int):Rat)=(z:Rat):=by
    have q1 : κ*((v:Rat)*(y:Rat)) = κ*(z:Rat):=by rw[<- z1,y1,hv]; grind
    have q2:=congrArg (fun q => κ⁻¹*q) q1;simp only[<- Rat.mul_assoc,Rat.inv_mul_cancel _ hκ,Rat.one_mul] at q2;rw[Rat.intCast_mul];exact q2
   have e:=congrArg Int.natAbs (Rat.intCast_inj.1 e);rw[Int.natAbs_mul] at e;have:=Nat.le_mul_of_pos_left y.natAbs (show 0<v.natAbs by omega);omega
  ·rw[dI hk];exact⟨0,by rw[Rat.zero_mul]; rfl,Nat.zero_le _⟩
 have fD:dH D c:=⟨h,m,m1,k2,k4,m2⟩
 have fT:=aEl ht fD;have s1:aD [1/D] B=true:=by rw[h1D]; exact nC hB (by omega) (aEm hD fD)
 have s2:=(nE hCR).sz hB hb;have s3:aD [t*D] B=true:=nC hB hE fT;refine⟨aI p (1/D),t*D,?_,cC _,(kI hp hD1).1,hCR,fT,fun q=>Rat.mul_pos q hDp,1/D,hD1p,fun x=>by rw[bH,Rat.mul_comm],by rw[h1D]; grind⟩;unfold gO;rw[if_neg h0,k1];show (if _ then some _ else none)=_;rw[s1,s2,s3];rfl
def mN (B:Nat) (a:Rat):Nat->Rat->Option Rat
 | 0,f=>some f
 | n+1,f=>if aD [f*a] B=true then mN B a n (f*a) else none
theorem aJm {B:Nat} {a:Rat} {z:Int} {d:Nat} (hB:1<=B) (ha:a=(z:Rat)) (hz:z.natAbs<=2^d) (ha0:0<a) :
  ∀ (n:Nat) (f:Rat) (y:Int) (e:Nat),f=(y:Rat)->y.natAbs<=2^e->0<f->e+n*d<=29*B->∃ F,mN B a n f=some F/\0<F/\∃ v:Int,F=(v:Rat)/\v.natAbs<=2^(e+n*d)
 | 0,f,y,e,h1,h2,h3,_=>⟨f,rfl,h3,y,h1,by rw[Nat.zero_mul]; exact h2⟩
 | n+1,f,y,e,h1,h2,h3,hE=>by
  rw[Nat.succ_mul] at hE |-;have e1:f*a=((y*z:Int):Rat):=by rw[h1,ha,Rat.intCast_mul]
  have e2:=fW h2 hz;have s:aD [f*a] B=true:=nC hB (by omega) (aLp e1 e2);obtain⟨F,k1,k2,v,k3,k4⟩:=aJm hB ha hz ha0 n (f*a) (y*z) (e+d) e1 e2 (Rat.mul_pos h3 ha0) (by omega);exact⟨F,by rw[mN,if_pos s,k1],k2,v,k3,Nat.le_trans k4 (eO (by omega))⟩
def oM (B:Nat) (a b:List Rat × Rat):Option (List Rat × Rat) :=
 (mN B (fP (aK b.1)) (a.1.length+1-b.1.length) 1).bind fun f=>if (aD [-f] B&&(aD (aI a.1 (-f)) B&&aD [a.2/f] B))=true then (dX B (aI a.1 (-f)) b.1).bind fun x=>gO B x.2 (a.2/f) else none
def vE (g c d:Nat):Nat:=c+g*d+g*(d+1)
theorem aHu {z q:List Rat} (hz:aJ z=z) (hq:aJ q=q) (hl:z.length<q.length) (h:Dv q z):z=[]:=by
 by_cases h0:z=[]
 ·exact h0
 ·have:=(mK hq hz h0 h).2.1;omega
theorem aUm {B:Nat} {p q:List Rat} {s t:Rat} {c d e:Nat} (hB:1<=B) (hp:aJ p=p) (h0:p≠[]) (hq:aJ q=q) (hq0:q≠[]) (hpc:Cm 1 p c) (hqd:Cm 1 q d) (hs:dH s e) (hs0:0<s) (hE:vE (p.length+1-q.length) c d+d<=29*B) (hF:e+(p.length+1-q.length)*d+vE (p.length+1-q.length) c d<=29*B) :
  ∃ R T,oM B (p,s) (q,t)=some (R,T)/\aJ R=R/\R.length<q.length/\Cm 1 R (c+(p.length+1-q.length)*(d+1))/\dH T (e+(p.length+1-q.length)*d+vE (p.length+1-q.length) c d)/\(R≠[]->0<T) /\
   ∃ W:List Rat,∀ x,s*ev p x+T*ev R x=ev W x*ev q x:=by
 unfold vE at *;obtain⟨g,hg⟩:∃ g,p.length+1-q.length=g:=⟨_,rfl⟩
 rw[hg] at hE hF;have hlq:=eC hq hq0;have hlen:=List.length_pos_iff.2 hq0;obtain⟨n,n1,n2⟩:=hqd (q.length-1);have n1':aK q*((1:Int):Rat)=(n:Rat):=n1;obtain⟨y,y1,y2⟩:=aKp n1';rw[lE] at y1;have hgd:g*(d+1)=g*d+g:=by rw[Nat.mul_add,Nat.mul_one]
 obtain⟨f,f1,f2,v,f3,f4⟩:=aJm hB y1 (by rw[y2]; exact n2) (aKo hlq) g 1 1 0 rfl (by decide) (by decide) (by omega);rw[Nat.zero_add] at f4;have hf0:f≠0:=by grind
 have ff:=aLp f3 f4;have fn:=aV0 ff;have hc:Cb (aI p (-f)) (c+g*d):=(nE hpc).scale fn;have hnf : -f≠0:=by grind
 obtain⟨l1,l2⟩:=kI hp hnf;have hdE:oL (aI p (-f)) q (c+g*d) d<=29*B:=by
  unfold oL;rw[l1,hg];omega
 obtain⟨U,R0,k1,k2,k3,k4,k5,k6,k7,k8⟩:=aC2 (p:=aI p (-f)) hB (cC _) hq hq0 hc (nE hqd) hdE;have k8':Cb R0 (c+g*d+g*(d+1)):=by
  unfold oL at k8;rw[l1,hg] at k8;exact k8.mono (by omega)
 have fs:dH (s/f) (e+g*d):=by rw[Rat.div_def]; exact aEl hs (aEm hf0 ff)
 have s1:aD [-f] B=true:=nC hB (by omega) fn;have s2:aD (aI p (-f)) B=true:=hc.sz hB (by omega);have s3:aD [s/f] B=true:=nC hB (by omega) fs;have hsf:s/f*f=s:=by rw[Rat.div_def,Rat.mul_assoc,Rat.inv_mul_cancel _ hf0,Rat.mul_one]
 have hsf0:0<s/f:=by rw[Rat.div_def]; exact Rat.mul_pos hs0 (Rat.inv_pos.2 f2)
 have hev:∀ x,-(f*ev p x)=ev U x*ev q x+ev R0 x:=fun x=>by
  have:=k6 x;rw[bH] at this;rw[<- this];grind
 obtain⟨R1,r1,r2,r3,r4,r5,a,u,r6,r7⟩:=aDl hB hlen hlq hqd (p.length+2) p c (by omega) hp hpc (by rw[hg]; omega);have hz:eI (aI R0 a) (aI R1 f)=[]:=by
  refine aHu (cC _) hq ?_ ⟨fC (aI u f) (aI U a),fun x=>?_⟩
  ·have h1:=aKn (aI R0 a) (aI R1 f);have h2:=oV R0 a;have h3:=oV R1 f;omega
  ·have h1:=hev x;have h2:=r7 x;rw[fM,jR,bH,bH,bH,bH];grind
 have hai:=Rat.inv_mul_cancel a r6;have hcoef:∀ k,R0.getD k 0 = -f*a⁻¹*R1.getD k 0:=fun k=>by
  have h1:=aWh (aI R0 a) (aI R1 f) k;rw[hz,jL,jL,dI (Nat.zero_le _)] at h1;grind
 have hκ : -f*a⁻¹≠0:=fun q=>by
  rcases Rat.mul_eq_zero.1 q with h | h
  ·exact hnf h
  ·rw[h] at hai;grind
 have goal:∀ R T,gO B R0 (s/f)=some (R,T)->oM B (p,s) (q,t)=some (R,T):=fun R T h=>by
  unfold oM;show (mN B (fP (aK q)) (p.length+1-q.length) 1).bind _=_;rw[hg,f1];show (if (aD [-f] B&&(aD (aI p (-f)) B&&aD [s/f] B))=true then (dX B (aI p (-f)) q).bind (fun x=>gO B x.2 (s/f)) else none)=_;rw[s1,s2,s3,if_pos (by rfl),k1];exact h
 rw[hg] at r5 |-;by_cases hR:R0=[]
 ·subst hR;refine⟨[],0,goal _ _ (by unfold gO; rw[if_pos rfl]),rfl,hlen,fun k=>⟨0,by rw[dI (Nat.zero_le _),Rat.zero_mul]; rfl,Nat.zero_le _⟩,⟨0,1,by decide,by rw[Rat.zero_mul]; rfl,Nat.zero_le _,Nat.one_le_two_pow⟩,fun h=>absurd rfl h,aI U (-(s/f)),fun x=>?_⟩;have:=hev x;rw[ev] at this |-;rw[bH];grind
 ·obtain⟨R,T,w1,w2,w3,w4,w5,w6,b,b0,b1,b2⟩:=aC9 (κ := -f*a⁻¹) (b:=c+g*(d+1)) hB k3 hR k8' fs (by omega) (by omega) hκ (fun k=>by
   obtain⟨z,z1,z2⟩:=r5 k;rw[lE] at z1;exact⟨z,by rw[hcoef,z1],z2⟩)
  refine⟨R,T,goal _ _ w1,w2,by omega,w4,w5,fun _=>w6 hsf0,aI U (-(s/f)),fun x=>?_⟩;have:=hev x;have e1:T*ev R x=s/f*ev R0 x:=by rw[b1,<- b2]; grind
  rw[bH,e1];grind
end Vc
end Go.Proofs.YtjmbkipbmbnhjaaGreat

namespace Go.Proofs.YtjmbkipbmbnhjaaGreat
open Go.RowKit
open Go.Lib (hid)
open Dg Zn
namespace Vc
set_option maxRecDepth 100000
theorem aLy {a:Rat}:bB a.num 0<0 ↔ a<0:=by
 have h1:=Rat.num_nonneg (q:=a);have h2:=Rat.not_lt (a:=a) (b:=0);have h3:a<0 ↔ ¬ 0<=a.num:=by
  rw[h1,<- h2,Decidable.not_not]
 rw[h3,bB];split
 ·exact⟨fun _=>by omega,fun _=>by decide⟩
 ·split
  ·exact⟨fun h=>absurd h (by decide),fun h=>by omega⟩
  ·exact⟨fun h=>absurd h (by decide),fun h=>by omega⟩
theorem xQ {a b:Rat} {K:Nat} (h:a=b):∀ L ρ w v,(AV.one (RT a K)).is L ρ w v->(AV.one (RT b K)).is L ρ w v:=by subst h; exact fun _ _ _ _ h=>h
def elG (p:List Rat) (K:Nat) (t:Rat) (J:Nat):qW where
 is:=fun w v=>∃ (s:Value) (c:List Value),v=.agg (s::c).toArray/\(cM (some 4) (bV p K)).is w s/\Dm.at (.rt t.num (qd t) J) w (.agg c.toArray)
 shape:=some 5
 plain:=true
 ok:=fun w v ⟨s,c,h,hs,hc⟩=>by
  subst h;obtain⟨ao,cap,rfl,_⟩:=hs;obtain⟨a,n,c',a',n',c'',rfl,_⟩:=gT hc;exact⟨_,rfl,rfl,by simp[Value.oneCell']⟩
 pl:=fun _ w v ⟨s,c,h,hs,hc⟩=>by
  subst h;obtain⟨ao,cap,rfl,_⟩:=hs;obtain⟨a,n,c',a',n',c'',rfl,_⟩:=gT hc;simp[Value.cells,cW]
abbrev EL (p:List Rat) (K:Nat) (t:Rat) (J:Nat):SA Dm:=.d (Dm.gen (elG p K t J))
theorem qK {p:List Rat} {K:Nat} {t:Rat} {J:Nat}:lU (Dm.gen (elG p K t J)) 0 none (PL p K):=by
 rintro w cs ⟨s,c,h,hs,hc⟩;obtain rfl:cs=s::c:=by simpa using congrArg Array.toList (Value.agg.inj h)
 have h1:s.oneCell'=true:=by obtain⟨ao,cap,rfl,_⟩:=hs; rfl
 exact⟨[],[s],c,s,rfl,rfl,⟨rfl,h1⟩,hs⟩
theorem aMz {p:List Rat} {K:Nat} {t:Rat} {J:Nat}:lU (Dm.gen (elG p K t J)) 1 (some 4) (RT t J):=by
 rintro w cs ⟨s,c,h,hs,hc⟩;obtain rfl:cs=s::c:=by simpa using congrArg Array.toList (Value.agg.inj h)
 obtain⟨a,n,c',a',n',c'',e,_⟩:=gT hc;refine⟨[s],c,[],.agg c.toArray,by simp,rfl,⟨rfl,?_,?_⟩,hc⟩
 ·rw[e]; rfl
 ·rw[e]; simp[Value.oneCell']
theorem qN:gV Tryz.prog 72 0 0:=gV.of (sz:=0) (by kernel_rfl)
theorem aM0:gV Tryz.prog 72 1 1:=gV.of (sz:=3) (by kernel_rfl)
theorem rU:(Tryz.prog.info? 72).map (·.zero)=some (some (.agg #[.slice none 0 0,.bool false,.slice none 0 0,.bool false,.slice none 0 0])):=by kernel_rfl
theorem iK:dG Tryz.prog 72 (some 5):=dG.row (by kernel_rfl) (by kernel_rfl)
theorem pO:Tryz.prog.underlying 69=some (.slice 72):=by kernel_rfl
theorem aFo:(Tryz.prog.info? 72).map (·.size)=some 5:=by kernel_rfl
theorem aKj (parts:List (Nat × Value)):Tryz.prog.built 72 parts=Instr.fill ((#[(0,1),(1,4)]:Array (Nat × Nat))[·]?) #[.slice none 0 0,.bool false,.slice none 0 0,.bool false,.slice none 0 0] parts:=by kernel_rfl
theorem aV8 (w:World):Dm.at (.rt (0:Rat).num (qd 0) 0) w (.agg [Value.bool false,.slice none 0 0,.bool false,.slice none 0 0].toArray) :=
 ⟨_,_,rfl,aM.nil (by decide),aM.nil (by decide),by decide,by decide⟩
section
variable {cx:Cx Dm} {n:Nat} {σ:St Dm} {o:Oper} {d:Nat}
theorem aP6 (ho:o.op=.build 72 #[]) (hd:o.dst=some d) (hn:d<n):aS Tryz.prog cx n σ o [] [(.s d,.av (.one (EL [] 0 0 0)))]:=by
 refine eV hd hn rfl fun σ' ρ a w h hk=>⟨.agg #[.slice none 0 0,.bool false,.slice none 0 0,.bool false,.slice none 0 0],?_,?_⟩
 ·have hb2:=run_build w 72 #[] _ (show Tryz.prog.built 72 (#[]:Array (Nat × Value)).toList=some #[.slice none 0 0,.bool false,.slice none 0 0,.bool false,.slice none 0 0] by rw[aKj]; kernel_rfl);simp only[execOp,ho,Sem.run_bind];rw[show (#[]:Array (Nat × Operand)).map (fun p=>(p.1,a.eval p.2))=#[] by simp,hb2];rfl
 ·intro w' _;exact⟨.slice none 0 0,[.bool false,.slice none 0 0,.bool false,.slice none 0 0],rfl,⟨none,0,rfl,⟨Nat.le_refl _,by decide⟩,fun h=>absurd h (Nat.lt_irrefl _)⟩,aV8 w'⟩
theorem aP5 {x y:Operand} {p:List Rat} {K J:Nat} {t:Rat} (ho:o.op=.build 72 #[(0,x),(1,y)]) (hd:o.dst=some d) (hn:d<n) (hx:opd σ x=.av (.one (PL p K))) (hy:opd σ y=.av (.one (RT t J))):aS Tryz.prog cx n σ o (bF x++bF y) [(.s d,.av (.one (EL p K t J)))]:=by
 refine eV hd hn rfl fun σ' ρ a w h hk=>?_;have h1:=h.opd ((cQ fun q hq=>hk q (by simp[hq])).trans hx);have h2:=h.opd ((cQ fun q hq=>hk q (by simp[hq])).trans hy);obtain⟨ao,cap,hv,_⟩:=rR (ρ:=ρ) (by decide) h1;obtain⟨cs,hv'⟩:∃ cs:List Value,a.eval y=.agg cs.toArray:=by
  obtain⟨s,t',e,_⟩:=h2 w (Agree.refl _ _);exact⟨_,e⟩
 have h2':∀ w',Agree (aY cx σ' ρ) w w'->Dm.at (.rt t.num (qd t) J) w' (.agg cs.toArray):=fun w' hag=>by rw[<- hv']; exact h2 w' hag
 obtain⟨b,m,c,b',m',c',rfl,_⟩:=gT (h2' w (Agree.refl _ _));refine⟨.agg #[.slice ao (bV p K).length cap,.bool (decide (t.num<0)),.slice b m c,.bool (decide (qd t<0)),.slice b' m' c'],?_,?_⟩
 ·have hb:Tryz.prog.built 72 #[(0,a.eval x),(1,a.eval y)].toList=some #[.slice ao (bV p K).length cap,.bool (decide (t.num<0)),.slice b m c,.bool (decide (qd t<0)),.slice b' m' c']:=by
   rw[hv,hv',aKj]
   kernel_rfl
  have hb2:=run_build w 72 #[(0,a.eval x),(1,a.eval y)] _ hb;simp only[execOp,ho,Sem.run_bind];rw[show (#[(0,x),(1,y)]:Array (Nat × Operand)).map (fun p=>(p.1,a.eval p.2))=#[(0,a.eval x),(1,a.eval y)] by simp,hb2];rfl
 ·intro w' hag;refine⟨_,_,rfl,?_,h2' w' hag⟩;have:=h1 w' hag;rw[hv] at this;exact this
end
theorem aB1 (a:Rat) (K:Nat):aC Tryz.prog 52 [RT a K] (.one (RT (fP a) K)):=by
 refine aC.of (n:=9) Tryz.func52 rfl rfl rfl rfl rfl fun cx hfr=>?_;refine sr rfl ?_;refine p2 (cG (i:=0)) ?_;refine p2 (aV (i:=1) bS) ?_;refine RV.done ?_;refine CV.seq ?_;refine sr rfl ?_;refine p1 (aG aB) ?_;refine xc (zH _ _) Tryz.func98 (xa rfl) hfr ?_;refine p1 (eE) ?_;refine RV.done ?_;refine CV.cond rfl (fun hc=>?_) (fun hc=>?_)
 ·refine sr rfl ?_;refine p1 (aG aB) ?_;refine xc (wQ _ _) Tryz.func100 (xa rfl) hfr ?_;refine p1 (aP (aB).2) ?_;refine RV.done ?_;refine CV.ret ?_;have h0:a<0:=(by have:=of_decide_eq_true hc; exact aLy.1 this)
  exact aW rfl (.inr rfl) ⟨_,_,_,_,_,rfl,rfl,rfl,aB⟩ (lM (by rw[fP,if_pos h0]))
 ·refine CV.skip ?_;refine sr rfl ?_;refine p1 (aG aB) ?_;refine p1 (aP (aB).2) ?_;refine RV.done ?_;refine CV.ret ?_;have h0:¬ a<0:=(by have:=of_decide_eq_false hc; exact fun q=>this (aLy.2 q))
  exact aW rfl (.inr rfl) ⟨_,_,_,_,_,rfl,rfl,rfl,aB⟩ (lM (by rw[fP,if_neg h0]))
theorem aCs (l:List Rat) (K:Nat) (hl:l.length<=1000000) (h0:l≠[]):aC Tryz.prog 54 [PL l K] (.one (RT (aK l) K)):=by
 have hlp:=List.length_pos_iff.2 h0;refine aC.of (n:=8) Tryz.func54 rfl rfl rfl rfl rfl fun cx hfr=>?_;refine sr rfl ?_;refine p2 (aV (i:=0) bS) ?_;refine RV.done (sr rfl ?_);refine xm ?_;refine xm ?_;refine xc (oW _ _ hl) Tryz.func51 (xa rfl) hfr ?_;refine p1 (dT (k:=some 4) (i:=l.length-1) (gE (by omega)) bG cS rfl rfl bd rfl (by rw[show ((l.length-1:Nat):Int)=(l.length:Int)-1 by omega]; rfl) (by decide)) ?_;refine p1 (cD aB) ?_;refine p1 (aP (aB).2) ?_;refine RV.done ?_;refine CV.ret ?_;exact aW rfl (.inr rfl) ⟨_,_,_,_,_,rfl,rfl,rfl,aB⟩ cH
section
variable (p:List Rat) (t D:Rat) (B:Nat) (hB:B<=300000) (hp:p.length<=1000000) (h0:p≠[]) (h:gF B p (fP (aK p))=some D) (h1:aD [1/D] B=true) (h2:aD (aI p (1/D)) B=true) (h3:aD [t*D] B=true)
include hB hp h0 h h1 h2 h3
theorem aO5:aC Tryz.prog 95 [PL p B,RT t B] (.one (EL (aI p (1/D)) B (t*D) B)):=by
 have hlp:=List.length_pos_iff.2 h0;have e11:Rat.divInt 1 1=1:=by decide
 refine aC.of (n:=40) Tryz.func95 rfl rfl rfl rfl rfl fun cx hfr=>?_;refine sr rfl ?_;refine p2 (cG (i:=0)) ?_;refine p2 (aV (i:=1) rU) ?_;refine RV.done ?_;refine CV.seq ?_;refine sr rfl ?_;refine xm ?_;refine p1 (bY bL bG) ?_;refine p1 (dF) ?_;refine RV.done ?_;refine CV.cond rfl (fun hc=>False.elim (by have:=of_decide_eq_true hc; omega)) (fun hc=>?_);refine CV.skip ?_;refine sr rfl ?_;refine xm ?_;refine xc (aCs p B hp h0) Tryz.func54 (xa rfl) hfr ?_;refine xc (aB1 _ _) Tryz.func52 (xa rfl) hfr ?_;refine p2 (aV (i:=2) bS) ?_;refine p1 (aP (aB).2) ?_;refine RV.done ?_;refine CV.seq ?_;refine sr rfl ?_;refine xm ?_;refine p1 (bY bL bG) ?_;refine xm ?_;refine RV.done ?_;refine CV.block ?_;refine CV.loop (X:={s:Nat × Rat // s.1<=p.length/\gF B (p.drop s.1) s.2=some D}) (fun s=>[(.s 18,.av (.one (.v (.int .i64 (s.1.1:Int))))),(.s 17,.av (.one (.v (.int .i64 (p.length:Int))))),(.s 16,.av (.one (PL p B))),(.s 0,.av (.one (PL p B))),(.s 5,.av (.one (.ptr 2 0))),(.b 2,.blk 31 [(some 4,RT s.1.2 B)]),(.s 3,.av (.one (.ptr 0 0))),(.b 0,.blk 31 [(some 4,RT t B)]),(.s 4,.av (.one (.ptr 1 0))),(.b 1,.blk 72 [(some 5,.v (.agg #[.slice none 0 0,.bool false,.slice none 0 0,.bool false,.slice none 0 0]))])]) (fun s=>p.length-s.1.1) ⟨(0,fP (aK p)),Nat.zero_le _,h⟩ (bQ.mk ⟨aF _,aF _,aF _,aF _,aF _,aF _,aF _,aF _,aF _,aF _,trivial⟩ rfl rfl) (fun s=>?_);obtain⟨⟨k,e⟩,hk,hs⟩:=s;simp only at hk hs |-;refine sr rfl ?_;refine p1 (eE) ?_;refine RV.done ?_;refine CV.seq ?_;refine CV.cond rfl (fun hc2=>?_) (fun hc2=>?_)
 ·have hlt:k<p.length:=(by have:=of_decide_eq_true hc2; omega)
  rw[aIm hlt] at hs;obtain⟨o1,o2,o3⟩:=aG1 hs;refine CV.skip ?_;refine CV.seq ?_;refine CV.block ?_;refine sr rfl ?_;refine p1 (dT (k:=some 4) (i:=k) (gE hlt) bG cS) ?_;refine p1 (cD aB) ?_;refine p2 (aV (i:=3) bS) ?_;refine p1 (aP (aB).2) ?_;refine RV.done (sr rfl ?_);refine p1 (aG aB) ?_;refine p1 (aG aB) ?_;refine xd rfl ((pB (p.getD k 0) e B B (by omega) (by omega)).mono (fun _ _ _ _ h=>h) (dY o1)) Tryz.func53 (xb rfl rfl) hfr ?_;refine xc (gU _ _) Tryz.func102 (xa rfl) hfr ?_;refine p2 (aV (i:=4) cZ) ?_;refine p1 (aP (aL).2) ?_;refine RV.done ?_;refine CV.region rfl (fun h=>nomatch h) ?_;refine p1 (aG aB) ?_;refine p1 (aG aL) ?_;refine p1 (aCe rfl rfl bd rfl) ?_;refine xd rfl ((pB e (wR ((p.getD k 0/e).den:Int)) B (B+3) (by omega) (by omega)).mono (fun _ _ _ _ h=>h) (dY o2)) Tryz.func53 (xb rfl rfl) hfr ?_;refine p1 (aP (aB).2) ?_;refine RV.done ?_;refine CV.region rfl (fun h=>nomatch h) ?_;refine p1 (cU (c:=((k+1:Nat):Int)) (by rw[cF (by omega) (by omega)]; omega) rfl rfl bd rfl rfl) ?_;refine xm ?_;refine RV.done ?_;exact⟨⟨(k+1,e/wR ((p.getD k 0/e).den:Int)),hlt,o3⟩,bQ.mk ⟨aF _,aF _,aF _,aF _,aF _,aF _,aF _,aF _,aF _,aF _,trivial⟩ rfl rfl,by show p.length-(k+1)<p.length-k; omega⟩
 ·refine CV.exit ?_;refine CV.seq ?_;have hkp:k=p.length:=(by have:=of_decide_eq_false hc2; omega)
  rw[hkp,List.drop_length,gF] at hs;obtain rfl:=Option.some.inj hs;refine CV.region rfl (fun _=>by kernel_rfl) ?_;refine xm ?_;refine xd rfl ((pM 1 1 (by decide) (by decide) (by decide) (by decide)).mono (fun _ _ _ _ h=>h) (xQ e11)) Tryz.func57 (xb rfl rfl) hfr ?_;refine p1 (aG aB) ?_;refine xd rfl ((pB 1 e 6 B (by omega) (by omega)).mono (fun _ _ _ _ h=>h) (dY h1)) Tryz.func53 (xb rfl rfl) hfr ?_;refine xd rfl ((iS p (1/e) B B (by omega) (by omega) hp).mono (fun _ _ _ _ h=>h) (bI h2)) Tryz.func38 (xb rfl rfl) hfr ?_;refine p1 (aG aB) ?_;refine p1 (aG aB) ?_;refine xd rfl ((oA t e B B (by omega) (by omega)).mono (fun _ _ _ _ h=>h) (dY h3)) Tryz.func87 (xb rfl rfl) hfr ?_;refine p1 (aP5 rfl rfl bd rfl rfl) ?_;refine p1 (aP (iK).2) ?_;refine bP (by kernel_rfl) ?_;refine CV.ret ?_;exact aW rfl (.inr rfl) ⟨_,_,_,_,_,rfl,rfl,rfl,iK⟩ cH
end
theorem aXg (B:Nat):∀ L ρ w v,(EL [] 0 0 0).is L ρ w v->(AV.one (EL [] B 0 B)).is L ρ w v:=by
 intro L ρ w v h w' hag;obtain⟨s,c,h1,h2,h3⟩:=h w' hag;obtain⟨x,y,k1,k2,k3,k4,k5⟩:=h3;exact⟨s,c,h1,h2,x,y,k1,k2,k3,Nat.le_trans k4 (Nat.zero_le _),Nat.le_trans k5 (Nat.zero_le _)⟩
theorem aO6 (t:Rat) (K B:Nat):aC Tryz.prog 95 [PL [] B,RT t K] (.one (EL [] B 0 B)):=by
 refine aC.of (n:=40) Tryz.func95 rfl rfl rfl rfl rfl fun cx hfr=>?_;refine sr rfl ?_;refine p2 (cG (i:=0)) ?_;refine p2 (aV (i:=1) rU) ?_;refine RV.done ?_;refine CV.seq ?_;refine sr rfl ?_;refine xm ?_;refine p1 (bY (m:=0) rfl bG) ?_;refine p1 (dF) ?_;refine RV.done ?_;refine CV.cond rfl (fun hc=>?_) (fun hc=>False.elim (by revert hc; decide));refine sr rfl ?_;refine p1 (aP6 rfl rfl bd) ?_;refine p1 (aP (iK).2) ?_;refine RV.done ?_;refine CV.ret ?_;exact aW rfl (.inr rfl) ⟨_,_,_,_,_,rfl,rfl,rfl,iK⟩ (aXg B)
theorem aCc (p:List Rat) (t:Rat) (B:Nat) (R:List Rat) (T:Rat) (hB:B<=300000) (hp:p.length<=1000000) (h:gO B p t=some (R,T)):aC Tryz.prog 95 [PL p B,RT t B] (.one (EL R B T B)):=by
 unfold gO at h;split at h
 ·rename_i h0;subst h0;injection h with h;obtain⟨rfl,rfl⟩:=Prod.mk.inj h;exact aO6 t B B
 ·rename_i h0;obtain⟨D,h1,h⟩:=Option.bind_eq_some_iff.1 h;split at h
  ·rename_i h2;rw[Bool.and_eq_true,Bool.and_eq_true] at h2;injection h with h;obtain⟨rfl,rfl⟩:=Prod.mk.inj h;exact aO5 p t D B hB hp h0 h1 h2.1 h2.2.1 h2.2.2
  ·cases h
theorem aRm {B n:Nat} {a f F:Rat} (h:mN B a (n+1) f=some F):aD [f*a] B=true/\mN B a n (f*a)=some F:=by
 rw[mN] at h;split at h
 ·rename_i h1;exact⟨h1,h⟩
 ·cases h
theorem aTk {B:Nat} {a f F:Rat} (h:mN B a 0 f=some F):f=F:=by
 rw[mN] at h;exact Option.some.inj h
section
variable (p q U R0 R:List Rat) (s t f T:Rat) (B:Nat) (hB:B<=300000) (hp:p.length<=1000000) (hq:q.length<=1000000) (hr:R0.length<=1000000) (hq0:q≠[]) (h0:aD [(1:Rat)] B=true) (hf:mN B (fP (aK q)) (p.length+1-q.length) 1=some f) (h1:aD [-f] B=true) (h2:aD (aI p (-f)) B=true) (h3:aD [s/f] B=true) (h4:dX B (aI p (-f)) q=some (U,R0)) (h5:gO B R0 (s/f)=some (R,T))
include hB hp hq hr hq0 h0 hf h1 h2 h3 h4 h5
theorem aQq:aC Tryz.prog 97 [EL p B s B,EL q B t B] (.one (EL R B T B)):=by
 have e11:Rat.divInt 1 1=1:=by decide
 have hsl:=oV p (-f);obtain⟨N,hN⟩:∃ N,N=p.length+1-q.length:=⟨_,rfl⟩
 rw[<- hN] at hf;refine aC.of (n:=43) Tryz.func97 rfl rfl rfl rfl rfl fun cx hfr=>?_;refine sr rfl ?_;refine p2 (cG (i:=0)) ?_;refine p2 (cG (i:=1)) ?_;refine p2 (aV (i:=2) rU) ?_;refine RV.done (sr rfl ?_);refine xd rfl ((pM 1 1 (by decide) (by decide) (by decide) (by decide)).mono (fun _ _ _ _ h=>h) (fun L ρ w v h=>dY h0 L ρ w v (xQ e11 L ρ w v h))) Tryz.func57 (xb rfl rfl) hfr ?_;refine p2 (aV (i:=3) bS) ?_;refine p1 (aP (aB).2) ?_;refine RV.done ?_;refine CV.seq ?_;refine sr rfl ?_;refine p1 (bJ qN) ?_;refine p1 (bN 0 qK cR) ?_;refine p1 (bY bL bG) ?_;refine p1 (bJ qN) ?_;refine p1 (bN 0 qK cR) ?_;refine p1 (bY bL bG) ?_;refine p1 (eD (c:=(p.length:Int)-q.length) (cF (by omega) (by omega)) rfl rfl bd rfl rfl) ?_;refine p1 (cU (c:=(p.length:Int)-q.length+1) (cF (by omega) (by omega)) rfl rfl bd rfl rfl) ?_;refine xm ?_;refine RV.done ?_;refine CV.block ?_;refine CV.loop (X:={z:Nat × Rat // z.1<=N/\mN B (fP (aK q)) (N-z.1) z.2=some f}) (fun z=>[(.s 17,.av (.one (.v (.int .i64 (z.1.1:Int))))),(.s 16,.av (.one (.v (.int .i64 ((p.length:Int)-q.length+1))))),(.s 2,.av (.one (.ptr 0 0))),(.b 0,.blk 72 [(some 5,EL p B s B)]),(.s 3,.av (.one (.ptr 1 0))),(.b 1,.blk 72 [(some 5,EL q B t B)]),(.s 4,.av (.one (.ptr 2 0))),(.b 2,.blk 72 [(some 5,.v (.agg #[.slice none 0 0,.bool false,.slice none 0 0,.bool false,.slice none 0 0]))]),(.s 5,.av (.one (.ptr 3 0))),(.b 3,.blk 31 [(some 4,RT z.1.2 B)])]) (fun z=>N-z.1.1) ⟨(0,1),Nat.zero_le _,hf⟩ (bQ.mk ⟨aF _,aF _,aF _,aF _,aF _,aF _,aF _,aF _,aF _,aF _,trivial⟩ rfl rfl) (fun z=>?_);obtain⟨⟨k,e⟩,hk,hs⟩:=z;simp only at hk hs |-;refine sr rfl ?_;refine p1 (eE) ?_;refine RV.done ?_;refine CV.seq ?_;refine CV.cond rfl (fun hc=>?_) (fun hc=>?_)
 ·have hlt:k<N:=(by have:=of_decide_eq_true hc; omega)
  rw[show N-k=(N-(k+1))+1 by omega] at hs;obtain⟨o1,o2⟩:=aRm hs;refine CV.skip ?_;refine CV.seq ?_;refine CV.block ?_;refine CV.region rfl (fun _=>by kernel_rfl) ?_;refine p1 (aG aB) ?_;refine p1 (bJ qN) ?_;refine p1 (bN 0 qK cR) ?_;refine xc (aCs q B hq hq0) Tryz.func54 (xa rfl) hfr ?_;refine xc (aB1 _ _) Tryz.func52 (xa rfl) hfr ?_;refine xd rfl ((oA e (fP (aK q)) B B (by omega) (by omega)).mono (fun _ _ _ _ h=>h) (dY o1)) Tryz.func87 (xb rfl rfl) hfr ?_;refine p1 (aP (aB).2) ?_;refine bP (by kernel_rfl) ?_;refine CV.region rfl (fun h=>nomatch h) ?_;refine p1 (cU (c:=((k+1:Nat):Int)) (by rw[cF (by omega) (by omega)]; omega) rfl rfl bd rfl rfl) ?_;refine xm ?_;refine RV.done ?_;exact⟨⟨(k+1,e*fP (aK q)),hlt,o2⟩,bQ.mk ⟨aF _,aF _,aF _,aF _,aF _,aF _,aF _,aF _,aF _,aF _,trivial⟩ rfl rfl,by show N-(k+1)<N-k; omega⟩
 ·refine CV.exit ?_;refine CV.seq ?_;have hkN:k=N:=(by have:=of_decide_eq_false hc; omega)
  rw[hkN,Nat.sub_self] at hs;obtain rfl:=aTk hs;refine CV.region rfl (fun _=>by kernel_rfl) ?_;refine p1 (bJ qN) ?_;refine p1 (bN 0 qK cR) ?_;refine p1 (aG aB) ?_;refine xc (wQ _ _) Tryz.func100 (xa rfl) hfr ?_;refine xd rfl ((iS p (-e) B B (by omega) (by omega) hp).mono (fun _ _ _ _ h=>h) (bI h2)) Tryz.func38 (xb rfl rfl) hfr ?_;refine p1 (bJ qN) ?_;refine p1 (bN 0 qK cR) ?_;refine xd rfl (zW (aI p (-e)) q B hB (by omega) hq h4) Tryz.func134 (xb rfl rfl) hfr ?_;refine xm ?_;refine p1 (dE) ?_;refine p1 (dE) ?_;refine xn ?_;refine xn ?_;refine bP (by kernel_rfl) ?_;refine sr rfl ?_;refine xm ?_;refine p1 (bJ aM0) ?_;refine p1 (bN 1 aMz aB) ?_;refine p1 (aG aB) ?_;refine xd rfl ((pB s e B B (by omega) (by omega)).mono (fun _ _ _ _ h=>h) (dY h3)) Tryz.func53 (xb rfl rfl) hfr ?_;refine xc (aCc R0 (s/e) B R T hB hr h5) Tryz.func95 (xb rfl rfl) hfr ?_;refine p1 (aP (iK).2) ?_;refine RV.done ?_;refine CV.ret ?_;exact aW rfl (.inr rfl) ⟨_,_,_,_,_,rfl,rfl,rfl,iK⟩ cH
end
theorem aSj (p q R:List Rat) (s t T:Rat) (B:Nat) (hB:B<=300000) (hp:p.length<=1000000) (hq:q.length<=1000000) (hq0:q≠[]) (h0:aD [(1:Rat)] B=true) (h:oM B (p,s) (q,t)=some (R,T)) (hr:∀ U R0 f,dX B (aI p (-f)) q=some (U,R0)->R0.length<=1000000):aC Tryz.prog 97 [EL p B s B,EL q B t B] (.one (EL R B T B)):=by
 unfold oM at h;obtain⟨f,h1,h⟩:=Option.bind_eq_some_iff.1 h;split at h
 ·rename_i h2;rw[Bool.and_eq_true,Bool.and_eq_true] at h2;obtain⟨⟨U,R0⟩,h3,h⟩:=Option.bind_eq_some_iff.1 h;exact aQq p q U R0 R s t f T B hB hp hq (hr U R0 f h3) hq0 h0 h1 h2.1 h2.2.1 h2.2.2 h3 h
 ·cases h
theorem aV9 {s:Value} {k:Option Nat} {ao:Option Addr} {c:Nat} (h:s=.slice ao 0 c):uZ (SA.v s:SA Dm) k []:=⟨rfl,rfl,fun L ρ w v hv=>⟨ao,c,by subst h; exact hv,fun q=>absurd q (Nat.lt_irrefl 0)⟩⟩
theorem aYd {P:Program} {cx:Cx Dm} {n:Nat} {fn:Func} {e:Exit} {l:Sg Dm} (hres:fn.results=#[]) (he:e=.normal\/e=.ret):Fin P cx n fn (.tup []) e l:=by
 refine⟨he,fun ρ a w h=>⟨.tuple #[],?_,⟨[],rfl,trivial⟩⟩⟩;simp[results,hres]
theorem aNu {a:Option Addr} {n c d:Nat} {w:World}:(Op.equalIn (d+1) 24 (.slice a n c) (.slice none 0 0)).run Tryz.prog w=.ok a.isNone w:=by
 cases a<;>simp[Op.equalIn,run_underlying bG]
theorem aQx (c K:Nat):aC (D:=Dm) Tryz.prog 75 [.v (.slice none 0 c)] (.one (PL [] K)):=by
 refine aC.of (n:=8) Tryz.func75 rfl rfl rfl rfl rfl fun cx hfr=>?_;refine sr rfl ?_;refine xn ?_;refine RV.done ?_;refine CV.seq ?_;refine sr rfl ?_;refine xm ?_;refine p1 (lL (u:=.slice none 0 c) (v:=.slice none 0 0) (r:=.bool true) rfl rfl bd rfl rfl (fun w=>by simp[eqGuard,binOp,Op.equal,Op.maxDepth,aNu (d:=9999)])) ?_;refine RV.done ?_;refine CV.yes rfl ?_;refine sr rfl ?_;refine xn ?_;refine RV.done ?_;refine CV.ret ?_;exact aW rfl (.inr rfl) rfl (fun L ρ w v h=>xD L ρ w v h)
theorem aQw (x:Addr) (c K:Nat):aC (D:=Dm) Tryz.prog 75 [.v (.slice (some x) 0 c)] (.one (PL [] K)):=by
 refine aC.of (n:=8) Tryz.func75 rfl rfl rfl rfl rfl fun cx hfr=>?_;refine sr rfl ?_;refine xn ?_;refine RV.done ?_;refine CV.seq ?_;refine sr rfl ?_;refine xm ?_;refine p1 (lL (u:=.slice (some x) 0 c) (v:=.slice none 0 0) (r:=.bool false) rfl rfl bd rfl rfl (fun w=>by simp[eqGuard,binOp,Op.equal,Op.maxDepth,aNu (d:=9999)])) ?_;refine RV.done ?_;refine CV.no rfl ?_;refine CV.skip ?_;refine sr rfl ?_;refine p2 (aLe (r:=105) (ss:=[]) (xs:=[]) (k:=some 4) bG sF rfl rfl rfl (by intro s hs; cases hs) (by intro s hs; cases hs) rfl rfl rfl bd trivial rfl rfl) ?_;refine xm ?_;refine lI (aS.plain (aCf (r:=105) (r':=107) (k:=some 4) (G:=Dm.gen (cM (some 4) ([]++bV [] K))) (cx.bw hfr) (xs:=[]) (aV9 rfl) (dS _ _) (lC _ _) (by decide) (by decide) bG mH rfl rfl rfl (by intro s hs; cases hs) rfl rfl rfl bd rfl rfl rfl rfl rfl rfl rfl rfl) rfl) ?_;refine xn ?_;refine RV.done ?_;refine CV.ret ?_;exact aW rfl (.inr rfl) rfl cH
theorem aQy (K:Nat):aC Tryz.prog 75 [PL [] K] (.one (PL [] K)):=by
 intro L ρ w vs hlt hni hT hall
 match vs,hall with
 | [v],⟨g0,_⟩ =>
  obtain⟨ao,cap,rfl,_⟩:=rR (by decide) g0;cases ao with
  | none=>exact aQx cap K L ρ w _ hlt hni hT ⟨rfl,trivial⟩
  | some x=>exact aQw x cap K L ρ w _ hlt hni hT ⟨rfl,trivial⟩
theorem aO1 (K:Nat):aC Tryz.prog 76 [PL [] K] (.tup []):=by
 refine aC.of (n:=28) Tryz.func76 rfl rfl rfl rfl rfl fun cx hfr=>?_;refine sr rfl ?_;refine xm ?_;refine p1 (bY bL bG) ?_;refine p1 (eD (c := -1) (by rw[cF (by decide) (by decide)]; rfl) rfl rfl bd rfl rfl) ?_;refine xn ?_;refine xn ?_;refine RV.done ?_;refine CV.block ?_;refine CV.loop (X:=Unit) (fun _=>[(.s 2,.av (.one (.v (.int .i64 0)))),(.s 3,.av (.one (.v (.int .i64 (-1)))))]) (fun _=>0) () (bQ.mk ⟨aF _,aF _,trivial⟩ rfl rfl) (fun _=>?_);refine CV.seq ?_;refine sr rfl ?_;refine xm ?_;refine xm ?_;refine p1 (eE) ?_;refine RV.done ?_;refine CV.cond rfl (fun hc=>False.elim (by exact absurd hc (by decide))) (fun hc=>?_);refine CV.exit ?_;exact aYd rfl (.inl rfl)
theorem aSp (p:List Rat) (K B:Nat) (hp:p.length<=1000000) (hK:K<=1000000):aC Tryz.prog 79 [PL p K,PL [] K] (.one (RT 0 B)):=by
 have h:=aIw p [] K 0 hp (by decide) hK (by rw[List.length_nil,Nat.min_zero]; exact Nat.le_refl 0) (Nat.zero_le _);have e:xX p []=0:=by
  unfold xX;rw[List.length_nil,Nat.min_zero];rfl
 rw[e] at h;exact h.mono (fun _ _ _ _ h=>h) (dZ rfl rfl (Nat.zero_le _))
theorem aPn (n:Nat):aJ (tab (fun _=>(0:Rat)) n)=[]:=aDk fun k=>by rw[pD]; split<;>rfl
section
variable (p:List Rat) (K B k:Nat) (hp:p.length<=100000) (hK:K<=1000000) (hk:k<p.length-1)
include hp hk hK
theorem aSs:aC Tryz.prog 78 [.v (.int .i64 (k:Int)),fI [] K,fI p K,fI [] K] (.one (RT 0 B)):=by
 refine aC.of (n:=21) Tryz.func78 rfl rfl rfl rfl rfl fun cx hfr=>?_;refine sr rfl ?_;refine p2 (aV (i:=0) bS) ?_;refine RV.done (sr rfl ?_);refine p1 (cD cR) ?_;refine xd rfl (oW [] _ (by decide)) Tryz.func51 (xa rfl) hfr ?_;refine xm ?_;refine p1 (eD (c := -1-(k:Int)) (by rw[cF (by rw[List.length_nil]; omega) (by rw[List.length_nil]; omega)]; rfl) rfl rfl bd rfl rfl) ?_;refine xn ?_;refine RV.done ?_;refine CV.seq ?_;refine CV.region rfl (fun _=>by kernel_rfl) ?_;refine p1 (cD cR) ?_;refine xm ?_;refine p1 (aMi (c:=((k+1:Nat):Int)) (by rw[cF (by omega) (by omega)]; omega) rfl rfl bd rfl) ?_;refine p1 (rZ (c:=((k+1:Nat):Int)) (by split<;>omega) rfl rfl bd rfl rfl) ?_;refine p1 (sA (k:=some 4) (l':=bV (p.drop (k+1)) K) (some (k+1)) none none (by show ((bV p K).take (bV p K).length).drop (k+1)=_; rw[List.take_length,aDg]) (by decide) (by show k+1<=(bV p K).length; rw[bL]; omega) (Nat.le_refl _) (Nat.le_refl _) (fun _=>rfl) bG cS rfl rfl bd rfl rfl trivial trivial) ?_;refine p1 (cD cR) ?_;refine xm ?_;refine p1 (rZ (c:=((0:Nat):Int)) (by split<;>omega) rfl rfl bd rfl rfl) ?_;refine p1 (sA (k:=some 4) (l':=bV [] K) (some 0) none none rfl bd (Nat.le_refl _) (Nat.le_refl _) (Nat.le_refl _) (fun _=>rfl) bG cS rfl rfl bd rfl rfl trivial trivial) ?_;refine xd rfl (aSp (p.drop (k+1)) K B (by rw[List.length_drop]; omega) hK) Tryz.func79 (xb rfl rfl) hfr ?_;refine p1 (aP (aB).2) ?_;refine bP (by kernel_rfl) ?_;refine CV.ret ?_;exact aW rfl (.inr rfl) ⟨_,_,_,_,_,rfl,rfl,rfl,aB⟩ cH
end
section
variable (p:List Rat) (K B:Nat) (hp:p.length<=100000) (hK:K<=1000000)
include hp hK
theorem aSq:aC Tryz.prog 33 [PL p K,PL [] K] (.one (PL [] B)):=by
 refine aC.of (n:=18) Tryz.func33 rfl rfl rfl rfl rfl fun cx hfr=>?_;refine sr rfl ?_;refine p1 (jO) ?_;refine p1 (jO) ?_;refine xn ?_;refine RV.done (sr rfl ?_);refine p1 (cD cR) ?_;refine xc (aQy K) Tryz.func75 (xa rfl) hfr ?_;refine lI (aS.plain (aH8 (r:=7) (k:=none) zA rfl rfl rfl bd rfl rfl rfl) rfl) ?_;refine p1 (tI (i:=0) (by decide) (by show 0<1; decide) uA (.inr rfl) rfl rfl rfl rfl rfl rfl rfl rfl rfl) ?_;refine RV.done ?_;refine CV.seq ?_;refine aHl (r:=7) (t:=5) (cx.bw hfr) rfl rfl rfl rfl ?_;refine CV.kp [] rfl rfl ?_;refine CV.region rfl (fun h=>nomatch h) ?_;refine p1 (cD cR) ?_;refine xc (aO1 K) Tryz.func76 (xa rfl) hfr ?_;refine RV.done (sr rfl ?_);refine p1 (cD cR) ?_;refine p1 (bY bL bG) ?_;refine p1 (cD cR) ?_;refine p1 (bY bL bG) ?_;refine p1 (cU (c:=(p.length:Int)) (by rw[cF (by show _<=(p.length:Int)+((0:Nat):Int); omega) (by show (p.length:Int)+((0:Nat):Int)<=_; omega)]; show (p.length:Int)+((0:Nat):Int)=_; omega) rfl rfl bd rfl rfl) ?_;refine p1 (eD (c:=(p.length:Int)-1) (by rw[cF (by omega) (by omega)]) rfl rfl bd rfl rfl) ?_;refine p1 (rY (caps:=[.tmp 3,.tmp 2,.tmp 5]) (ss:=[_,_,_]) rfl rfl bd (.cons rfl cP.any (xb rfl rfl)) rfl) ?_;refine xd rfl (wM (fun _=>(0:Rat)) B (p.length-1) ((p.length:Int)-1) (by omega) (by omega) Tryz.func78 rfl rfl (caps:=[fI [] K,fI p K,fI [] K]) (fun k hk=>aSs p K B k hp hK hk)) Tryz.func77 (xb rfl rfl) hfr ?_;refine xn ?_;refine RV.done ?_;refine CV.ret ?_;exact aW rfl (.inr rfl) rfl (lM (by rw[aPn]))
end
section
variable (p:List Rat) (K B:Nat) (hK:K<=100000) (hp:p.length<=1000000) (h0:p≠[]) (hs:aD (cL p) B=true)
include hK hp h0 hs
end
theorem aWd {B:Nat}:∀ L ρ w cs,cE L ρ w [(some 4,SA.d (Dm.rt 0 0 0))] cs->cE L ρ w [(some 4,RT 0 B)] cs:=by
 rintro L ρ w cs ⟨p,r,v,e1,e2,e3,e4⟩;exact⟨p,r,v,e1,e2,dZ rfl rfl (Nat.zero_le _) L ρ w v e3,e4⟩
section
variable (p:List Rat) (x:Rat) (K Kx B:Nat) (hK:K<=100000) (hKx:Kx<=100000) (hB:B<=100000) (hp:p.length<=1000000) (hs:∀ k,k<=p.length->aD [mP p x k] B=true) (hw:∀ k,k<=p.length->aD [pw x k] B=true)
include hK hKx hB hp hs hw
theorem aP1:aC Tryz.prog 40 [PL p K,RT x Kx] (.one (RT (ev p x) B)):=by
 refine aC.of (n:=28) Tryz.func40 rfl rfl rfl rfl rfl fun cx hfr=>?_;refine sr rfl ?_;refine p2 (cG (i:=0)) ?_;refine p2 (aV (i:=1) bS) ?_;refine RV.done (sr rfl ?_);refine p1 (tL) ?_;refine p2 (aV (i:=2) bS) ?_;refine p1 (aP (aB).2) ?_;refine RV.done (sr rfl ?_);refine xd rfl ((rO 1 1 (by decide) (by decide) (by decide) (by decide)).mono (fun _ _ _ _ h=>h) (dY (hw 0 (Nat.zero_le _)))) Tryz.func32 (xb rfl rfl) hfr ?_;refine p2 (aV (i:=3) bS) ?_;refine p1 (aP (aB).2) ?_;refine RV.done ?_;refine CV.seq ?_;refine sr rfl ?_;refine xn ?_;refine RV.done ?_;refine CV.block ?_;refine CV.loop (X:={k:Nat // k<=p.length}) (fun k=>[(.s 7,.av (.one (.v (.int .i64 (k.1:Int))))),(.s 6,.av (.one (.ptr 3 0))),(.s 5,.av (.one (.ptr 2 0))),(.s 4,.av (.one (.ptr 1 0))),(.s 3,.av (.one (.ptr 0 0))),(.s 0,.av (.one (PL p K))),(.b 3,.blk 31 [(some 4,RT (pw x k.1) B)]),(.b 2,.blk 31 [(some 4,RT (mP p x k.1) B)]),(.b 1,.blk 31 [(some 4,.v eR)]),(.b 0,.blk 31 [(some 4,RT x Kx)])]) (fun k=>p.length-k.1) ⟨0,Nat.zero_le _⟩ (bQ.mk ⟨aF _,aF _,aF _,aF _,aF _,aF _,⟨rfl,fun _ _ _ _ h=>h⟩,⟨rfl,aWd⟩,aF _,aF _,trivial⟩ rfl rfl) (fun k=>?_);obtain⟨k,hk⟩:=k;simp only;refine CV.seq ?_;refine sr rfl ?_;refine xm ?_;refine xm ?_;refine p1 (bY bL bG) ?_;refine p1 (eE) ?_;refine RV.done ?_;refine CV.cond rfl (fun hc=>?_) (fun hc=>?_)
 ·have hlt:k<p.length:=(by have:=of_decide_eq_true hc; omega)
  refine CV.skip ?_;refine CV.seq ?_;refine CV.block ?_;refine CV.seq ?_;refine CV.region rfl (fun _=>by kernel_rfl) ?_;refine p1 (aG aB) ?_;refine xm ?_;refine xm ?_;refine p1 (dT (k:=some 4) (i:=k) (gE hlt) bG cS) ?_;refine p1 (cD aB) ?_;refine p1 (aG aB) ?_;refine xd rfl (aCu (p.getD k 0) (pw x k) K B (by omega) (by omega)) Tryz.func89 (xb rfl rfl) hfr ?_;refine xd rfl ((aHt (mP p x k) (p.getD k 0*pw x k) B (3*(K+B)+20) (by omega) (by omega)).mono (fun _ _ _ _ h=>h) (dY (hs (k+1) hlt))) Tryz.func31 (xb rfl rfl) hfr ?_;refine p1 (aP (aB).2) ?_;refine bP (by kernel_rfl) ?_;refine CV.region rfl (fun h=>nomatch h) ?_;refine p1 (aG aB) ?_;refine p1 (aG aB) ?_;refine xd rfl ((aCu (pw x k) x B Kx (by omega) (by omega)).mono (fun _ _ _ _ h=>h) (dY (hw (k+1) hlt))) Tryz.func89 (xb rfl rfl) hfr ?_;refine p1 (aP (aB).2) ?_;refine RV.done ?_;refine CV.region rfl (fun h=>nomatch h) ?_;refine xm ?_;refine p1 (cU (c:=((k+1:Nat):Int)) (by rw[cF (by omega) (by omega)]; omega) rfl rfl bd rfl rfl) ?_;refine xn ?_;refine RV.done ?_;exact⟨⟨k+1,hlt⟩,bQ.mk ⟨aF _,aF _,aF _,aF _,aF _,aF _,⟨rfl,fun _ _ _ _ h=>h⟩,⟨rfl,fun _ _ _ _ h=>h⟩,aF _,aF _,trivial⟩ rfl rfl,by show p.length-(k+1)<p.length-k; omega⟩
 ·refine CV.exit ?_;refine sr rfl ?_;refine p1 (aG aB) ?_;refine p1 (aP (aB).2) ?_;refine RV.done ?_;refine CV.ret ?_;obtain rfl:k=p.length:=(by have:¬ k<p.length:=(by have:=of_decide_eq_false hc; omega); omega)
  exact aW rfl (.inr rfl) ⟨_,_,_,_,_,rfl,rfl,rfl,aB⟩ (fun L ρ w v h=>by rw[<- aAy]; exact h)
end
section
variable (p:List Rat) (x:Rat) (K Kx B:Nat) (hK1:1<=K) (hKx1:1<=Kx) (hp:p.length<=1000) (hB:B<=300) (hK:K<=B) (hKx:Kx<=B) (hl:p.length<=20) (hpz:aD p K=true) (hxz:aD [x] Kx=true) (hs:∀ m,m<=p.length->aD (aWx p x (lT id m)) B=true)
include hK1 hKx1 hB hK hKx hl hpz hxz hs hp
end
/-! Div. -/
theorem aU9 {l:List Rat} {B:Nat} (h:∀ k,aD [l.getD k 0] B=true):aD l B=true:=qC fun a ha=>by
 obtain⟨i,hi,rfl⟩:=List.getElem_of_mem ha;have:=h i;rw[List.getD_eq_getElem?_getD,List.getElem?_eq_getElem hi] at this;exact this
section
variable (p q:List Rat) (B:Nat) (U:List (Option Rat)) (R:List Rat) (hB1:1<=B) (hB:B<=100000) (hp:p.length<=1000) (hq:q.length<=1000) (hq0:q≠[]) (tp:aJ p=p) (tq:aJ q=q) (hqz:aD q B=true) (h:kU B q (p.length+2) (List.replicate (p.length+1-q.length) none) p=some (U,R))
include hB1 hB hp hq hq0 tp tq hqz h
end
section
variable (p q G:List Rat) (B:Nat) (hB1:1<=B) (hB:B<=100000) (hp:p.length<=1000) (hq:q.length<=1000) (h:aNg B p q=some G)
include hB1 hB hp hq h
end
section
variable (p G U R:List Rat) (B:Nat) (hB1:1<=B) (hB:B<=100000) (hp:p.length<=1000) (tp:aJ p=p) (h0:aD (bO p) B=true) (h1:aNg B p (bO p)=some G) (tG:aJ G=G) (hG:G.length<=1000) (zG:aD G B=true) (h2:dX B p G=some (U,R)) (tU:aJ U=U) (hU:U.length<=1000) (hm:aD (cL U) B=true)
include hB1 hB hp tp h0 h1 tG hG zG h2 tU hU hm
end
end Vc
end Go.Proofs.YtjmbkipbmbnhjaaGreat

namespace Go.Proofs.YtjmbkipbmbnhjaaGreat
open Go.RowKit
open Dg Zn
namespace Vc
section
variable {cx:Cx Dm} {n:Nat} {σ:St Dm} {o:Oper} {d:Nat} {x:Operand}
end
end Vc
end Go.Proofs.YtjmbkipbmbnhjaaGreat

namespace Go.Proofs.YtjmbkipbmbnhjaaGreat
open Go.RowKit
open Go.Lib (hid)
open Dg Zn
namespace Vc
def aYf (p q:Int):Bool:=decide (q=0\/(0<=q/\q≠1/\Int.gcd p q=1))
section
variable (f g:Nat->Int) (K n m:Nat) (hK:K<=1000000) (hn:n<=1000000) (hm:m<n) (hbad:aYf (f m) (g m)=false)
include hK hn hm hbad
end
theorem nZ {zs:List Int}:∀ L ρ w v,(SA.d (Dm.ints zs)).is L ρ w v->(ZI .i64 zs).is L ρ w v:=by
 intro L ρ w v h w' hw;obtain⟨_,ao,cap,e,h1,h2,h3⟩:=h w' hw;refine⟨ao,cap,by rw[rE]; exact e,by rw[rE]; exact⟨h1,h2⟩,fun hl=>?_⟩;rw[rE] at hl;obtain⟨b,off,e2,h4⟩:=h3 hl;refine⟨b,off,e2,_,aKw,fun j u hj=>?_⟩;obtain⟨hj1,hj2⟩:=List.getElem?_eq_some_iff.1 hj;rw[List.length_map] at hj1;rw[h4 j hj1,<- hj2,List.getElem_map,List.getD_eq_getElem?_getD,List.getElem?_eq_getElem hj1];rfl
section
variable (zs:List Int) (hz:∀ z∈zs,-9223372036854775808<=z/\z<=9223372036854775807) (c:Int) (hc1 : -9223372036854775808<=c) (hc2:c<=9223372036854775807)
include hz hc1 hc2
end
end Vc
end Go.Proofs.YtjmbkipbmbnhjaaGreat

namespace Go.Proofs.YtjmbkipbmbnhjaaGreat
open Go.RowKit
open Dg Zn
namespace Vc
/-! The reference's polynomials are small. -/
theorem zL (z:Int):∃ y:Int,aO z*((12:Int):Rat)=(y:Rat)/\y.natAbs<=2^7:=by
 obtain⟨⟨a1,a2⟩,_,b1,b2⟩:=small_facts z;unfold aO;have ha:((dU z 105).tmod 15-7).natAbs<=8:=by omega
 generalize (dU z 105).tmod 15-7=a at ha |-;generalize ((dU z 105).tdiv 15).tmod 4=b at b1 b2 |-;have key:∀ d e:Int,d*e=12->d≠0->e.natAbs<=12->∃ y:Int,Rat.divInt a d*((12:Int):Rat)=(y:Rat)/\y.natAbs<=2^7:=fun d e h1 h2 h3=>by
  refine⟨a*e,?_,?_⟩
  ·rw[Rat.divInt_eq_div,Rat.div_def,<- h1,Rat.intCast_mul,Rat.intCast_mul];have:=Rat.mul_inv_cancel _ (nA h2);grind
  ·rw[Int.natAbs_mul];exact Nat.le_trans (Nat.mul_le_mul ha h3) (by decide)
 rcases (by omega:b=0\/b=1\/b=2\/b=3) with rfl | rfl | rfl | rfl
 ·exact key 1 12 rfl (by decide) (by decide)
 ·exact key 2 6 rfl (by decide) (by decide)
 ·exact key 3 4 rfl (by decide) (by decide)
 ·exact key 4 3 rfl (by decide) (by decide)
theorem aFf {m:Int} {p:List Rat} {e:Nat} (h:∀ a∈p,∃ y:Int,a*(m:Rat)=(y:Rat)/\y.natAbs<=2^e):Cm m p e:=fun k=>by
 rcases Nat.lt_or_ge k p.length with hk | hk
 ·rw[List.getD_eq_getElem?_getD,List.getElem?_eq_getElem hk];exact h _ (List.getElem_mem hk)
 ·rw[dI hk];exact⟨0,by rw[Rat.zero_mul]; rfl,Nat.zero_le _⟩
theorem aEs {p:List Rat} {e:Nat} (h:Cb p e):Cb (aJ p) e:=h.ext (tB p)
theorem aXd (zs:List Int) (i n:Nat):Cb (aJ (dW zs i n)) 7:=by
 refine aEs ⟨12,by decide,by decide,aFf fun a ha=>?_⟩;have h1:∃ y:Int,Rat.divInt 1 1*((12:Int):Rat)=(y:Rat)/\y.natAbs<=2^7:=⟨12,by rw[show Rat.divInt 1 1=1 by decide +kernel,Rat.one_mul],by decide⟩
 unfold dW at ha;split at ha
 ·simp only[List.mem_cons,List.not_mem_nil,or_false] at ha;rcases ha with rfl | rfl | rfl
  ·exact zL _
  ·exact zL _
  ·exact h1
 ·simp only[List.mem_cons,List.not_mem_nil,or_false] at ha;rcases ha with rfl | rfl
  ·obtain⟨y,y1,y2⟩:=zL (zs.getD i 0);exact⟨-y,by rw[Rat.intCast_neg,<- y1]; grind,by rw[Int.natAbs_neg]; exact y2⟩
  ·exact h1
theorem Cb.rmul {p q:List Rat} {c d t:Nat} (hp:Cb p c) (hq:Cb q d) (ht:p.length+q.length<=2^t):Cb (kR p q) (c+d+t):=(hp.mul hq ht).ext fun k=>uL (fun x=>by rw[aV4,bZ]) k
theorem aJn (zs:List Int):∀ m,m<=3->Cb (cO zs m) (3+10*m)
 | 0,_=>by
  refine aEs ⟨1,by decide,by decide,aFf fun a ha=>?_⟩;obtain rfl:=List.mem_singleton.1 ha;obtain⟨h1,h2⟩:=aA3 zs 1 5 (by decide);refine⟨1+iF zs 1 5,?_,by omega⟩;rw[lE];exact nB _
 | m+1,h=>by
  have h1:=aJn zs m (by omega);have h2:=(nR zs m).1;have h3:=jK (dW zs (m+2) (cO zs m).length);have h4:=rT zs (m+2) (cO zs m).length;rw[cO];exact(h1.rmul (aXd zs (m+2) (cO zs m).length) (t:=3) (by omega)).mono (by omega)
theorem aTl (zs:List Int):Cb (aN zs) 33:=by
 unfold aN;split
 ·refine(aEs ⟨12,by decide,by decide,aFf (e:=7) fun a ha=>?_⟩).mono (by decide);unfold tab at ha;obtain⟨k,_,rfl⟩:=List.mem_map.1 ha;exact zL _
 ·exact(aJn zs _ (by omega)).mono (by omega)
theorem aRn (zs:List Int):(aN zs).length<=6:=by
 unfold aN;split
 ·refine Nat.le_trans (jK _) ?_;rw[iA];omega
 ·have h:∀ m,m<=3->(cO zs m).length<=6:=fun m hm=>by
   rcases (by omega:m<=2\/m=3) with h | h
   ·have:=(nR zs m).1;omega
   ·subst h;rw[cO];have h1:=aHs (cO zs 2) (aJ (dW zs (2+2) (cO zs 2).length));have h2:=(nR zs 2).1;have h3:=jK (dW zs (2+2) (cO zs 2).length);have h4:(dW zs (2+2) (cO zs 2).length).length=2:=by
     unfold dW;rw[if_neg (by omega)];rfl
    omega
  exact h _ (by omega)
/-! Polynomials with the bits of their numbers and their length. -/
structure Pk (p:List Rat) (e n:Nat):Prop where
 cb:Cb p e
 tr:aJ p=p
 len:p.length<=n
theorem mG (zs:List Int):Pk (aN zs) 33 6:=⟨aTl zs,aP2 zs,aRn zs⟩
theorem Pk.sz {p:List Rat} {e n B:Nat} (h:Pk p e n) (hB:1<=B) (he:e<=29*B):aD p B=true:=h.cb.sz hB he
theorem Pk.mono {p:List Rat} {e n e' n':Nat} (h:Pk p e n) (he:e<=e') (hn:n<=n'):Pk p e' n':=⟨h.cb.mono he,h.tr,Nat.le_trans h.len hn⟩
theorem kQ:dH (-1) 0:=⟨-1,1,by decide,by rw[lE]; rfl,by decide,by decide⟩
theorem Pk.scale {p:List Rat} {a:Rat} {c d n:Nat} (hp:Pk p c n) (ha:dH a d):Pk (aI p a) (c+d) n:=⟨hp.cb.scale ha,cC _,Nat.le_trans (oV _ _) hp.len⟩
theorem aJx (p q:List Rat):(aT p q).length<=p.length+q.length-1:=by
 unfold aT;refine Nat.le_trans (jK _) ?_;rw[iA];exact Nat.le_refl _
theorem Pk.mul {p q:List Rat} {c d n m:Nat} (t:Nat) (hp:Pk p c n) (hq:Pk q d m) (ht:n+m<=2^t):Pk (aT p q) (c+d+t) (n+m-1):=by
 have h1:=aJx p q;have h2:=hp.len;have h3:=hq.len;exact⟨hp.cb.mul hq.cb (by omega),cC _,by omega⟩
theorem vS (p:List Rat):(bO p).length<=p.length-1:=by
 unfold bO;exact Nat.le_trans (jK _) (by rw[iA]; exact Nat.le_refl _)
theorem Pk.derive {p:List Rat} {c n:Nat} (t:Nat) (hp:Pk p c n) (ht:n<=2^t):Pk (bO p) (c+t) (n-1):=by
 have h1:=vS p;have h2:=hp.len;exact⟨hp.cb.derive (by omega),cC _,by omega⟩
theorem aVu (p:List Rat):aT p []=[]:=iD (cC _) rfl fun x=>by rw[bZ,ev,Rat.mul_zero]
/-! Contracts. -/
section
variable {p q:List Rat} {c d n m:Nat}
theorem oG (zs:List Int) (hz:∀ z∈zs,-9223372036854775808<=z/\z<=9223372036854775807):aC Tryz.prog 9 [ZI .i64 zs] (.one (PL (aN zs) 10)):=(aRg zs hz).mono (fun _ _ _ _ h=>h) (bI ((mG zs).sz (by decide) (by decide)))
end
end Vc
end Go.Proofs.YtjmbkipbmbnhjaaGreat

namespace Go.Proofs.YtjmbkipbmbnhjaaGreat
open Go.RowKit
open Go.Lib (hid)
open Dg Zn
namespace Vc
set_option maxRecDepth 100000
theorem aIo {B:Nat} {q:List Rat}:∀ {n:Nat} {u:List (Option Rat)} {r:List Rat} {X:List (Option Rat) × List Rat},kU B q n u r=some X->X.2.length<q.length
 | 0,_,_,_,h=>nomatch h
 | n+1,u,r,X,h=>by
  rw[kU] at h;split at h
  ·split at h
   ·exact aIo h
   ·cases h
  ·rename_i hl;injection h with h;subst h;show r.length<q.length;omega
theorem aIn {B:Nat} {p q U R:List Rat} (h:dX B p q=some (U,R)) (h0:q≠[]):R.length<q.length:=by
 unfold dX at h;rw[if_neg h0] at h;obtain⟨X,h1,h2⟩:=Option.map_eq_some_iff.1 h;obtain⟨_,rfl⟩:=Prod.mk.inj h2;exact aIo h1
theorem aDa {B:Nat} {p R:List Rat} {t T:Rat} (h:gO B p t=some (R,T)):R.length<=p.length:=by
 unfold gO at h;split at h
 ·rename_i h0;injection h with h;obtain⟨rfl,_⟩:=Prod.mk.inj h;exact Nat.zero_le _
 ·obtain⟨D,_,h⟩:=Option.bind_eq_some_iff.1 h;split at h
  ·injection h with h;obtain⟨rfl,_⟩:=Prod.mk.inj h;exact oV _ _
  ·cases h
theorem aUn {B:Nat} {a b z:List Rat × Rat} (h:oM B a b=some z) (h0:b.1≠[]):z.1.length<b.1.length:=by
 unfold oM at h;obtain⟨f,_,h⟩:=Option.bind_eq_some_iff.1 h;split at h
 ·obtain⟨⟨U,R0⟩,h3,h⟩:=Option.bind_eq_some_iff.1 h;have h1:=aIn h3 h0;have h2:=aDa (R:=z.1) (T:=z.2) h;show z.1.length<_;exact Nat.lt_of_le_of_lt h2 h1
 ·cases h
theorem aSk {B:Nat} {a b z:List Rat × Rat} (hB:B<=300000) (hp:a.1.length<=1000000) (hq:b.1.length<=1000000) (hq0:b.1≠[]) (h0:aD [(1:Rat)] B=true) (h:oM B a b=some z):aC Tryz.prog 97 [EL a.1 B a.2 B,EL b.1 B b.2 B] (.one (EL z.1 B z.2 B)) :=
 aSj a.1 b.1 z.1 a.2 b.2 z.2 B hB hp hq hq0 h0 h fun U R0 f q=>by
  have:=aIn q hq0;omega
def kW (B:Nat):Nat->List (List Rat × Rat)->List Rat × Rat->Option (List (List Rat × Rat))
 | 0,_,_=>none
 | n+1,l,nx=>if 0<nx.1.length then (oM B (l.getD (l.length-1) ([],0)) nx).bind fun z=>kW B n (l++[nx]) z else some l
theorem aUa {B n:Nat} {l R:List (List Rat × Rat)} {nx:List Rat × Rat} (h:kW B n l nx=some R) (hl:0<nx.1.length):∃ m z,oM B (l.getD (l.length-1) ([],0)) nx=some z/\kW B m (l++[nx]) z=some R:=by
 cases n with
 | zero=>cases h
 | succ n =>
  rw[kW,if_pos hl] at h;obtain⟨z,h1,h2⟩:=Option.bind_eq_some_iff.1 h;exact⟨n,z,h1,h2⟩
theorem aWa {B n:Nat} {l R:List (List Rat × Rat)} {nx:List Rat × Rat} (h:kW B n l nx=some R) (hl:¬ 0<nx.1.length):R=l:=by
 cases n with
 | zero=>cases h
 | succ n =>
  rw[kW,if_neg hl] at h;injection h with h;exact h.symm
def fY (l:List (List Rat × Rat)) (B:Nat):List (SA Dm):=l.map fun e=>EL e.1 B e.2 B
abbrev vK (l:List (List Rat × Rat)) (B:Nat):SA Dm:=.d (Dm.gen (cM (some 5) (fY l B)))
theorem nT {l:List (List Rat × Rat)} {B:Nat}:(fY l B).length=l.length:=by simp[fY]
theorem aFe {l:List (List Rat × Rat)} {B i:Nat} (h:i<l.length):(fY l B)[i]?=some (EL (l.getD i ([],0)).1 B (l.getD i ([],0)).2 B):=by
 simp[fY,List.getD_eq_getElem?_getD,List.getElem?_eq_getElem h]
theorem aDt {l:List (List Rat × Rat)} {B:Nat}:(fY l B).flatMap SA.ptrs=[]:=by
 rw[List.flatMap_eq_nil_iff];intro s hs;obtain⟨e,_,rfl⟩:=List.mem_map.1 hs;rfl
theorem aCm {l m:List (List Rat × Rat)} {B:Nat}:fY (l++m) B=fY l B++fY m B:=by simp[fY]
theorem aIl {l:List (List Rat × Rat)} {B:Nat}:∀ s∈fY l B,s.plain=true:=by
 intro s hs;obtain⟨e,_,rfl⟩:=List.mem_map.1 hs;rfl
theorem aJ8 {l:List (List Rat × Rat)} {B:Nat}:∀ s∈fY l B,s.kind=some (some 5):=by
 intro s hs;obtain⟨e,_,rfl⟩:=List.mem_map.1 hs;rfl
theorem aNd:(Tryz.prog.info? 72).map (fun i=>(i.size,i.zero))=some (5,some (.agg #[.slice none 0 0,.bool false,.slice none 0 0,.bool false,.slice none 0 0])):=by kernel_rfl
theorem aXb:(Tryz.prog.info? 72).map (fun i=>(i.zero,i.size,i.bytes))=some (some (.agg #[.slice none 0 0,.bool false,.slice none 0 0,.bool false,.slice none 0 0]),5,88):=by kernel_rfl
def aBk (l:List (List Rat × Rat)):Prop:=0<l.length/\∀ e∈l,e.1.length<=1000
theorem aSe {l:List (List Rat × Rat)} (h:aBk l):(l.getD (l.length-1) ([],0)).1.length<=1000:=by
 have h0:=h.1;refine h.2 _ ?_;rw[List.getD_eq_getElem?_getD,List.getElem?_eq_getElem (by omega)];exact List.getElem_mem _
theorem aSd {l:List (List Rat × Rat)} {e:List Rat × Rat} (h:aBk l) (he:e.1.length<=1000):aBk (l++[e]):=by
 refine⟨by rw[List.length_append]; have:=h.1; omega,fun x hx=>?_⟩;rcases List.mem_append.1 hx with q | q
 ·exact h.2 x q
 ·rw[List.mem_singleton.1 q]; exact he
section
variable (p F:List Rat) (a b:List Rat × Rat) (L:List (List Rat × Rat)) (B n:Nat) (hB:B<=300000) (hp:p.length<=1000000) (hF:jA B p=some F) (hl:F.length<=1000) (hF0:F≠[]) (h0:aD [(1:Rat)] B=true) (h1:gO B F 1=some a) (h2:aD (bO F) B=true) (h3:gO B (bO F) 1=some b) (h4:kW B n [a] b=some L)
include hB hp hF hl hF0 h0 h1 h2 h3 h4
theorem aOp:aC Tryz.prog 48 [PL p B] (.one (vK L B)):=by
 have e11:Rat.divInt 1 1=1:=by decide
 have hFl:=List.length_pos_iff.2 hF0;have hdl:=vS F;have hal:a.1.length<=1000:=(by have:=aDa (R:=a.1) (T:=a.2) h1; omega)
 have hbl:b.1.length<=1000:=(by have:=aDa (R:=b.1) (T:=b.2) h3; omega)
 refine aC.of (n:=39) Tryz.func48 rfl rfl rfl rfl rfl fun cx hfr=>?_;refine sr rfl ?_;refine xn ?_;refine RV.done (sr rfl ?_);refine xm ?_;refine xc (aC7 p F B hB hp hF) Tryz.func94 (xa rfl) hfr ?_;refine xn ?_;refine RV.done ?_;refine CV.seq ?_;refine sr rfl ?_;refine xm ?_;refine p1 (bY bL bG) ?_;refine p1 (dF) ?_;refine RV.done ?_;refine CV.cond rfl (fun hc=>False.elim (by have:=of_decide_eq_true hc; omega)) (fun hc=>?_);refine CV.skip ?_;refine sr rfl ?_;refine xd rfl ((pM 1 1 (by decide) (by decide) (by decide) (by decide)).mono (fun _ _ _ _ h=>h) (fun L ρ w v h=>dY h0 L ρ w v (xQ e11 L ρ w v h))) Tryz.func57 (xb rfl rfl) hfr ?_;refine p2 (aV (i:=0) bS) ?_;refine p1 (aP (aB).2) ?_;refine RV.done (sr rfl ?_);refine xm ?_;refine p1 (aG aB) ?_;refine xd rfl (aCc F 1 B a.1 a.2 hB (by omega) h1) Tryz.func95 (xb rfl rfl) hfr ?_;refine p2 (aLe (r:=200) (k:=some 5) (xs:=[.tmp 15]) (ss:=fY [a] B) pO aNd rfl rfl rfl aJ8 aIl aDt rfl rfl bd (xa rfl) rfl rfl) ?_;refine xn ?_;refine RV.done ?_;refine CV.seq ?_;refine CV.seq ?_;refine CV.region rfl (fun _=>by kernel_rfl) ?_;refine xm ?_;refine xd rfl ((aGr F B (by omega) (by omega)).mono (fun _ _ _ _ h=>h) (bI h2)) Tryz.func96 (xa rfl) hfr ?_;refine p1 (aG aB) ?_;refine xd rfl (aCc (bO F) 1 B b.1 b.2 hB (by omega) h3) Tryz.func95 (xb rfl rfl) hfr ?_;refine p2 (aV (i:=1) rU) ?_;refine p1 (aP (iK).2) ?_;refine bP (by kernel_rfl) ?_;refine CV.block ?_;refine CV.loop (X:={z:Nat × List (List Rat × Rat) × (List Rat × Rat) // kW B z.1 z.2.1 z.2.2=some L/\aBk z.2.1/\z.2.2.1.length<=1000/\z.2.1.length+z.2.2.1.length<=1001}) (fun z=>[(.s 5,.av (.one (.sl 200 (fY z.1.2.1 B).length))),(.b 200,.row 72 (some 5) (fY z.1.2.1 B)),(.s 6,.av (.one (.ptr 1 0))),(.b 1,.blk 72 [(some 5,EL z.1.2.2.1 B z.1.2.2.2 B)])]) (fun z=>z.1.2.2.1.length) ⟨(n,[a],b),h4,⟨Nat.zero_lt_succ _,fun e he=>by rw[List.mem_singleton.1 he]; exact hal⟩,hbl,by show 1+b.1.length<=1001; omega⟩ (bQ.mk ⟨aF _,aF _,aF _,aF _,trivial⟩ rfl rfl) (fun z=>?_);obtain⟨⟨n,l,nx⟩,hs,hok,hnx,hln⟩:=z;simp only at hs hok hnx hln |-;refine CV.seq ?_;refine sr rfl ?_;refine p1 (bJ qN) ?_;refine p1 (bN 0 qK cR) ?_;refine p1 (bY bL bG) ?_;refine p1 (iC) ?_;refine RV.done ?_;refine CV.cond rfl (fun hc=>?_) (fun hc=>?_)
 ·have hlt:0<nx.1.length:=(by have:=of_decide_eq_true hc; omega)
  have hn0:=List.length_pos_iff.1 hlt;obtain⟨m,z,o1,o2⟩:=aUa hs hlt;have hzl:=aUn o1 hn0;have hok0:=hok.1;have hla:=aSe hok;have eg:(l++[nx]).getD (l.length-1) ([],0)=l.getD (l.length-1) ([],0):=(by simp only[List.getD_eq_getElem?_getD]; rw[List.getElem?_append_left (by omega)])
  refine CV.skip ?_;refine CV.seq ?_;refine CV.block ?_;refine CV.region rfl (fun h=>nomatch h) ?_;refine xm ?_;refine p1 (aG iK) ?_;refine p1 (iH (k:=some 5) (xs:=[.tmp 34]) (ss:=fY [nx] B) (G:=Dm.gen (cM (some 5) (fY [nx] B))) (dS _ _) pO aNd rfl rfl rfl aJ8 aDt rfl rfl bd (xa rfl)) ?_;refine lI (aS.plain (rJ (r:=200) (r':=201) (k:=some 5) (nW (by decide) aDt) (by rw[nT,nT]; simp; omega) (by rw[nT,nT]; simp; omega) pO aXb rfl rfl rfl aIl rfl rfl rfl bd rfl rfl rfl rfl rfl rfl rfl rfl) rfl) ?_;refine xn ?_;refine RV.done ?_;refine CV.seq ?_;refine sr rfl ?_;refine p1 (aG iK) ?_;refine RV.done ?_;refine CV.region rfl (fun h=>nomatch h) ?_;refine p2 (aV (i:=2) rU) ?_;refine p1 (aP (iK).2) ?_;refine RV.done ?_;refine CV.region rfl (fun _=>by kernel_rfl) ?_;refine xm ?_;refine xm ?_;refine p1 (mV pO) ?_;refine p1 (eD (c:=((l.length-1:Nat):Int)) (by rw[nT,nT,List.length_singleton,cF (by omega) (by omega)]; omega) rfl rfl bd rfl rfl) ?_;refine p1 (oC (i:=l.length-1) (m:=(fY l B).length+(fY [nx] B).length) (l:=fY l B++fY [nx] B) (by rw[nT,nT]; omega) (by rw[List.length_append]; exact Nat.le_refl _) pO aFo rfl rfl bd rfl rfl rfl) ?_;refine p1 (uD (i:=l.length-1) (by rw[<- aCm]; exact aFe (by rw[List.length_append]; omega)) rfl iK (by decide) rfl rfl bd rfl rfl) ?_;refine p1 (aG iK) ?_;refine xd rfl (aSk (a:=(l++[nx]).getD (l.length-1) ([],0)) hB (by rw[eg]; omega) (by omega) hn0 h0 (by rw[eg]; exact o1)) Tryz.func97 (xb rfl rfl) hfr ?_;refine p1 (aP (iK).2) ?_;refine bP (by kernel_rfl) ?_;exact⟨⟨(m,l++[nx],z),o2,aSd hok hnx,by show z.1.length<=1000; omega,by show (l++[nx]).length+z.1.length<=1001; rw[List.length_append]; show l.length+1+z.1.length<=1001; omega⟩,oE (fun i=>if i=200 then 201 else if i=1 then 2 else i) ⟨pZ rfl (by rw[aCm,List.length_append]),gS aCm.symm,fun _ _ _ _ h=>h,⟨rfl,fun _ _ _ _ h=>h⟩,trivial⟩ rfl rfl rfl rfl,hzl⟩
 ·refine CV.exit ?_;refine CV.seq ?_;have hL:=aWa hs (by have:=of_decide_eq_false hc; omega);subst hL;refine nX (r:=200) (t:=5) (G:=Dm.gen (cM (some 5) (fY L B))) (cx.bw hfr) rfl rfl rfl rfl rfl (dS _ _) (lC _ _) ?_;refine CV.region rfl (fun h=>nomatch h) ?_;refine xm ?_;refine xn ?_;refine RV.done ?_;refine CV.ret ?_;exact aW rfl (.inr rfl) rfl cH
end
theorem aVs {B:Nat}:∀ (L:Nat->Prop) (ρ:aX) (w:World) (v:Value),(SA.v (.slice none 0 0):SA Dm).is L ρ w v->(AV.one (vK [] B)).is L ρ w v:=by
 intro L ρ w v h w' _;obtain rfl:v=_:=h;exact⟨none,0,rfl,⟨Nat.le_refl _,by decide⟩,fun h=>absurd h (Nat.lt_irrefl 0)⟩
theorem aOq (p:List Rat) (B:Nat) (hB:B<=300000) (hp:p.length<=1000000) (hF:jA B p=some []):aC Tryz.prog 48 [PL p B] (.one (vK [] B)):=by
 refine aC.of (n:=39) Tryz.func48 rfl rfl rfl rfl rfl fun cx hfr=>?_;refine sr rfl ?_;refine xn ?_;refine RV.done (sr rfl ?_);refine xm ?_;refine xc (aC7 p [] B hB hp hF) Tryz.func94 (xa rfl) hfr ?_;refine xn ?_;refine RV.done ?_;refine CV.seq ?_;refine sr rfl ?_;refine xm ?_;refine p1 (bY (m:=0) rfl bG) ?_;refine p1 (dF) ?_;refine RV.done ?_;refine CV.cond rfl (fun hc=>?_) (fun hc=>False.elim (by revert hc; decide));refine sr rfl ?_;refine xn ?_;refine RV.done ?_;refine CV.ret ?_;exact aW rfl (.inr rfl) rfl aVs
def mQ (B:Nat) (p:List Rat):Option (List (List Rat × Rat)) :=
 (jA B p).bind fun F=>if F=[] then some [] else if (aD [(1:Rat)] B&&(aD (bO F) B&&decide (F.length<=1000)))=true then (gO B F 1).bind fun a=>(gO B (bO F) 1).bind fun b=>kW B (F.length+2) [a] b else none
theorem aGh (p:List Rat) (L:List (List Rat × Rat)) (B:Nat) (hB:B<=300000) (hp:p.length<=1000000) (h:mQ B p=some L):aC Tryz.prog 48 [PL p B] (.one (vK L B)):=by
 unfold mQ at h;obtain⟨F,h1,h⟩:=Option.bind_eq_some_iff.1 h;split at h
 ·rename_i h0;injection h with h;subst h0; subst h;exact aOq p B hB hp h1
 ·rename_i h0;split at h
  ·rename_i h2;rw[Bool.and_eq_true,Bool.and_eq_true,decide_eq_true_eq] at h2;obtain⟨a,h3,h⟩:=Option.bind_eq_some_iff.1 h;obtain⟨b,h4,h⟩:=Option.bind_eq_some_iff.1 h;exact aOp p F a b L B (F.length+2) hB hp h1 h2.2.2 h0 h2.1 h3 h2.2.1 h4 h
  ·cases h
/-! Lists of polynomials. -/
def fF (l:List (List Rat)) (B:Nat):List (SA Dm):=l.map fun p=>PL p B
abbrev mR (l:List (List Rat)) (B:Nat):SA Dm:=.d (Dm.gen (cM none (fF l B)))
theorem mA {l:List (List Rat)} {B:Nat}:(fF l B).length=l.length:=by simp[fF]
theorem aEe {l:List (List Rat)} {B i:Nat} (h:i<l.length):(fF l B)[i]?=some (PL (l.getD i []) B):=by
 simp[fF,List.getD_eq_getElem?_getD,List.getElem?_eq_getElem h]
theorem wC {l:List (List Rat)} {B:Nat}:(fF l B).flatMap SA.ptrs=[]:=by
 rw[List.flatMap_eq_nil_iff];intro s hs;obtain⟨e,_,rfl⟩:=List.mem_map.1 hs;rfl
theorem yS {l m:List (List Rat)} {B:Nat}:fF (l++m) B=fF l B++fF m B:=by simp[fF]
theorem aG3 {l:List (List Rat)} {B:Nat}:∀ s∈fF l B,s.plain=true:=by
 intro s hs;obtain⟨e,_,rfl⟩:=List.mem_map.1 hs;rfl
theorem aCx {l:List (List Rat)} {B:Nat}:∀ s∈fF l B,s.kind=some none:=by
 intro s hs;obtain⟨e,_,rfl⟩:=List.mem_map.1 hs;rfl
theorem mF:Tryz.prog.underlying 34=some (.slice 24):=by kernel_rfl
theorem aD5:(Tryz.prog.info? 24).map (fun i=>(i.size,i.zero))=some (1,some (.slice none 0 0)):=by kernel_rfl
theorem aJ3:(Tryz.prog.info? 24).map (fun i=>(i.zero,i.size,i.bytes))=some (some (.slice none 0 0),1,24):=by kernel_rfl
theorem yW {α β:Type} (f:α -> β) (l:List α) {k:Nat} (h:k<l.length) (d:α):(l.take k).map f++[f (l.getD k d)]=(l.take (k+1)).map f:=by
 rw[List.take_add_one,List.map_append,List.getElem?_eq_getElem h,List.getD_eq_getElem?_getD,List.getElem?_eq_getElem h];rfl
theorem aHp (p:List Rat) (L:List (List Rat × Rat)) (B:Nat) (hB:B<=300000) (hp:p.length<=1000000) (h:mQ B p=some L) (hL:L.length<=1000000):aC Tryz.prog 64 [PL p B] (.one (mR (L.map (·.1)) B)):=by
 refine aC.of (n:=20) Tryz.func64 rfl rfl rfl rfl rfl fun cx hfr=>?_;refine sr rfl ?_;refine xn ?_;refine RV.done (sr rfl ?_);refine xn ?_;refine RV.done ?_;refine CV.seq ?_;refine CV.seq ?_;refine tX 3 100 24 none rfl rfl rfl rfl ?_;refine CV.region rfl (fun h=>nomatch h) ?_;refine xm ?_;refine xc (aGh p L B hB hp h) Tryz.func48 (xa rfl) hfr ?_;refine p1 (bY nT pO) ?_;refine xm ?_;refine RV.done ?_;refine CV.block ?_;refine CV.loop (X:={k:Nat // k<=L.length}) (fun k=>[(.s 9,.av (.one (.v (.int .i64 (k.1:Int))))),(.s 8,.av (.one (.v (.int .i64 (L.length:Int))))),(.s 7,.av (.one (vK L B))),(.s 3,.av (.one (.sl 100 (fF ((L.take k.1).map (·.1)) B).length))),(.b 100,.row 24 none (fF ((L.take k.1).map (·.1)) B))]) (fun k=>L.length-k.1) ⟨0,Nat.zero_le _⟩ (bQ.mk ⟨aF _,aF _,aF _,aF _,aF _,trivial⟩ rfl rfl) (fun k=>?_);obtain⟨k,hk⟩:=k;simp only;refine sr rfl ?_;refine p1 (eE) ?_;refine RV.done ?_;refine CV.seq ?_;refine CV.cond rfl (fun hc=>?_) (fun hc=>?_)
 ·have hlt:k<L.length:=(by have:=of_decide_eq_true hc; omega)
  refine CV.skip ?_;refine CV.seq ?_;refine CV.block ?_;refine sr rfl ?_;refine p1 (dT (k:=some 5) (i:=k) (aFe hlt) pO aFo) ?_;refine p1 (cD iK) ?_;refine p2 (aV (i:=0) rU) ?_;refine p1 (aP (iK).2) ?_;refine RV.done ?_;refine CV.region rfl (fun h=>nomatch h) ?_;refine xm ?_;refine p1 (bJ qN) ?_;refine p1 (bN 0 qK cR) ?_;refine p1 (iH (k:=none) (xs:=[.tmp 15]) (ss:=fF [(L.getD k ([],0)).1] B) (G:=Dm.gen (cM none (fF [(L.getD k ([],0)).1] B))) (dS _ _) mF aD5 rfl rfl rfl aCx wC rfl rfl bd (xa rfl)) ?_;refine lI (aS.plain (rJ (r:=100) (r':=101) (k:=none) (nW (by decide) wC) (by rw[mA,mA,List.length_map,List.length_take]; simp; omega) (by rw[mA,mA,List.length_map,List.length_take]; simp; omega) mF aJ3 rfl rfl rfl aG3 rfl rfl rfl bd rfl rfl rfl rfl rfl rfl rfl rfl) rfl) ?_;refine xn ?_;refine RV.done ?_;refine CV.region rfl (fun h=>nomatch h) ?_;refine p1 (cU (c:=((k+1:Nat):Int)) (by rw[cF (by omega) (by omega)]; omega) rfl rfl bd rfl rfl) ?_;refine xm ?_;refine RV.done ?_;exact⟨⟨k+1,hlt⟩,oE (fun i=>if i=100 then 101 else i) ⟨mT,mT,fun _ _ _ _ h=>h,pZ rfl (by rw[<- yW _ _ hlt ([],0),yS,List.length_append]),gS (by rw[<- yW _ _ hlt ([],0),yS]),trivial⟩ rfl rfl rfl rfl,by show L.length-(k+1)<L.length-k; omega⟩
 ·refine CV.exit ?_;refine CV.seq ?_;have hk2:k=L.length:=(by have:=of_decide_eq_false hc; omega)
  subst hk2;rw[List.take_length];refine nX (r:=100) (t:=3) (G:=Dm.gen (cM none (fF (L.map (·.1)) B))) (cx.bw hfr) rfl rfl rfl rfl rfl (dS _ _) (lC _ _) ?_;refine CV.region rfl (fun h=>nomatch h) ?_;refine xm ?_;refine xn ?_;refine RV.done ?_;refine CV.ret ?_;exact aW rfl (.inr rfl) rfl cH
theorem aSv (p:List Rat) (L:List (List Rat × Rat)) (B:Nat) (hB:B<=300000) (hp:p.length<=1000000) (h:mQ B p=some L) (hL:L.length<=1000000) (hl:∀ e∈L,e.1.length<=1000000) (hz:∀ e∈L,aD (aI e.1 e.2) B=true):aC Tryz.prog 15 [PL p B] (.one (mR (L.map fun e=>aI e.1 e.2) B)):=by
 refine aC.of (n:=23) Tryz.func15 rfl rfl rfl rfl rfl fun cx hfr=>?_;refine sr rfl ?_;refine xn ?_;refine RV.done (sr rfl ?_);refine xn ?_;refine RV.done ?_;refine CV.seq ?_;refine CV.seq ?_;refine tX 3 100 24 none rfl rfl rfl rfl ?_;refine CV.region rfl (fun h=>nomatch h) ?_;refine xm ?_;refine xc (aGh p L B hB hp h) Tryz.func48 (xa rfl) hfr ?_;refine p1 (bY nT pO) ?_;refine xm ?_;refine RV.done ?_;refine CV.block ?_;refine CV.loop (X:={k:Nat // k<=L.length}) (fun k=>[(.s 9,.av (.one (.v (.int .i64 (k.1:Int))))),(.s 8,.av (.one (.v (.int .i64 (L.length:Int))))),(.s 7,.av (.one (vK L B))),(.s 3,.av (.one (.sl 100 (fF ((L.take k.1).map fun e=>aI e.1 e.2) B).length))),(.b 100,.row 24 none (fF ((L.take k.1).map fun e=>aI e.1 e.2) B))]) (fun k=>L.length-k.1) ⟨0,Nat.zero_le _⟩ (bQ.mk ⟨aF _,aF _,aF _,aF _,aF _,trivial⟩ rfl rfl) (fun k=>?_);obtain⟨k,hk⟩:=k;simp only;refine sr rfl ?_;refine p1 (eE) ?_;refine RV.done ?_;refine CV.seq ?_;refine CV.cond rfl (fun hc=>?_) (fun hc=>?_)
 ·have hlt:k<L.length:=(by have:=of_decide_eq_true hc; omega)
  have hmem:L.getD k ([],0)∈L:=(by rw[List.getD_eq_getElem?_getD,List.getElem?_eq_getElem hlt]; exact List.getElem_mem _)
  refine CV.skip ?_;refine CV.seq ?_;refine CV.block ?_;refine sr rfl ?_;refine p1 (dT (k:=some 5) (i:=k) (aFe hlt) pO aFo) ?_;refine p1 (cD iK) ?_;refine p2 (aV (i:=0) rU) ?_;refine p1 (aP (iK).2) ?_;refine RV.done ?_;refine CV.region rfl (fun h=>nomatch h) ?_;refine xm ?_;refine p1 (bJ qN) ?_;refine p1 (bN 0 qK cR) ?_;refine p1 (bJ aM0) ?_;refine p1 (bN 1 aMz aB) ?_;refine xd rfl ((iS (L.getD k ([],0)).1 (L.getD k ([],0)).2 B B (by omega) (by omega) (hl _ hmem)).mono (fun _ _ _ _ h=>h) (bI (hz _ hmem))) Tryz.func38 (xb rfl rfl) hfr ?_;refine p1 (iH (k:=none) (xs:=[.tmp 18]) (ss:=fF [aI (L.getD k ([],0)).1 (L.getD k ([],0)).2] B) (G:=Dm.gen (cM none (fF [aI (L.getD k ([],0)).1 (L.getD k ([],0)).2] B))) (dS _ _) mF aD5 rfl rfl rfl aCx wC rfl rfl bd (xa rfl)) ?_;refine lI (aS.plain (rJ (r:=100) (r':=101) (k:=none) (nW (by decide) wC) (by rw[mA,mA,List.length_map,List.length_take]; simp; omega) (by rw[mA,mA,List.length_map,List.length_take]; simp; omega) mF aJ3 rfl rfl rfl aG3 rfl rfl rfl bd rfl rfl rfl rfl rfl rfl rfl rfl) rfl) ?_;refine xn ?_;refine RV.done ?_;refine CV.region rfl (fun h=>nomatch h) ?_;refine p1 (cU (c:=((k+1:Nat):Int)) (by rw[cF (by omega) (by omega)]; omega) rfl rfl bd rfl rfl) ?_;refine xm ?_;refine RV.done ?_;exact⟨⟨k+1,hlt⟩,oE (fun i=>if i=100 then 101 else i) ⟨mT,mT,fun _ _ _ _ h=>h,pZ rfl (by rw[<- yW (fun e:List Rat × Rat=>aI e.1 e.2) _ hlt ([],0),yS,List.length_append]),gS (by rw[<- yW (fun e:List Rat × Rat=>aI e.1 e.2) _ hlt ([],0),yS]),trivial⟩ rfl rfl rfl rfl,by show L.length-(k+1)<L.length-k; omega⟩
 ·refine CV.exit ?_;refine CV.seq ?_;have hk2:k=L.length:=(by have:=of_decide_eq_false hc; omega)
  subst hk2;rw[List.take_length];refine nX (r:=100) (t:=3) (G:=Dm.gen (cM none (fF (L.map fun e=>aI e.1 e.2) B))) (cx.bw hfr) rfl rfl rfl rfl rfl (dS _ _) (lC _ _) ?_;refine CV.region rfl (fun h=>nomatch h) ?_;refine xm ?_;refine xn ?_;refine RV.done ?_;refine CV.ret ?_;exact aW rfl (.inr rfl) rfl cH
def cK (a:Rat):Int:=bB a.num 0
theorem aE2 (a:Rat) : -1<=cK a/\cK a<=1:=by
 unfold cK bB;split
 ·omega
 ·split<;>omega
theorem wJ (p:List Rat) (x:Rat) (K Kx:Nat) (hp:p.length<=1000000) (hK:K<=1000000) (hKx:Kx<=1000000) (hK1:1<=K) (hKx1:1<=Kx) (hpz:aD p K=true) (hxz:aD [x] Kx=true) (hbd:gZ K Kx p.length<=1000000):aC Tryz.prog 49 [PL p K,RT x Kx] (.one (.v (.int .i64 (cK (ev p x))))):=by
 refine aC.of (n:=9) Tryz.func49 rfl rfl rfl rfl rfl fun cx hfr=>?_;refine sr rfl ?_;refine p2 (cG (i:=0)) ?_;refine xn ?_;refine RV.done (sr rfl ?_);refine xm ?_;refine p1 (aG aB) ?_;refine xc (aSr p x K Kx hp hK hKx hK1 hKx1 hpz hxz hbd) Tryz.func99 (xb rfl rfl) hfr ?_;refine xc (zH _ _) Tryz.func98 (xa rfl) hfr ?_;refine xn ?_;refine RV.done ?_;refine CV.ret ?_;rw[aV3];exact aW rfl (.inr rfl) rfl cH
def iL (x:Rat):List (List Rat)->Int × Int->Int × Int
 | [],s=>s
 | p::l,s=>iL x l (if cK (ev p x)*s.2<0 then s.1+1 else s.1,if cK (ev p x)≠0 then cK (ev p x) else s.2)
def bM (x:Rat) (l:List (List Rat)):Int:=(iL x l (0,0)).1
theorem aSf {l:List (List Rat)} {k:Nat} (h:k<l.length):l.drop k=l.getD k []::l.drop (k+1):=by
 rw[List.drop_eq_getElem_cons h];simp[List.getD_eq_getElem?_getD,List.getElem?_eq_getElem h]
theorem aWy {a b:Int} (ha : -1<=a/\a<=1) (hb : -1<=b/\b<=1) : -1<=a*b/\a*b<=1:=by
 rcases (by omega:a = -1\/a=0\/a=1) with rfl | rfl | rfl<;>omega
def fR (l:List (List Rat)) (x:Rat) (K Kx:Nat):Prop:=K<=1000000/\Kx<=1000000/\1<=K/\1<=Kx/\aD [x] Kx=true/\∀ p∈l,p.length<=1000000/\aD p K=true/\gZ K Kx p.length<=1000000
theorem yV (l:List (List Rat)) (x:Rat) (K Kx:Nat) (hl:l.length<=1000000) (hE:fR l x K Kx):aC Tryz.prog 16 [mR l K,RT x Kx] (.one (.v (.int .i64 (bM x l)))):=by
 obtain⟨hK,hKx,hK1,hKx1,hxz,hall⟩:=hE;have hR:iL x (l.drop 0) (0,0)=iL x l (0,0):=by rw[List.drop_zero]
 refine aC.of (n:=30) Tryz.func16 rfl rfl rfl rfl rfl fun cx hfr=>?_;refine sr rfl ?_;refine p2 (cG (i:=0)) ?_;refine xn ?_;refine RV.done (sr rfl ?_);refine xn ?_;refine xn ?_;refine RV.done ?_;refine CV.seq ?_;refine sr rfl ?_;refine xm ?_;refine p1 (bY mA mF) ?_;refine xm ?_;refine RV.done ?_;refine CV.block ?_;refine CV.loop (X:={z:Nat × Int × Int // z.1<=l.length/\iL x (l.drop z.1) z.2=iL x l (0,0)/\(0<=z.2.1/\z.2.1<=z.1)/\(-1<=z.2.2/\z.2.2<=1)}) (fun z=>[(.s 12,.av (.one (.v (.int .i64 (z.1.1:Int))))),(.s 11,.av (.one (.v (.int .i64 (l.length:Int))))),(.s 10,.av (.one (mR l K))),(.s 5,.av (.one (.v (.int .i64 z.1.2.1)))),(.s 6,.av (.one (.v (.int .i64 z.1.2.2)))),(.s 3,.av (.one (.ptr 0 0))),(.b 0,.blk 31 [(some 4,RT x Kx)])]) (fun z=>l.length-z.1.1) ⟨(0,0,0),Nat.zero_le _,hR,by decide,by decide⟩ (bQ.mk ⟨aF _,aF _,aF _,aF _,aF _,aF _,aF _,trivial⟩ rfl rfl) (fun z=>?_);obtain⟨⟨k,n,b⟩,hk,hs,hn,hb1⟩:=z;simp only at hk hs hn hb1 |-;refine sr rfl ?_;refine p1 (eE) ?_;refine RV.done ?_;refine CV.seq ?_;refine CV.cond rfl (fun hc=>?_) (fun hc=>?_)
 ·have hlt:k<l.length:=(by have:=of_decide_eq_true hc; omega)
  have hmem:l.getD k []∈l:=(by rw[List.getD_eq_getElem?_getD,List.getElem?_eq_getElem hlt]; exact List.getElem_mem _)
  obtain⟨q1,q2,q3⟩:=hall _ hmem;rw[aSf hlt,iL] at hs;have hg:=aE2 (ev (l.getD k []) x);have hm:=aWy hg hb1;simp only at hs;refine CV.skip ?_;refine CV.seq ?_;refine CV.block ?_;refine sr rfl ?_;refine p1 (dT (k:=none) (i:=k) (aEe hlt) mF uA) ?_;refine p1 (cD cR) ?_;refine xn ?_;refine RV.done (sr rfl ?_);refine xm ?_;refine p1 (aG aB) ?_;refine xc (wJ (l.getD k []) x K Kx q1 hK hKx hK1 hKx1 q2 hxz q3) Tryz.func49 (xb rfl rfl) hfr ?_;refine xn ?_;refine RV.done ?_;refine CV.seq ?_;refine sr rfl ?_;refine xm ?_;refine xm ?_;refine p1 (aW6 (c:=cK (ev (l.getD k []) x)*b) (cF (by omega) (by omega)) rfl rfl bd rfl rfl) ?_;refine p1 (eE) ?_;refine RV.done ?_;refine CV.cond rfl (fun hx1=>?_) (fun hx1=>?_)
  ·refine CV.region rfl (fun h=>nomatch h) ?_;refine xm ?_;refine p1 (cU (c:=n+1) (cF (by omega) (by omega)) rfl rfl bd rfl rfl) ?_;refine xn ?_;refine RV.done (sr rfl ?_);refine xm ?_;refine p1 (uQ) ?_;refine RV.done ?_;refine CV.cond rfl (fun hx2=>?_) (fun hx2=>?_)
   ·refine CV.region rfl (fun h=>nomatch h) ?_;refine xm ?_;refine xn ?_;refine RV.done ?_;refine CV.region rfl (fun h=>nomatch h) ?_;refine p1 (cU (c:=((k+1:Nat):Int)) (by rw[cF (by omega) (by omega)]; omega) rfl rfl bd rfl rfl) ?_;refine xm ?_;refine RV.done ?_;have h1:=of_decide_eq_true hx1;have h2:cK (ev (l.getD k []) x)≠0:=(by simpa using hx2)
    rw[if_pos h1,if_pos h2] at hs;exact⟨⟨(k+1,n+1,cK (ev (l.getD k []) x)),hlt,hs,⟨by show 0<=n+1; omega,by show n+1<=((k+1:Nat):Int); omega⟩,hg⟩,bQ.mk ⟨aF _,aF _,aF _,aF _,aF _,aF _,aF _,trivial⟩ rfl rfl,by show l.length-(k+1)<l.length-k; omega⟩
   ·refine CV.skip ?_;refine CV.region rfl (fun h=>nomatch h) ?_;refine p1 (cU (c:=((k+1:Nat):Int)) (by rw[cF (by omega) (by omega)]; omega) rfl rfl bd rfl rfl) ?_;refine xm ?_;refine RV.done ?_;have h1:=of_decide_eq_true hx1;have h2:¬ cK (ev (l.getD k []) x)≠0:=(by simpa using hx2)
    rw[if_pos h1,if_neg h2] at hs;exact⟨⟨(k+1,n+1,b),hlt,hs,⟨by show 0<=n+1; omega,by show n+1<=((k+1:Nat):Int); omega⟩,hb1⟩,bQ.mk ⟨aF _,aF _,aF _,aF _,aF _,aF _,aF _,trivial⟩ rfl rfl,by show l.length-(k+1)<l.length-k; omega⟩
  ·refine CV.skip ?_;refine sr rfl ?_;refine xm ?_;refine p1 (uQ) ?_;refine RV.done ?_;refine CV.cond rfl (fun hx2=>?_) (fun hx2=>?_)
   ·refine CV.region rfl (fun h=>nomatch h) ?_;refine xm ?_;refine xn ?_;refine RV.done ?_;refine CV.region rfl (fun h=>nomatch h) ?_;refine p1 (cU (c:=((k+1:Nat):Int)) (by rw[cF (by omega) (by omega)]; omega) rfl rfl bd rfl rfl) ?_;refine xm ?_;refine RV.done ?_;have h1:=of_decide_eq_false hx1;have h2:cK (ev (l.getD k []) x)≠0:=(by simpa using hx2)
    rw[if_neg h1,if_pos h2] at hs;exact⟨⟨(k+1,n,cK (ev (l.getD k []) x)),hlt,hs,⟨hn.1,by show n<=((k+1:Nat):Int); omega⟩,hg⟩,bQ.mk ⟨aF _,aF _,aF _,aF _,aF _,aF _,aF _,trivial⟩ rfl rfl,by show l.length-(k+1)<l.length-k; omega⟩
   ·refine CV.skip ?_;refine CV.region rfl (fun h=>nomatch h) ?_;refine p1 (cU (c:=((k+1:Nat):Int)) (by rw[cF (by omega) (by omega)]; omega) rfl rfl bd rfl rfl) ?_;refine xm ?_;refine RV.done ?_;have h1:=of_decide_eq_false hx1;have h2:¬ cK (ev (l.getD k []) x)≠0:=(by simpa using hx2)
    rw[if_neg h1,if_neg h2] at hs;exact⟨⟨(k+1,n,b),hlt,hs,⟨hn.1,by show n<=((k+1:Nat):Int); omega⟩,hb1⟩,bQ.mk ⟨aF _,aF _,aF _,aF _,aF _,aF _,aF _,trivial⟩ rfl rfl,by show l.length-(k+1)<l.length-k; omega⟩
 ·refine CV.exit ?_;refine CV.seq ?_;have hk2:k=l.length:=(by have:=of_decide_eq_false hc; omega)
  rw[hk2,List.drop_length,iL] at hs;have hn2:n=bM x l:=(by rw[bM,<- hs])
  rw[hn2];refine CV.region rfl (fun h=>nomatch h) ?_;refine xm ?_;refine xn ?_;refine RV.done ?_;refine CV.ret ?_;exact aW rfl (.inr rfl) rfl cH
theorem aL0 (x:Rat):∀ (l:List (List Rat)) (s:Int × Int),s.1<=(iL x l s).1/\(iL x l s).1<=s.1+l.length
 | [],s=>by rw[iL]; exact⟨Int.le_refl _,by simp⟩
 | p::l,s=>by
  rw[iL];obtain⟨A,hA⟩:∃ A,A=(if cK (ev p x)*s.2<0 then s.1+1 else s.1):=⟨_,rfl⟩
  rw[<- hA];have h:=aL0 x l (A,if cK (ev p x)≠0 then cK (ev p x) else s.2);have h1:s.1<=A/\A<=s.1+1:=by rw[hA]; split<;>omega
  generalize (iL x l (A,if cK (ev p x)≠0 then cK (ev p x) else s.2)).1=C at h |-;have h2:A<=C/\C<=A+l.length:=h;rw[List.length_cons];omega
theorem mZ (x:Rat) (l:List (List Rat)):0<=bM x l/\bM x l<=l.length:=by
 have:=aL0 x l (0,0);simp only at this;unfold bM;omega
def gY (l:List (List Rat)) (lo hi:Rat):Int:=if cX lo hi >= 0 then 0 else bM lo l-bM hi l
theorem aIy (p:List Rat) (L:List (List Rat × Rat)) (lo hi:Rat) (B K:Nat) (hB:B<=300000) (hp:p.length<=1000000) (h:mQ B p=some L) (hL:L.length<=1000000) (h1:fR (L.map (·.1)) lo B K) (h2:fR (L.map (·.1)) hi B K):aC Tryz.prog 25 [PL p B,RT lo K,RT hi K] (.one (.v (.int .i64 (gY (L.map (·.1)) lo hi)))):=by
 have hll:(L.map (·.1)).length<=1000000:=by rw[List.length_map]; exact hL
 have b1:=mZ lo (L.map (·.1));have b2:=mZ hi (L.map (·.1));have hK7:=h1.2.1;refine aC.of (n:=21) Tryz.func25 rfl rfl rfl rfl rfl fun cx hfr=>?_;refine sr rfl ?_;refine p2 (cG (i:=0)) ?_;refine p2 (cG (i:=1)) ?_;refine xn ?_;refine RV.done ?_;refine CV.seq ?_;refine sr rfl ?_;refine p1 (aG aB) ?_;refine p1 (aG aB) ?_;refine xd rfl (yR lo hi K K (by omega) (by omega)) Tryz.func55 (xb rfl rfl) hfr ?_;refine p1 (xA) ?_;refine RV.done ?_;refine CV.cond rfl (fun hc=>?_) (fun hc=>?_)
 ·refine sr rfl ?_;refine xn ?_;refine RV.done ?_;refine CV.ret ?_;rw[gY,if_pos (of_decide_eq_true hc)];exact aW rfl (.inr rfl) rfl cH
 ·refine CV.skip ?_;refine sr rfl ?_;refine xm ?_;refine xc (aHp p L B hB hp h hL) Tryz.func64 (xa rfl) hfr ?_;refine xn ?_;refine RV.done ?_;refine CV.seq ?_;refine CV.region rfl (fun _=>by kernel_rfl) ?_;refine xm ?_;refine p1 (aG aB) ?_;refine xc (yV (L.map (·.1)) lo B K hll h1) Tryz.func16 (xb rfl rfl) hfr ?_;refine xm ?_;refine p1 (aG aB) ?_;refine xc (yV (L.map (·.1)) hi B K hll h2) Tryz.func16 (xb rfl rfl) hfr ?_;refine p1 (eD (c:=bM lo (L.map (·.1))-bM hi (L.map (·.1))) (cF (by omega) (by omega)) rfl rfl bd rfl rfl) ?_;refine xn ?_;refine bP (by kernel_rfl) ?_;refine CV.ret ?_;rw[gY,if_neg (of_decide_eq_false hc)];exact aW rfl (.inr rfl) rfl cH
theorem aCh (lo hi:Rat) (j k:Nat) (hj:j<=1000000) (hk:k<=1000000):aC Tryz.prog 69 [RT lo j,RT hi k] (.one (RT ((lo+hi)*Rat.divInt 1 2) (3*(3*(j+k)+20+6)+20))):=by
 refine aC.of (n:=10) Tryz.func69 rfl rfl rfl rfl rfl fun cx hfr=>?_;refine sr rfl ?_;refine p2 (cG (i:=0)) ?_;refine p2 (cG (i:=1)) ?_;refine p2 (aV (i:=2) bS) ?_;refine RV.done (sr rfl ?_);refine p1 (aG aB) ?_;refine p1 (aG aB) ?_;refine xd rfl (wS lo hi j k (by omega) (by omega)) Tryz.func56 (xb rfl rfl) hfr ?_;refine xd rfl (pM 1 2 (by decide) (by decide) (by decide) (by decide)) Tryz.func57 (xb rfl rfl) hfr ?_;refine xd rfl (oA (lo+hi) (Rat.divInt 1 2) (3*(j+k)+20) 6 (by omega) (by omega)) Tryz.func87 (xb rfl rfl) hfr ?_;refine p1 (aP (aB).2) ?_;refine RV.done ?_;refine CV.ret ?_;exact aW rfl (.inr rfl) ⟨_,_,_,_,_,rfl,rfl,rfl,aB⟩ cH
end Vc
end Go.Proofs.YtjmbkipbmbnhjaaGreat

namespace Go.Proofs.YtjmbkipbmbnhjaaGreat
open Go.RowKit
open Dg Zn
namespace Vc
inductive Chn:List Rat->List Rat->List (List Rat)->Prop
 | nil (a:List Rat):Chn a [] []
 | cons {a b r:List Rat} {l:List (List Rat)}:aJ b=b->b≠[]->aJ r=r->r.length<b.length->(∃ W:List Rat,∀ x,ev a x+ev r x=ev W x*ev b x)->Chn b r l->Chn a b (b::l)
inductive pS (B:Nat):List Rat->List Rat->List (List Rat)->Prop
 | nil (a:List Rat):pS B a [] []
 | cons {a b U R:List Rat} {l:List (List Rat)}:aJ a=a->aD a B=true->aJ b=b->b≠[]->aD b B=true->dX B a b=some (U,R)->R.length<b.length->aD R B=true->pS B b (aI R (-1)) l->pS B a b (b::l)
structure yI (M X:Nat) (e:List Rat × Rat):Prop where
 tr:aJ e.1=e.1
 ne:e.1≠[]
 len:e.1.length<=M
 pos:0<e.2
 cm:Cm 1 e.1 X
 few:dH e.2 (2*X)
 cb:Cb (aI e.1 e.2) X
theorem rN {p:List Rat} {a:Rat} (hp:aJ p=p) (h0:p≠[]) (ha:a≠0):aI p a≠[]:=by
 intro h;have:=(kI hp ha).1;rw[h] at this;exact h0 (List.eq_nil_of_length_eq_zero this.symm)
theorem wO {p:List Rat} {c:Nat} (h:Cb p c):dH (aK p) c:=h.few (p.length-1)
theorem aUb {B Z M X:Nat} (hB:1<=B) (hZ:Z<=5*5*2^(M-1)*X) (hXB:6*X<=29*B) :
  ∀ (f:Nat) (l:List (List Rat × Rat)) (p q:List Rat) (s t:Rat) (c d:Nat),l.getD (l.length-1) ([],0)=(p,s)->q.length<f->aJ p=p->aJ q=q->p≠[]->q.length<p.length->p.length<=M->Cm 1 p c->Cm 1 q d->Cb (aI p s) c->Cb (aI q t) d->c<=X->d<=X->(2*(c+1)+5*(d+1))*jH M p.length<=Z->0<s->dH s (2*X)->(q≠[]->0<t/\dH t (2*X)) ->
  ∃ es,kW B f l (q,t)=some (l++es)/\(∀ z∈es,yI M X z)/\es.length<=q.length/\pS B (aI p s) (aI q t) (es.map fun z=>aI z.1 z.2):=by
 intro f
 induction f with
 | zero=>intro l p q s t c d _ h; omega
 | succ f ih =>
  intro l p q s t c d hl hf tp tq hp0 hlt hpM hpc hqd hpa hqa hcX hdX hP hs fs ht;rw[kW];by_cases hq:0<q.length
  ·rw[if_pos hq,hl];have hq0:q≠[]:=List.length_pos_iff.1 hq;obtain⟨ht0,ft⟩:=ht hq0;have ht1:t≠0:=by grind
   have hs1:s≠0:=by grind
   have hti:=Rat.mul_inv_cancel t ht1;obtain⟨g,hg⟩:∃ g,p.length=q.length+g:=⟨p.length-q.length,by omega⟩
   have hsteps:p.length+1-q.length=g+1:=by omega
   rw[hg] at hP;have hW:=aI3 (by omega) (by omega) hP;have hbd:=aCp hq (by omega) (Nat.le_trans (Nat.mul_le_mul_right _ (show 5*(c+(g+1)*(d+1)+1)<=_ by omega)) hW) hZ;have hmul:(g+1)*(d+1)=(g+1)*d+(g+1):=by rw[Nat.mul_add,Nat.mul_one]
   obtain⟨R,T,r1,r2,r3,r4,r5,r6,W,r7⟩:=aUm (s:=s) (t:=t) (e:=2*X) hB tp hp0 tq hq0 hpc hqd fs hs (by unfold vE; rw[hsteps]; omega) (by unfold vE; rw[hsteps]; omega);rw[hsteps] at r4 r5;obtain⟨la,_⟩:=kI tp hs1;obtain⟨lb,_⟩:=kI tq ht1;have hb0:=rN tq hq0 ht1;obtain⟨U,R',k1,k2,k3,k4,k5,k6,k7,k8⟩:=aC2 (p:=aI p s) (q:=aI q t) hB (cC _) (cC _) hb0 hpa hqa (by unfold oL; rw[la,lb,hsteps]; omega);have k8':Cb R' (c+(g+1)*(d+1)):=by
    unfold oL at k8;rw[la,lb,hsteps] at k8;exact k8.mono (by omega)
   have hlR:=oV R T;have hz:eI (aI R T) R'=[]:=by
    refine aHu (q:=aI q t) (cC _) (cC _) ?_ ⟨fC (aI W t⁻¹) U,fun x=>?_⟩
    ·have:=aKn (aI R T) R';omega
    ·have h1:=r7 x;have h2:=k6 x;rw[bH,bH] at h2;rw[fM,jR,bH,bH,bH];grind
   have hr:aI R T=aI R' (-1):=iD (cC _) (cC _) fun x=>by
    have:=fM (aI R T) R' x;rw[hz,ev] at this;rw[bH R' (-1)];grind
   have hra:Cb (aI R T) (c+(g+1)*(d+1)):=by
    rw[hr];exact k8'.scale kQ
   have fT:R≠[]->0<T/\dH T (2*X):=fun h0=>by
    have hT:=r6 h0;have hT1:T≠0:=by grind
    have e1:=(kI r2 hT1).2;have hl0:=eC r2 h0;have hli:=Rat.mul_inv_cancel _ hl0;have e2:T=aK (aI R T)*(aK R)⁻¹:=by
     rw[e1];grind
    refine⟨hT,?_⟩;rw[e2];exact zT (aEl (wO hra) (aEm hl0 (wO (nE r4)))) (by omega)
   obtain⟨es,j1,j2,j3,j4⟩:=ih (l++[(q,t)]) q R t T d (c+(g+1)*(d+1)) (by
     rw[List.getD_eq_getElem?_getD,List.length_append,List.length_singleton,Nat.add_sub_cancel,List.getElem?_append_right (Nat.le_refl _),Nat.sub_self];rfl) (by omega) tq r2 hq0 (by omega) (by omega) hqd r4 hqa hra hdX (by omega) hW ht0 ft fT
   refine⟨(q,t)::es,?_,?_,?_,?_⟩
   ·rw[r1];show kW B f (l++[(q,t)]) (R,T)=_;rw[j1,List.append_assoc];rfl
   ·intro z hz;rcases List.mem_cons.1 hz with rfl | hz
    ·exact⟨tq,hq0,by show q.length<=M; omega,ht0,hqd.mono hdX,ft,hqa.mono hdX⟩
    ·exact j2 z hz
   ·rw[List.length_cons];omega
   ·refine pS.cons (b:=aI q t) (R:=R') (cC _) (hpa.sz hB (by omega)) (cC _) hb0 (hqa.sz hB (by omega)) k1 k4 (k8'.sz hB (by omega)) ?_;rw[<- hr];exact j4
  ·rw[if_neg hq];obtain rfl:=List.eq_nil_of_length_eq_zero (show q.length=0 by omega);exact⟨[],by rw[List.append_nil],(fun z hz=>nomatch hz),Nat.le_refl _,.nil _⟩
theorem aKi {p:List Rat} {c:Nat} (h:Cb p c):∃ κ:Rat,κ≠0/\∀ k,∃ z:Int,p.getD k 0 = κ*(z:Rat)/\z.natAbs<=2^c:=by
 obtain⟨m,m1,m2,m3⟩:=h;have hm:=nA m1;have hi:=Rat.mul_inv_cancel _ hm;refine⟨(m:Rat)⁻¹,fun e=>?_,fun k=>?_⟩
 ·rw[e] at hi;grind
 ·obtain⟨z,z1,z2⟩:=m3 k;exact⟨z,by rw[<- z1]; grind,z2⟩
theorem aEk:dH 1 0:=⟨1,1,by decide,by rw[lE]; rfl,by decide,by decide⟩
theorem aT9 {B M c X:Nat} {p F:List Rat} (hB:1<=B) (hF:jA B p=some F) (tF:aJ F=F) (F0:F≠[]) (hFM:F.length<=M) (hM8:M<=8) (hc:Cb F c) (hX:(7*(c+4))*5^M<=5*5*2^(M-1)*X) (hcX:c+3<=X) (hXB:6*X<=29*B) :
  ∃ L,mQ B p=some L/\L.length<=M/\(∀ z∈L,yI M X z)/\∃ l,L.map (fun z=>aI z.1 z.2)=F::l/\pS B F (bO F) l:=by
 have hFl:=List.length_pos_iff.2 F0;have hM1:1<=M:=by omega
 have dl:=vS F;have hd:Cb (bO F) (c+3):=hc.derive (t:=3) (by omega);have s1:aD [(1:Rat)] B=true:=nC hB (Nat.zero_le _) aEk;have s2:aD (bO F) B=true:=hd.sz hB (by omega);obtain⟨κ,κ0,κ1⟩:=aKi hc;obtain⟨A,s,a1,a2,a3,a4,a5,a6,a,a7,a8,a9⟩:=aC9 hB tF F0 hc aEk (by omega) (by omega) κ0 κ1;have hs:=a6 (by decide);have eF:aI A s=F:=iD (cC _) tF fun x=>by
  rw[bH,a8];have:a*ev F x*s=s*a*ev F x:=by grind
  rw[this,a9,Rat.one_mul]
 have hAl:A≠[]:=fun q=>by rw[q] at a3; exact F0 (List.eq_nil_of_length_eq_zero a3.symm)
 have second:∃ (D:List Rat) (t:Rat),gO B (bO F) 1=some (D,t)/\aJ D=D/\D.length<=F.length-1/\Cm 1 D (c+3)/\(D≠[]->0<t/\dH t (2*X))/\aI D t=bO F:=by
  by_cases h0:bO F=[]
  ·refine⟨[],0,by unfold gO; rw[if_pos h0],rfl,Nat.zero_le _,fun k=>⟨0,by rw[dI (Nat.zero_le _),Rat.zero_mul]; rfl,Nat.zero_le _⟩,fun h=>absurd rfl h,by rw[h0]; rfl⟩
  ·obtain⟨κ',κ2,κ3⟩:=aKi hd;obtain⟨D,t,d1,d2,d3,d4,d5,d6,b,d7,d8,d9⟩:=aC9 (p:=bO F) hB (cC _) h0 hd aEk (by omega) (by omega) κ2 κ3;refine⟨D,t,d1,d2,by rw[d3]; exact dl,d4,fun _=>⟨d6 (by decide),zT d5 (by omega)⟩,iD (cC _) (cC _) fun x=>?_⟩;rw[bH,d8];have:b*ev (bO F) x*t=t*b*ev (bO F) x:=by grind
   rw[this,d9,Rat.one_mul]
 obtain⟨D,t,d1,d2,d3,d4,d6,d7⟩:=second;have hpot:(2*(c+1)+5*(c+3+1))*jH M A.length<=5*5*2^(M-1)*X:=by
  refine Nat.le_trans (Nat.mul_le_mul (show 2*(c+1)+5*(c+3+1)<=7*(c+4) by omega) (aL7 (by omega))) hX
 obtain⟨es,k1,k2,k3,k4⟩:=aUb hB hpot hXB (F.length+2) [(A,s)] A D s t c (c+3) rfl (by omega) a2 d2 hAl (by omega) (by omega) a4 d4 (by rw[eF]; exact hc) (by rw[d7]; exact hd) (by omega) (by omega) (Nat.le_refl _) hs (zT a5 (by omega)) d6;refine⟨(A,s)::es,?_,by rw[List.length_cons]; omega,?_,es.map (fun z=>aI z.1 z.2),by rw[List.map_cons,eF],by rw[eF,d7] at k4; exact k4⟩
 ·unfold mQ;rw[hF];show (if F=[] then some [] else if (aD [(1:Rat)] B&&(aD (bO F) B&&decide (F.length<=1000)))=true then (gO B F 1).bind fun a=>(gO B (bO F) 1).bind fun b=>kW B (F.length+2) [a] b else none)=_;rw[if_neg F0,s1,s2,decide_eq_true (show F.length<=1000 by omega),if_pos (by rfl),a1];show ((gO B (bO F) 1).bind fun b=>kW B (F.length+2) [(A,s)] b)=_;rw[d1];exact k1
 ·intro z hz;rcases List.mem_cons.1 hz with rfl | hz
  ·exact⟨a2,hAl,by show A.length<=M; omega,hs,a4.mono (by omega),zT a5 (by omega),by show Cb (aI A s) X; rw[eF]; exact hc.mono (by omega)⟩
  ·exact k2 z hz
end Vc
end Go.Proofs.YtjmbkipbmbnhjaaGreat

namespace Go.Proofs.YtjmbkipbmbnhjaaGreat
open Go.RowKit
open Go.Lib (hid)
open Dg Zn
namespace Vc
set_option maxRecDepth 100000
theorem aVi {B:Nat} {a:List Rat} {r:List (List Rat)} (h:pS B a [] r):r=[]:=by
 cases h with
 | nil=>rfl
 | cons w1 w2 w3 w4=>exact absurd rfl w4
section
variable (p F:List Rat) (l:List (List Rat)) (B:Nat) (hB1:1<=B) (hB:B<=100000) (hp0:p≠[]) (hp:p.length<=1000000) (hF:aC Tryz.prog 43 [PL p B] (.one (PL F B))) (hl:F.length<=1000) (h:pS B F (bO F) l) (hl2:l.length<=1000)
include hB1 hB hp0 hp hF hl h hl2
end
theorem aP0 (l:List (List Rat)) (J K:Nat) (hl:l.length<=1000000) (hp:∀ p∈l,p.length<=1000000):aC Tryz.prog 14 [mR l J,mR l K] (.one (.v (.bool true))):=by
 refine aC.of (n:=27) Tryz.func14 rfl rfl rfl rfl rfl fun cx hfr=>?_;refine sr rfl ?_;refine xn ?_;refine RV.done ?_;refine CV.seq ?_;refine sr rfl ?_;refine xm ?_;refine p1 (bY mA mF) ?_;refine xm ?_;refine p1 (bY mA mF) ?_;refine p1 (uQ) ?_;refine RV.done ?_;refine CV.cond rfl (fun hc=>False.elim (by simp at hc)) (fun hc=>?_);refine CV.skip ?_;refine CV.seq ?_;refine sr rfl ?_;refine xn ?_;refine RV.done ?_;refine CV.block ?_;refine CV.loop (X:={k:Nat // k<=l.length}) (fun k=>[(.s 5,.av (.one (.v (.int .i64 (k.1:Int))))),(.s 0,.av (.one (mR l J))),(.s 1,.av (.one (mR l K)))]) (fun k=>l.length-k.1) ⟨0,Nat.zero_le _⟩ (bQ.mk ⟨aF _,aF _,aF _,trivial⟩ rfl rfl) (fun k=>?_);obtain⟨k,hk⟩:=k;simp only;refine CV.seq ?_;refine sr rfl ?_;refine xm ?_;refine xm ?_;refine p1 (bY mA mF) ?_;refine p1 (eE) ?_;refine RV.done ?_;refine CV.cond rfl (fun hc=>?_) (fun hc=>?_)
 ·have hlt:k<l.length:=(by have:=of_decide_eq_true hc; omega)
  have hmem:l.getD k []∈l:=(by rw[List.getD_eq_getElem?_getD,List.getElem?_eq_getElem hlt]; exact List.getElem_mem _)
  refine CV.skip ?_;refine CV.seq ?_;refine CV.block ?_;refine CV.seq ?_;refine CV.region rfl (fun _=>by kernel_rfl) ?_;refine xm ?_;refine xm ?_;refine p1 (dT (k:=none) (i:=k) (aEe hlt) mF uA) ?_;refine p1 (cD cR) ?_;refine xm ?_;refine xm ?_;refine p1 (dT (k:=none) (i:=k) (aEe hlt) mF uA) ?_;refine p1 (cD cR) ?_;refine xc (aPz (l.getD k []) (l.getD k []) J K (hp _ hmem) (hp _ hmem)) Tryz.func47 (xb rfl rfl) hfr ?_;refine p1 (fL) ?_;refine bP (by kernel_rfl) ?_;refine CV.cond rfl (fun hc=>False.elim (by simp at hc)) (fun hc=>?_);refine CV.skip ?_;refine CV.region rfl (fun h=>nomatch h) ?_;refine xm ?_;refine p1 (cU (c:=((k+1:Nat):Int)) (by rw[cF (by omega) (by omega)]; omega) rfl rfl bd rfl rfl) ?_;refine xn ?_;refine RV.done ?_;exact⟨⟨k+1,hlt⟩,bQ.mk ⟨aF _,aF _,aF _,trivial⟩ rfl rfl,by show l.length-(k+1)<l.length-k; omega⟩
 ·refine CV.exit ?_;refine sr rfl ?_;refine xn ?_;refine RV.done ?_;refine CV.ret ?_;exact aW rfl (.inr rfl) rfl cH
end Vc
end Go.Proofs.YtjmbkipbmbnhjaaGreat

namespace Go.Proofs.YtjmbkipbmbnhjaaGreat
open Go.RowKit
open Dg Zn
namespace Vc
def nK (x:Rat) (l:List (List Rat)):List Int:=(l.map fun p=>cK (ev p x)).filter fun s=>decide (s≠0)
theorem aS7 (x:Rat) (p:List Rat) (l:List (List Rat)):nK x (p::l)=if cK (ev p x)=0 then nK x l else cK (ev p x)::nK x l:=by
 unfold nK;by_cases h:cK (ev p x)=0
 ·simp[h]
 ·simp[h]
def oN (L:List Int):Nat->Int
 | 0=>0
 | k+1=>if L.getD (k+1) 0≠L.getD k 0 then oN L k+1 else oN L k
def aBh (x:Rat) (l:List (List Rat)):Int:=oN (nK x l) ((nK x l).length-1)
def xY:List Int->Int
 | a::b::l=>(if b≠a then 1 else 0)+xY (b::l)
 | _=>0
theorem aIt (a b:Int) (l:List Int):∀ k,oN (a::b::l) (k+1)=(if b≠a then 1 else 0)+oN (b::l) k
 | 0=>by
  show (if (a::b::l).getD 1 0≠(a::b::l).getD 0 0 then oN (a::b::l) 0+1 else oN (a::b::l) 0)=_;show (if b≠a then (0:Int)+1 else 0)=(if b≠a then 1 else 0)+0;split<;>rfl
 | k+1=>by
  have ih:=aIt a b l k;rw[oN,ih,oN];have e1:(a::b::l).getD (k+1+1) 0=(b::l).getD (k+1) 0:=rfl;have e2:(a::b::l).getD (k+1) 0=(b::l).getD k 0:=rfl;rw[e1,e2];split<;>omega
theorem aKm:∀ l:List Int,oN l (l.length-1)=xY l
 | []=>rfl
 | [a]=>rfl
 | a::b::l=>by
  have ih:=aKm (b::l);rw[xY,<- ih];exact aIt a b l l.length
theorem aDy (x:Rat):∀ (l:List (List Rat)) (n b:Int),(-1<=b/\b<=1)->(iL x l (n,b)).1=n+xY (if b=0 then nK x l else b::nK x l)
 | [],n,b,_=>by
  rw[iL];split
  ·show n=n+0;omega
  ·show n=n+0;omega
 | p::l,n,b,hb=>by
  rw[iL,aS7];have hs:=aE2 (ev p x);generalize cK (ev p x)=s at hs |-;simp only;by_cases h0:s=0
  ·subst h0;rw[if_neg (by omega),if_neg (by simp),if_pos rfl];exact aDy x l n b hb
  ·rw[if_pos h0,if_neg h0];have ih:=aDy x l (if s*b<0 then n+1 else n) s hs;rw[if_neg h0] at ih;rw[ih];by_cases hb0:b=0
   ·subst hb0;rw[if_pos rfl,if_neg (by omega)]
   ·rw[if_neg hb0,xY];rcases (by omega:s = -1\/s=1) with rfl | rfl<;>rcases (by omega:b = -1\/b=1) with rfl | rfl<;>simp<;>omega
theorem aKg (x:Rat) (l:List (List Rat)):bM x l=aBh x l:=by
 unfold bM aBh;rw[aKm,aDy x l 0 0 (by decide),if_pos rfl,Int.zero_add]
end Vc
end Go.Proofs.YtjmbkipbmbnhjaaGreat

namespace Go.Proofs.YtjmbkipbmbnhjaaGreat
open Go.RowKit
open Go.Lib (hid)
open Dg Zn
namespace Vc
set_option maxRecDepth 100000
def nJ (p:List Rat):Nat->Rat
 | 0=>0
 | k+1=>if cX (fP (p.getD k 0/aK p)) (nJ p k)>0 then fP (p.getD k 0/aK p) else nJ p k
def sN (p:List Rat):Rat:=nJ p (p.length-1)+1
section
variable (p:List Rat) (B:Nat) (hB:B<=300000) (hp:p.length<=1000000) (hz:∀ k,k<p.length->aD [p.getD k 0/aK p] B=true)
include hB hp hz
theorem aI0:aC Tryz.prog 19 [PL p B] (.one (RT (sN p) (3*(B+6)+20))):=by
 have e11:Rat.divInt 1 1=1:=by decide
 refine aC.of (n:=28) Tryz.func19 rfl rfl rfl rfl rfl fun cx hfr=>?_;refine sr rfl ?_;refine p2 (aV (i:=0) bS) ?_;refine RV.done (sr rfl ?_);refine p2 (aV (i:=1) bS) ?_;refine RV.done ?_;refine CV.seq ?_;refine sr rfl ?_;refine xm ?_;refine xc (oW _ _ hp) Tryz.func51 (xa rfl) hfr ?_;refine xm ?_;refine RV.done ?_;refine CV.block ?_;refine CV.loop (X:={k:Nat // k<=p.length-1}) (fun k=>[(.s 8,.av (.one (.v (.int .i64 (k.1:Int))))),(.s 7,.av (.one (.v (.int .i64 ((p.length:Int)-1))))),(.s 0,.av (.one (PL p B))),(.s 3,.av (.one (.ptr 1 0))),(.b 1,.blk 31 [(some 4,RT (nJ p k.1) B)]),(.s 2,.av (.one (.ptr 0 0))),(.b 0,.blk 31 [(some 4,.v eR)])]) (fun k=>p.length-1-k.1) ⟨0,Nat.zero_le _⟩ (bQ.mk ⟨aF _,aF _,aF _,aF _,le_zero,aF _,aF _,trivial⟩ rfl rfl) (fun k=>?_);obtain⟨k,hk⟩:=k;simp only;refine sr rfl ?_;refine p1 (eE) ?_;refine RV.done ?_;refine CV.seq ?_;refine CV.cond rfl (fun hc=>?_) (fun hc=>?_)
 ·have hlt:k+1<p.length:=(by have:=of_decide_eq_true hc; omega)
  have hp0:p≠[]:=List.length_pos_iff.1 (by omega);refine CV.skip ?_;refine CV.seq ?_;refine CV.block ?_;refine sr rfl ?_;refine xm ?_;refine xn ?_;refine RV.done ?_;refine CV.seq ?_;refine CV.region rfl (fun _=>by kernel_rfl) ?_;refine xm ?_;refine xm ?_;refine p1 (dT (k:=some 4) (i:=k) (gE (by omega)) bG cS rfl rfl bd rfl rfl (by decide)) ?_;refine p1 (cD aB) ?_;refine xm ?_;refine xc (aCs p B hp hp0) Tryz.func54 (xa rfl) hfr ?_;refine xd rfl ((pB (p.getD k 0) (aK p) B B (by omega) (by omega)).mono (fun _ _ _ _ h=>h) (dY (hz k (by omega)))) Tryz.func53 (xb rfl rfl) hfr ?_;refine xc (aB1 _ _) Tryz.func52 (xa rfl) hfr ?_;refine p2 (aV (i:=2) bS) ?_;refine p1 (aP (aB).2) ?_;refine bP (by kernel_rfl) ?_;refine sr rfl ?_;refine p1 (aG aB) ?_;refine p1 (aG aB) ?_;refine xd rfl (yR (fP (p.getD k 0/aK p)) (nJ p k) B B (by omega) (by omega)) Tryz.func55 (xb rfl rfl) hfr ?_;refine p1 (iC) ?_;refine RV.done ?_;refine CV.cond rfl (fun hx=>?_) (fun hx=>?_)
  ·refine CV.region rfl (fun h=>nomatch h) ?_;refine p1 (aG aB) ?_;refine p1 (aP (aB).2) ?_;refine RV.done ?_;refine CV.region rfl (fun h=>nomatch h) ?_;refine p1 (cU (c:=((k+1:Nat):Int)) (by rw[cF (by omega) (by omega)]; omega) rfl rfl bd rfl rfl) ?_;refine xm ?_;refine RV.done ?_;have e:nJ p (k+1)=fP (p.getD k 0/aK p):=(by rw[nJ,if_pos (of_decide_eq_true hx)])
   exact⟨⟨k+1,by omega⟩,bQ.mk ⟨aF _,aF _,aF _,aF _,zU (by rw[e]; rfl),aF _,aF _,trivial⟩ rfl rfl,by show p.length-1-(k+1)<p.length-1-k; omega⟩
  ·refine CV.skip ?_;refine CV.region rfl (fun h=>nomatch h) ?_;refine p1 (cU (c:=((k+1:Nat):Int)) (by rw[cF (by omega) (by omega)]; omega) rfl rfl bd rfl rfl) ?_;refine xm ?_;refine RV.done ?_;have e:nJ p (k+1)=nJ p k:=(by rw[nJ,if_neg (of_decide_eq_false hx)])
   exact⟨⟨k+1,by omega⟩,bQ.mk ⟨aF _,aF _,aF _,aF _,zU (by rw[e]; rfl),aF _,aF _,trivial⟩ rfl rfl,by show p.length-1-(k+1)<p.length-1-k; omega⟩
 ·refine CV.exit ?_;refine CV.seq ?_;have hk2:k=p.length-1:=(by have:=of_decide_eq_false hc; omega)
  subst hk2;refine CV.region rfl (fun _=>by kernel_rfl) ?_;refine p1 (aG aB) ?_;refine xd rfl ((pM 1 1 (by decide) (by decide) (by decide) (by decide)).mono (fun _ _ _ _ h=>h) (xQ e11)) Tryz.func57 (xb rfl rfl) hfr ?_;refine xd rfl (wS (nJ p (p.length-1)) 1 B 6 (by omega) (by omega)) Tryz.func56 (xb rfl rfl) hfr ?_;refine p1 (aP (aB).2) ?_;refine bP (by kernel_rfl) ?_;refine CV.ret ?_;exact aW rfl (.inr rfl) ⟨_,_,_,_,_,rfl,rfl,rfl,aB⟩ cH
end
def aNz (d:Int) (zs:List Int):List Rat:=aJ (tab (fun i=>Rat.divInt (zs.getD i 0) d) zs.length)
theorem aVr (d:Int) (zs:List Int) (h1 : -9223372036854775808<=d) (h2:d<=9223372036854775807) (hz:∀ i,-9223372036854775808<=zs.getD i 0/\zs.getD i 0<=9223372036854775807) (hl:zs.length<=1000000):aC Tryz.prog 59 [.v (.int .i64 d),ZI .i64 zs] (.one (PL (aNz d zs) 6)):=by
 refine aC.of (n:=24) Tryz.func59 rfl rfl rfl rfl rfl fun cx hfr=>?_;refine sr rfl ?_;refine xn ?_;refine RV.done (sr rfl ?_);refine xn ?_;refine RV.done ?_;refine CV.seq ?_;refine CV.seq ?_;refine tX 5 100 31 (some 4) rfl rfl rfl rfl ?_;refine CV.region rfl (fun h=>nomatch h) ?_;refine xn ?_;refine RV.done ?_;refine CV.block ?_;refine CV.loop (X:={k:Nat // k<=zs.length}) (fun k=>[(.s 6,.av (.one (.v (.int .i64 (k.1:Int))))),(.s 5,.av (.one (.sl 100 k.1))),(.b 100,.row 31 (some 4) (jC (fun i=>Rat.divInt (zs.getD i 0) d) 6 k.1)),(.s 1,.av (.one (ZI .i64 zs))),(.s 0,.av (.one (.v (.int .i64 d))))]) (fun k=>zs.length-k.1) ⟨0,Nat.zero_le _⟩ (bQ.mk ⟨aF _,aF _,gS rfl,aF _,aF _,trivial⟩ rfl rfl) (fun k=>?_);obtain⟨k,hk⟩:=k;simp only;refine CV.seq ?_;refine sr rfl ?_;refine xm ?_;refine xm ?_;refine p1 (bY (rE _) lK) ?_;refine p1 (eE) ?_;refine RV.done ?_;refine CV.cond rfl (fun hc=>?_) (fun hc=>?_)
 ·have hlt:k<zs.length:=(by have:=of_decide_eq_true hc; omega)
  refine CV.skip ?_;refine CV.seq ?_;refine CV.block ?_;refine CV.region rfl (fun h=>nomatch h) ?_;refine xm ?_;refine xm ?_;refine xm ?_;refine p1 (dT (k:=none) (i:=k) (uN hlt) lK sG) ?_;refine p1 (cD iB) ?_;refine xm ?_;refine xc (rO (zs.getD k 0) d (hz k).1 (hz k).2 h1 h2) Tryz.func32 (xb rfl rfl) hfr ?_;refine p1 (iH (G:=Dm.gen (cM (some 4) [_])) (dS _ _) eS sF rfl rfl rfl (by intro s hs; obtain rfl:=List.mem_singleton.1 hs; rfl) rfl rfl rfl bd (xa rfl)) ?_;refine lI (aS.plain (rJ (r:=100) (r':=101) (nW (by decide) rfl) (by rw[nQ]; show (k+1)*64<=_; omega) (by rw[nQ]; show k+1<=_; omega) eS mH rfl rfl rfl (by intro x hx; obtain rfl:=List.mem_singleton.1 hx; rfl) nQ.symm rfl rfl bd rfl rfl rfl rfl rfl rfl rfl rfl) rfl) ?_;refine xn ?_;refine RV.done ?_;refine CV.region rfl (fun h=>nomatch h) ?_;refine xm ?_;refine p1 (cU (c:=((k+1:Nat):Int)) (by rw[cF (by omega) (by omega)]; omega) rfl rfl bd rfl rfl) ?_;refine xn ?_;refine RV.done ?_;exact⟨⟨k+1,hlt⟩,oE (fun i=>if i=100 then 101 else i) ⟨mT,pZ rfl rfl,gS aHw,mT,mT,trivial⟩ rfl rfl rfl rfl,by show zs.length-(k+1)<zs.length-k; omega⟩
 ·refine CV.exit ?_;refine CV.seq ?_;have hk1:k=zs.length:=(by have:=of_decide_eq_false hc; omega)
  subst hk1;rw[wH];refine nX (r:=100) (t:=5) (G:=Dm.gen (cM (some 4) (bV (tab (fun i=>Rat.divInt (zs.getD i 0) d) zs.length) 6))) (cx.bw hfr) rfl rfl (by rw[bL,iA]) rfl rfl (dS _ _) (lC _ _) ?_;refine CV.region rfl (fun h=>nomatch h) ?_;refine xm ?_;refine xd rfl (oX _ _ (by rw[iA]; exact hl)) Tryz.func12 (xa rfl) hfr ?_;refine xn ?_;refine RV.done ?_;refine CV.ret ?_;exact aW rfl (.inr rfl) rfl cH
theorem gD (z:Int) (h1 : -9223372036854775808<=z) (h2:z<=9223372036854775807):aC Tryz.prog 30 [(.v (.int .i64 z):SA Dm)] (.one (RT (Rat.divInt z 1) 6)):=by
 refine aC.of (n:=5) Tryz.func30 rfl rfl rfl rfl rfl fun cx hfr=>?_;refine sr rfl ?_;refine p2 (aV (i:=0) bS) ?_;refine RV.done (sr rfl ?_);refine xm ?_;refine xd rfl (rO z 1 h1 h2 (by decide) (by decide)) Tryz.func32 (xb rfl rfl) hfr ?_;refine p1 (aP (aB).2) ?_;refine RV.done ?_;refine CV.ret ?_;exact aW rfl (.inr rfl) ⟨_,_,_,_,_,rfl,rfl,rfl,aB⟩ cH
end Vc
end Go.Proofs.YtjmbkipbmbnhjaaGreat
