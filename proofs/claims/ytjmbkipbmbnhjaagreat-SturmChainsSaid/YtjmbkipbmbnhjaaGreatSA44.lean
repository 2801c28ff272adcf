/-
  
-/
import Derived.Test.YtjmbkipbmbnhjaaGreatSA43
import Derived.Test.YtjmbkipbmbnhjaaGreatSA41
import Derived.Test.YtjmbkipbmbnhjaaGreatSA40
import Derived.Test.YtjmbkipbmbnhjaaGreatSA9
import Derived.Test.YtjmbkipbmbnhjaaGreatSA32
set_option linter.unusedVariables false
set_option linter.unusedSimpArgs false
set_option linter.unusedSectionVars false
namespace Go.Proofs.YtjmbkipbmbnhjaaGreat
open Go.RowKit Go.Shelf
open Dg Zn
namespace Vc
attribute [local go_sem] Oper.semAt_some
def jA (n B:Nat) (W W':World):Prop:=W.heap.size<=W'.heap.size/\∀ b,b<n->b≠B->W'.heap[b]?=W.heap[b]?
theorem jA.refl (n B:Nat) (W:World):jA n B W W:=⟨Nat.le_refl _,fun _ _ _=>rfl⟩
theorem jA.trans {n B:Nat} {X Y Z:World} (h:jA n B X Y) (k:jA n B Y Z):jA n B X Z:=⟨Nat.le_trans h.1 k.1,fun b hb hne=>(k.2 b hb hne).trans (h.2 b hb hne)⟩
theorem jA.put {n B:Nat} {w:World} (hn:n<=w.heap.size) (W:World) (l:Nat) (o o':Obj) (hl:w.heap.size<=l) (_:W.heap[l]?=some o) (_:o.isCells=false) (_:o.isWalk=false):jA n B W (W.putObj l o') :=
 ⟨by simp,fun b hb _=>World.putObj_heap_other (by omega)⟩
def xO (len:Nat) (V:Nat->Value) (k:Nat):Array Value:=#[.int .i64 ((len-1-k:Nat):Int),V (len-1-k)]
theorem aP9 {len cap Bs b off B n:Nat} {ao:Option Addr} {C:Nat->Nat->Value} {w1:World} (hn:1<=n) (hao:0<len->ao=some ⟨b,off,none⟩) (hreach:len<=1000000) (hBs:w1.cell? ⟨Bs,0,none⟩=some (.slice ao len cap)) (hBB:Bs≠B)
  (hc:0<len->b≠B/\∀ j,j<len->w1.cell? ⟨b,off+j*4,none⟩=some (C j 0)/\w1.cell? ⟨b,off+j*4+1,none⟩=some (C j 1)/\w1.cell? ⟨b,off+j*4+2,none⟩=some (C j 2)/\w1.cell? ⟨b,off+j*4+3,none⟩=some (C j 3)) :
  SeqStopsK Fence.wide n Tryz.prog 130 #[.pointer (some ⟨Bs,0,none⟩)] (xO len fun j=>.agg #[C j 0,C j 1,C j 2,C j 3]) (jA w1.heap.size B) (fun ys=>ys=lR id len) (fun pre=>∃ k,k<=len/\pre=lR id k) len w1:=by
 intro l J Jx W hW _ _ hY h0;have hk:∀ wr,jA w1.heap.size B W wr->∀ c o u,c≠B->w1.cell? ⟨c,o,none⟩=some u->wr.cell? ⟨c,o,none⟩=some u:=by
  intro wr hwr c o u hcB hu;have hl:=tZ hu;exact(World.cell?_of_block ((hwr.2 c hl hcB).trans (hW.block c hl))).trans hu
 exact aUp Fence.wide n trivial rfl hn l Bs b off len cap ao hao (jA w1.heap.size B) jA.trans C hreach id (xO len fun j=>.agg #[C j 0,C j 1,C j 2,C j 3]) (fun _ _=>rfl) J Jx hY W (jA.refl _ _ _) (fun wr hwr=>hk wr hwr Bs 0 _ hBB hBs)
  (fun wr hwr j hj=>by
   obtain⟨hbB,hcs⟩:=hc (by omega);obtain⟨q0,q1,q2,q3⟩:=hcs j hj;exact⟨hk wr hwr _ _ _ hbB q0,hk wr hwr _ _ _ hbB q1,hk wr hwr _ _ _ hbB q2,hk wr hwr _ _ _ hbB q3⟩) h0
structure oE (w w1:World) (L:Nat->Prop) (B:Nat) (k:Option Nat) (T:TypeId) (s:SA Dm) (W:World):Prop where
 below:Below w.heap.size w W
 size:w1.heap.size<=W.heap.size
 same:∀ b,b<w1.heap.size->b≠B->W.heap[b]?=w1.heap[b]?
 var:∃ v,∃ cs:List Value,W.heap[B]?=some (.cells cs.toArray T (0,0))/\Shaped k v cs/\iX L W s v/\∀ c∈cs,cV c=true
theorem oE.own {w w1:World} {L:Nat->Prop} {B:Nat} {k:Option Nat} {T:TypeId} {f:List Nat->SA Dm} (hw:w.heap.size<=w1.heap.size):OwnFrom w1.heap.size (fun pre W=>oE w w1 L B k T (f pre) W):=by
 intro pre W W' row ⟨h1,h2,h3,v,cs,h4,h5,h6,h7⟩ hg hr;have hb:∀ b o,W.heap[b]?=some o->(b<w1.heap.size\/o.isCells=true)->W'.heap[b]?=W.heap[b]?:=by
  intro b o ho hc;refine hg.block b (Array.getElem?_eq_some_iff.1 ho).1 fun e=>?_;obtain⟨q1,o',q2,q3⟩:=hr b e.symm;rw[ho] at q2;obtain rfl:=Option.some.inj q2;rcases hc with hc | hc
  ·omega
  ·rw[hc] at q3; cases q3
 refine⟨⟨hg.os.trans h1.os,hg.tape.trans h1.tape,hg.output.trans h1.output,Nat.le_trans h1.size hg.size,fun b hb'=>?_⟩,Nat.le_trans h2 hg.size,fun b hb' hne=>?_,v,cs,?_,h5,?_,h7⟩
 ·have hl:b<W.heap.size:=by omega
  rw[hb b W.heap[b] (Array.getElem?_eq_getElem hl) (.inl (by omega))];exact h1.block b hb'
 ·have hl:b<W.heap.size:=by omega
  rw[hb b W.heap[b] (Array.getElem?_eq_getElem hl) (.inl hb')];exact h3 b hb' hne
 ·rw[hb B _ h4 (.inr rfl)]; exact h4
 ·exact h6.keep (aG2 hg fun r e=>(hr r e).2)
end Vc
end Go.Proofs.YtjmbkipbmbnhjaaGreat

namespace Go.Proofs.YtjmbkipbmbnhjaaGreat
open Go.RowKit Go.Shelf
open Dg Zn
namespace Vc
attribute [local go_sem] Oper.semAt_some
def cD (cs:List Value) (j i:Nat):Value:=(cs[j*4+i]?).getD undef
theorem aFd {w:World} {l:List (SA Dm)} {cs:List Value} {j:Nat} {s:SA Dm} (h:dB w (some 4) l cs) (hs:l[j]?=some s):(s.at w (.agg #[cD cs j 0,cD cs j 1,cD cs j 2,cD cs j 3])/\Shaped (some 4) (.agg #[cD cs j 0,cD cs j 1,cD cs j 2,cD cs j 3]) [cD cs j 0,cD cs j 1,cD cs j 2,cD cs j 3])/\∀ i,i<4->cs[j*4+i]?=some (cD cs j i):=by
 obtain⟨pre,p,post,v,q1,q2,q3,q4⟩:=h.at hs;have q2:pre.length=j*4:=q2;have hp:p.length=4:=q3.length;have hi:∀ i,i<4->cs[j*4+i]?=some (cD cs j i):=by
  intro i hi;have hl:j*4+i<cs.length:=by rw[q1]; simp only[List.length_append]; omega
  unfold cD;rw[List.getElem?_eq_getElem hl];rfl
 have hpi:∀ i,i<4->p[i]?=some (cD cs j i):=by
  intro i hi4;rw[<- hi i hi4,q1,List.append_assoc,List.getElem?_append_right (by omega),q2,Nat.add_sub_cancel_left,List.getElem?_append_left (by omega)]
 have he:p=[cD cs j 0,cD cs j 1,cD cs j 2,cD cs j 3]:=by
  match p,hp,hpi with
  | [a,b,c,d],_,hpi =>
   have h0:=hpi 0 (by decide);have h1:=hpi 1 (by decide);have h2:=hpi 2 (by decide);have h3:=hpi 3 (by decide);simp at h0 h1 h2 h3;rw[h0,h1,h2,h3]
 have hv:v=.agg p.toArray:=q3.1;subst he;rw[hv] at q4 q3;exact⟨⟨q4,q3⟩,hi⟩
theorem aQa {a:Act} {W:World} {u7 u11 id l n:Nat} {c0 c1 c2 c3:Value} {K:Act->World->Prop} {o1 o2:Oper} (hn:u7<a.tmps.size) (hne:u11≠u7) (h11:a.tmps.getD u11 undef=.agg #[c0,c1,c2,c3]) (hone:Shaped (some 4) (.agg #[c0,c1,c2,c3]) [c0,c1,c2,c3])
  (g1:o1.guard=none) (g2:o2.guard=none) (d1:o1.dst=some u7) (d2:o2.dst=none) (e1:o1.op=.alloc 31) (e2:o2.op=.store 31 (.tmp u7) (.tmp u11))
  (hK:∀ W2,Below W.heap.size W W2->W2.heap.size=W.heap.size+1->W2.heap[W.heap.size]?=some (.cells [c0,c1,c2,c3].toArray 31 (0,0))->K (a.put (some u7) (.pointer (some ⟨W.heap.size,0,none⟩))) W2) :
  (Code.region id #[o1,o2] false).wpIn (qO l) n Tryz.prog (Exit.then K (fun _ _ _=>False)) a W:=by
 refine wpIn_region_list (rN (fun ⟨_,_,h⟩=>h) _ _ _ (by simp[mZ,e1,e2]) ?_);refine wpList_step fun K1 hK1=>?_;rw[if_pos (by simp[Region.wanted,g1])];have hzr:(zeroValue 31).run Tryz.prog W=.ok dL W:=by
  cases hq:Tryz.prog.info? 31 with
  | none=>have:=fZ; rw[hq] at this; cases this
  | some inf =>
   have hz:=fZ;rw[hq] at hz;simp only[Option.map_some,Option.some.injEq,Prod.mk.injEq] at hz;simp[zeroValue,typeInfo,hq,hz.1]
 have r1:(execOp a.eval o1).run Tryz.prog W=.ok (.value (.pointer (some ⟨W.heap.size,0,none⟩))) (W.alloc (.cells dL.cells 31)):=by
  simp only[execOp,e1,Sem.run_bind,Instr.alloc,hzr,newVar,newRow,run_newObj_alloc,Sem.run_pure,Result.andThen_ok]
 unfold Oper.wp;rw[r1,Oper.upon_value,d1];refine hK1 _ _ ?_;clear hK1 K1 r1 hzr;have hw1:(W.alloc (.cells dL.cells 31)).heap[W.heap.size]?=some (.cells ([]++[Value.bool false,.slice none 0 0,.bool false,.slice none 0 0]++[]).toArray 31 (0,0)):=heap_alloc_new W _;have hs1:(W.alloc (.cells dL.cells 31)).heap.size=W.heap.size+1:=Array.size_push _;have hb1:Below W.heap.size W (W.alloc (.cells dL.cells 31)):=(Below.refl _ _).alloc (Nat.le_refl _) _;obtain⟨W1,hW1⟩:∃ W1,W1=W.alloc (.cells dL.cells 31):=⟨_,rfl⟩
 rw[<- hW1] at hw1 hs1 hb1 |-;clear hW1;have t7:(a.put (some u7) (.pointer (some ⟨W.heap.size,0,none⟩))).tmps.getD u7 undef=.pointer (some ⟨W.heap.size,0,none⟩):=by rw[jH hn rfl,if_pos rfl]
 have t11:(a.put (some u7) (.pointer (some ⟨W.heap.size,0,none⟩))).tmps.getD u11 undef=.agg #[c0,c1,c2,c3]:=by rw[jH hn rfl,if_neg hne]; exact h11
 refine wpList_step fun K1 hK1=>?_;rw[if_pos (by simp[Region.wanted,g2])];have hc:∀ j,j<4->∃ u,W1.cell? ⟨W.heap.size,j,none⟩=some u:=by
  intro j hj;simp only[World.cell?,hw1];have:j<([]++[Value.bool false,.slice none 0 0,.bool false,.slice none 0 0]++[]).toArray.size:=hj;exact⟨_,Array.getElem?_eq_getElem this⟩
 have r2:(execOp (a.put (some u7) (.pointer (some ⟨W.heap.size,0,none⟩))).eval o2).run Tryz.prog W1=.ok .skip (W1.setCells W.heap.size 0 [c0,c1,c2,c3]):=by
  have hst:=run_storeCells_cells (P:=Tryz.prog) W.heap.size 0 [c0,c1,c2,c3] 0 W1 (fun j hj=>by
   obtain⟨u,hu⟩:=hc j hj;rw[Nat.add_zero,Nat.zero_add,hu];rfl) (fun j hj=>by simp[World.frozen?,hw1]) hone.one
  rw[Nat.add_zero] at hst;have ev7:(a.put (some u7) (.pointer (some ⟨W.heap.size,0,none⟩))).eval (.tmp u7)=.pointer (some ⟨W.heap.size,0,none⟩):=t7;have ev11:(a.put (some u7) (.pointer (some ⟨W.heap.size,0,none⟩))).eval (.tmp u11)=.agg #[c0,c1,c2,c3]:=t11;have ec:(Value.agg #[c0,c1,c2,c3]).cells=#[c0,c1,c2,c3]:=hone.cells;have hsz:=yE W1;simp only[execOp,e2,ev7,ev11,Sem.run_bind,Sem.run_pure,Result.andThen_ok,Instr.storeAt,Instr.sureAddr,storeVar,hsz,ec];simp[hst]
 unfold Oper.wp;rw[r2,Oper.upon_skip,d2];refine hK1 _ _ ?_;clear hK1 K1 r2;show Exit.then _ _ .normal (a.put (some u7) (.pointer (some ⟨W.heap.size,0,none⟩))) _;refine hK _ ?_ (by rw[lC,hs1]) ?_
 ·refine⟨by rw[os_setCells]; exact hb1.os,by rw[nH]; exact hb1.tape,by rw[nI]; exact hb1.output,by rw[lC,hs1]; omega,fun j hj=>?_⟩;rw[lW _ _ _ _ j (by omega)];exact hb1.block j hj
 ·exact oI W.heap.size 31 [c0,c1,c2,c3] [Value.bool false,.slice none 0 0,.bool false,.slice none 0 0] [] [] W1 rfl hw1
def iZ (L:Nat->Prop) (B:Nat):Nat->Prop:=fun b=>L b\/b=B
section
variable {w w1 W:World} {L:Nat->Prop} {B:Nat} {k:Option Nat} {T:TypeId} {s:SA Dm}
theorem aW9 (hlt:∀ b,L b->b<w.heap.size) (hW:w.heap.size<=W.heap.size) (hB:B<W.heap.size):∀ b,iZ L B b->b<W.heap.size:=by
 rintro b (h | rfl)
 ·have:=hlt b h; omega
 ·exact hB
theorem aW8 (hlt:∀ b,L b->b<w.heap.size) (hni:gA L w) (h:oE w w1 (iZ L B) B k T s W):gA (iZ L B) W:=by
 rintro b (hb | rfl) cs T' fr hc c hcm
 ·rw[h.below.block b (hlt b hb)] at hc;exact hni b hb cs T' fr hc c hcm
 ·obtain⟨v,cs',h1,_,_,h4⟩:=h.var;rw[h1] at hc;obtain⟨rfl,-,-⟩:=(Obj.cells.injEq _ _ _ _ _ _).mp (Option.some.inj hc);exact h4 c (by simpa using hcm)
theorem yD {x:SA Dm} {v:Value} (hB:w.heap.size<=B) (hb:Below w.heap.size w W) (h:iX L w x v):iX (iZ L B) W x v:=by
 intro W' hk;refine h W' ⟨Nat.le_trans hb.size hk.1,fun b hnl off u hu=>?_⟩;have hl:=tZ hu;refine hk.2 b (fun q=>?_) off u ((World.cell?_of_block (hb.block b hl)).trans hu);rcases q with q | q
 ·exact hnl q
 ·omega
theorem aEo {L':Nat->Prop} {ρ:aR} {b:Nat} {v:Value} {cs:List Value} (hb:W.heap[b]?=some (.cells cs.toArray T (0,0))) (hnl:¬ L' b) (hsh:Shaped k v cs) (hs:iX L' W s v):(SA.d (Dm.gen (pG k s))).is L' ρ W (.pointer (some ⟨b,0,none⟩)):=by
 intro w' hag;refine⟨b,0,v,rfl,cs,hsh,hs w' (.agree hag),fun j c hj=>?_⟩;have hbl:b<W.heap.size:=by
  rcases Nat.lt_or_ge b W.heap.size with hl | hl
  ·exact hl
  ·rw[Array.getElem?_eq_none hl] at hb; cases hb
 have e:w'.heap[b]?=some (.cells cs.toArray T (0,0)):=(hag.2 b hbl hnl).trans hb;rw[Nat.zero_add];simpa[World.cell?,e] using hj
theorem aRs {x:Dm} {W':World} {m:Nat} (hwB:w.heap.size<=B) (hm:w1.heap.size<=m) (h:oE w w1 (iZ L B) B k T s W) (hp:(SA.d x:SA Dm).plain=true) (hS:aM1 W (iZ L B) B k (.d x) W'):KeepsFrom m W W'/\jA w1.heap.size B W W'/\oE w w1 (iZ L B) B k T (.d x) W':=by
 obtain⟨v0,cs0,h1,h2,_,_⟩:=h.var;obtain⟨w2,v,cs,k1,k2,k3,rfl⟩:=hS;have hBl:B<W.heap.size:=by
  rcases Nat.lt_or_ge B W.heap.size with hl | hl
  ·exact hl
  ·rw[Array.getElem?_eq_none hl] at h1; cases h1
 have hBw:w2.heap[B]?=some (.cells ([]++cs0++[]).toArray T (0,0)):=by
  rw[k1.block B hBl,h1,List.nil_append,List.append_nil]
 have hsz:(w2.setCells B 0 cs).heap.size=w2.heap.size:=lC ..;have hne:∀ j,j≠B->j<W.heap.size->(w2.setCells B 0 cs).heap[j]?=W.heap[j]?:=fun j hj hl=>(lW _ _ _ _ j hj).trans (k1.block j hl);have hnew:(w2.setCells B 0 cs).heap[B]?=some (.cells cs.toArray T (0,0)):=by
  have:=oI B T cs cs0 [] [] w2 (by rw[k3.length,h2.length]) hBw;rw[List.nil_append,List.append_nil] at this;exact this
 refine⟨⟨by rw[hsz]; exact k1.size,fun j o _ ho hc=>?_⟩,⟨by rw[hsz]; exact k1.size,fun b hb hb'=>hne b hb' (by have:=h.size; omega)⟩,⟨?_,by rw[hsz]; exact Nat.le_trans h.size k1.size,fun b hb hb'=>(hne b hb' (by have:=h.size; omega)).trans (h.same b hb hb'),v,cs,hnew,k3,k2.keep (aJo (.inr rfl)),fun c hc=>?_⟩⟩
 ·have hjB:j≠B:=by
   rintro rfl;rw[h1] at ho;obtain rfl:=Option.some.inj ho;cases hc
  rw[hne j hjB (Array.getElem?_eq_some_iff.1 ho).1];exact ho
 ·refine⟨by rw[os_setCells]; exact k1.os.trans h.below.os,by rw[nH]; exact k1.tape.trans h.below.tape,by rw[nI]; exact k1.output.trans h.below.output,by rw[hsz]; exact Nat.le_trans h.below.size k1.size,fun j hj=>?_⟩;have:=h.below.size;rw[hne j (by omega) (by omega)];exact h.below.block j hj
 ·have:=bM.plain_ok x w2 v hp k2.at c (by rw[k3.cells]; simpa using hc);exact this
end
end Vc
end Go.Proofs.YtjmbkipbmbnhjaaGreat

namespace Go.Proofs.YtjmbkipbmbnhjaaGreat
open Go.RowKit
open Dg Zn
namespace Vc
theorem yA {p q:Int} {k:Nat} (hp:len p<=k) (hq:len q<=k):len (Rat.divInt p q).num<=k/\len (qd (Rat.divInt p q))<=k:=by
 have h0:len 0<=k:=by show (aA 0).length<=_; rw[fW]; exact Nat.zero_le _
 by_cases hq0:q=0
 ·subst hq0;obtain⟨e1,e2⟩:=vC p;rw[e1,e2];exact⟨h0,h0⟩
 ·obtain⟨e1,e2⟩:=vU p q hq0;rw[e1,e2];have h1:=Int.natAbs_ediv_le_natAbs p (Int.gcd p q:Nat);have h2:=Int.natAbs_ediv_le_natAbs q (Int.gcd p q:Nat);refine⟨Nat.le_trans (nR ?_) hp,?_⟩
  ·rw[Int.natAbs_mul];refine Nat.le_trans (Nat.mul_le_mul_right _ (?_:_<=1)) (by rw[Nat.one_mul]; exact h1);rw[Int.natAbs_sign];split<;>omega
  ·split
   ·exact h0
   ·exact Nat.le_trans (nR (by rw[Int.natAbs_natCast]; exact h2)) hq
theorem nV {a:Rat} {B:Nat} (h1:len a.num<=B) (h2:len (qd a)<=B):aG [a] B=true:=by
 simp[aG,h1,h2]
theorem tO {a:Rat} {k:Nat} (h1:1<=k) (h:len (qd a)<=k):len (a.den:Int)<=k:=by
 unfold qd at h;split at h
 ·rename_i hd;rw[hd];refine Nat.le_trans (?_:len ((1:Nat):Int)<=1) h1;rw[kV];decide
 ·exact h
theorem wJ {a b:Rat} {j k:Nat} (h1:1<=j) (h2:1<=k) (ha:aG [a] j=true) (hb:aG [b] k=true):aG [a*b] (j+k)=true:=by
 have e:a*b=Rat.divInt (a.num*b.num) ((a.den:Int)*b.den):=by
  conv=>lhs; rw[<- Rat.num_divInt_den a,<- Rat.num_divInt_den b]
  exact Rat.divInt_mul_divInt _ _
 obtain⟨a1,a2⟩:=pS ha;obtain⟨b1,b2⟩:=pS hb;rw[e];have h:=yA (Vc.pX a1 b1) (Vc.pX (tO h1 a2) (tO h2 b2));exact nV h.1 h.2
theorem aEn {a b:Rat} {j k:Nat} (h1:1<=j) (h2:1<=k) (ha:aG [a] j=true) (hb:aG [b] k=true):aG [a+b] (j+k+1)=true:=by
 have e:a+b=Rat.divInt (a.num*b.den+b.num*a.den) ((a.den:Int)*b.den):=by
  conv=>lhs; rw[<- Rat.num_divInt_den a,<- Rat.num_divInt_den b]
  exact Rat.divInt_add_divInt _ _ (by have:=a.den_nz; omega) (by have:=b.den_nz; omega)
 obtain⟨a1,a2⟩:=pS ha;obtain⟨b1,b2⟩:=pS hb;rw[e];have n1:len (a.num*b.den)<=j+k:=Vc.pX a1 (tO h2 b2);have n2:len (b.num*a.den)<=j+k:=Nat.le_trans (Vc.pX b1 (tO h1 a2)) (by omega);have n3:=Zn.zO (a.num*b.den) (b.num*a.den);have h:=yA (k:=j+k+1) (p:=a.num*b.den+b.num*a.den) (q:=(a.den:Int)*b.den) (by omega) (Nat.le_trans (Vc.pX (tO h1 a2) (tO h2 b2)) (Nat.le_succ _));exact nV h.1 h.2
theorem lJ {a:Rat} {j k:Nat} (h:j<=k) (ha:aG [a] j=true):aG [a] k=true:=by
 obtain⟨a1,a2⟩:=pS ha;exact nV (Nat.le_trans a1 h) (Nat.le_trans a2 h)
theorem oS {B:Nat}:aG [(0:Rat)] B=true:=by
 have h:len 0<=B:=by show (aA 0).length<=_; rw[fW]; exact Nat.zero_le _
 exact nV h h
theorem pT {l:List Rat} {B:Nat} (h:∀ a∈l,aG [a] B=true):aG l B=true:=by
 unfold aG;rw[List.all_eq_true];intro a ha;have:=pS (h a ha);rw[Bool.and_eq_true];exact⟨decide_eq_true this.1,decide_eq_true this.2⟩
theorem wK {l:List Rat} {B:Nat} (h:aG l B=true) {a:Rat} (ha:a∈l):aG [a] B=true:=nV (zI h ha).1 (zI h ha).2
theorem tW {l:List Rat} {B:Nat} (h:aG l B=true) (i:Nat):aG [l.getD i 0] B=true:=by
 rcases Nat.lt_or_ge i l.length with hl | hl
 ·rw[List.getD_eq_getElem?_getD,List.getElem?_eq_getElem hl];exact wK h (List.getElem_mem hl)
 ·rw[dC hl];exact oS
theorem tV {l:List Rat} {B:Nat} (h:aG l B=true):aG (aI l) B=true:=pT fun a ha=>by
 rw[aBw] at ha;exact wK h (List.mem_of_mem_take ha)
theorem aVd {g:Nat->Rat} {n B:Nat} (h:∀ k,k<n->aG [g k] B=true):aG (tab g n) B=true:=pT fun a ha=>by
 unfold tab at ha;obtain⟨k,hk,rfl⟩:=List.mem_map.1 ha;exact h k (List.mem_range.1 hk)
theorem oM {l:List Rat} {j k:Nat} (h:j<=k) (hl:aG l j=true):aG l k=true:=pT fun _ ha=>lJ h (wK hl ha)
theorem aDw {a:Rat} {l:List Rat} {B:Nat} (ha:aG [a] B=true) (hl:aG l B=true):aG (a::l) B=true:=pT fun b hb=>by
 rcases List.mem_cons.1 hb with rfl | hb
 ·exact ha
 ·exact wK hl hb
end Vc
end Go.Proofs.YtjmbkipbmbnhjaaGreat

namespace Go.Proofs.YtjmbkipbmbnhjaaGreat
open Go.RowKit Go.Shelf
open Dg Zn
namespace Vc
attribute [local go_sem] Oper.semAt_some
theorem oE.later {w w1 W W':World} {L:Nat->Prop} {B:Nat} {k:Option Nat} {T:TypeId} {s:SA Dm} (h:oE w w1 L B k T s W) (hb:Below W.heap.size W W'):oE w w1 L B k T s W':=by
 obtain⟨h1,h2,h3,v,cs,h4,h5,h6,h7⟩:=h;have hBl:B<W.heap.size:=by
  rcases Nat.lt_or_ge B W.heap.size with hl | hl
  ·exact hl
  ·rw[Array.getElem?_eq_none hl] at h4; cases h4
 refine⟨⟨hb.os.trans h1.os,hb.tape.trans h1.tape,hb.output.trans h1.output,Nat.le_trans h1.size hb.size,fun b hb'=>?_⟩,Nat.le_trans h2 hb.size,fun b hb' hne=>(hb.block b (by omega)).trans (h3 b hb' hne),v,cs,(hb.block B hBl).trans h4,h5,h6.keep (aG3 hb),h7⟩;have:=h1.size;rw[hb.block b (by omega)];exact h1.block b hb'
theorem aO2 {B:Nat} {W W':World} (hb:Below W.heap.size W W'):KeepsFrom B W W':=⟨hb.size,fun k o _ hk _=>(hb.block k (Array.getElem?_eq_some_iff.1 hk).1).trans hk⟩
theorem aRm {n B:Nat} {W W':World} (hn:n<=W.heap.size) (hb:Below W.heap.size W W'):jA n B W W':=⟨hb.size,fun b hb' _=>hb.block b (by omega)⟩
def nZ (p:List Rat) (x:Rat) (pre:List Nat):Rat:=pre.foldl (fun s k=>s*x+p.getD (p.length-1-k) 0) 0
theorem aG6 (p:List Rat) (x:Rat) (pre:List Nat) (k:Nat):nZ p x (pre++[k])=nZ p x pre*x+p.getD (p.length-1-k) 0:=by simp[nZ]
def aAt (p:List Rat) (x:Rat):Rat:=nZ p x (lR id p.length)
def iG (K Kx n:Nat):Nat:=n*(Kx+K+1)+1
theorem aKa {K Kx i j:Nat} (h:i<=j):iG K Kx i<=iG K Kx j:=by
 have:=Nat.mul_le_mul_right (Kx+K+1) h;unfold iG;omega
theorem aSw {p:List Rat} {x:Rat} {K Kx:Nat} (h1:1<=K) (h2:1<=Kx) (hp:aG p K=true) (hx:aG [x] Kx=true):∀ pre:List Nat,aG [nZ p x pre] (iG K Kx pre.length)=true:=by
 have hK:∀ i,aG [p.getD i 0] K=true:=by
  intro i;rcases Nat.lt_or_ge i p.length with hl | hl
  ·have:=zI hp (List.getElem_mem hl);rw[List.getD_eq_getElem?_getD,List.getElem?_eq_getElem hl];exact nV this.1 this.2
  ·rw[dC hl];exact oS
 have:∀ (pre:List Nat) (s:Rat) (m:Nat),1<=m->aG [s] m=true->aG [pre.foldl (fun s k=>s*x+p.getD (p.length-1-k) 0) s] (m+pre.length*(Kx+K+1))=true:=by
  intro pre
  induction pre with
  | nil=>intro s m _ hs; exact lJ (by omega) hs
  | cons k pre ih =>
   intro s m hm hs;rw[List.foldl_cons];have h:=ih (s*x+p.getD (p.length-1-k) 0) (m+Kx+K+1) (by omega) (aEn (by omega) h1 (wJ hm h2 hs hx) (hK _));refine lJ ?_ h;rw[List.length_cons,Nat.succ_mul];omega
 intro pre;refine lJ ?_ (this pre 0 1 (Nat.le_refl _) oS);unfold iG;omega
theorem aXq (w:World) (a b c d:Obj):∃ w1,(((w.alloc a).alloc b).alloc c).alloc d=w1/\w1.heap.size=w.heap.size+4/\w1.heap[w.heap.size]?=((w.alloc a).heap[w.heap.size]?)/\w1.heap[w.heap.size+1]?=((w.alloc a).alloc b).heap[w.heap.size+1]?/\w1.heap[w.heap.size+1+1]?=(((w.alloc a).alloc b).alloc c).heap[w.heap.size+1+1]?/\w1.heap[w.heap.size+1+1+1]?=((((w.alloc a).alloc b).alloc c).alloc d).heap[w.heap.size+1+1+1]?/\Below w.heap.size w w1/\∃ wA,wA.heap.size=w.heap.size+1+1/\Below w.heap.size w wA/\Below wA.heap.size wA w1/\wA.heap[w.heap.size+1]?=((w.alloc a).alloc b).heap[w.heap.size+1]?:=by
 have s1:(w.alloc a).heap.size=w.heap.size+1:=Array.size_push _;have s2:((w.alloc a).alloc b).heap.size=w.heap.size+1+1:=(Array.size_push _).trans (by rw[s1]);have s3:(((w.alloc a).alloc b).alloc c).heap.size=w.heap.size+1+1+1:=(Array.size_push _).trans (by rw[s2]);have s4:((((w.alloc a).alloc b).alloc c).alloc d).heap.size=w.heap.size+1+1+1+1:=(Array.size_push _).trans (by rw[s3]);have b4:∀ j,j<(((w.alloc a).alloc b).alloc c).heap.size->((((w.alloc a).alloc b).alloc c).alloc d).heap[j]?=(((w.alloc a).alloc b).alloc c).heap[j]?:=fun j hj=>Below.heap_alloc _ _ _ hj;have b3:∀ j,j<((w.alloc a).alloc b).heap.size->(((w.alloc a).alloc b).alloc c).heap[j]?=((w.alloc a).alloc b).heap[j]?:=fun j hj=>Below.heap_alloc _ _ _ hj;have b2:∀ j,j<(w.alloc a).heap.size->((w.alloc a).alloc b).heap[j]?=(w.alloc a).heap[j]?:=fun j hj=>Below.heap_alloc _ _ _ hj;refine⟨_,rfl,s4,?_,?_,?_,rfl,((((Below.refl _ w).alloc (Nat.le_refl _) _).alloc (by omega) _).alloc (by omega) _).alloc (by omega) _,(w.alloc a).alloc b,s2,((Below.refl _ w).alloc (Nat.le_refl _) _).alloc (by omega) _,((Below.refl _ _).alloc (Nat.le_refl _) _).alloc (by omega) _,rfl⟩
 ·rw[b4 _ (by omega),b3 _ (by omega),b2 _ (by omega)]
 ·rw[b4 _ (by omega),b3 _ (by omega)]
 ·rw[b4 _ (by omega)]
theorem alloc_at (w:World) (o:Obj) {n:Nat} (h:w.heap.size=n):(w.alloc o).heap[n]?=some o:=by subst h; exact heap_alloc_new w o
set_option maxRecDepth 100000 in
set_option maxHeartbeats 4000000 in
theorem aSi (p:List Rat) (x:Rat) (K Kx:Nat) (hp:p.length<=1000000) (hK:K<=1000000) (hKx:Kx<=1000000) (hK1:1<=K) (hKx1:1<=Kx) (hpz:aG p K=true) (hxz:aG [x] Kx=true) (hbd:iG K Kx p.length<=1000000):aD Tryz.prog 99 [PL p K,RT x Kx] (.one (RT (aAt p x) (iG K Kx p.length))):=by
 intro L ρ w vs hlt hni _ hall
 match vs,hall with
 | [v0,v1],⟨g0,g1,_⟩ =>
  obtain⟨ao,cap,rfl,hcap,hlst⟩:=tM (by decide) g0;rw[aV] at hcap hlst |-;have hx:=aKv aEu g1;obtain⟨sx,tx,rfl,n1,n2,_,_⟩:=g1 w (Agree.refl _ _);have hx1s:∀ c∈[Value.bool (decide (x.num<0)),sx,.bool (decide (qd x<0)),tx],c.oneCell'=true:=by
   obtain⟨_,_,rfl,_⟩:=n1;obtain⟨_,_,rfl,_⟩:=n2;simp[Value.oneCell']
  generalize hcx:(decide (x.num<0))=bx at *;generalize hcy:(decide (qd x<0))=bz at *;obtain⟨b,off,cs,hao,hsh,hel⟩:∃ b off,∃ cs:List Value,(0<p.length->ao=some ⟨b,off,none⟩/\b<w.heap.size)/\(∀ k,Shaped (some 4) (.agg #[cD cs (p.length-1-k) 0,cD cs (p.length-1-k) 1,cD cs (p.length-1-k) 2,cD cs (p.length-1-k) 3]) [cD cs (p.length-1-k) 0,cD cs (p.length-1-k) 1,cD cs (p.length-1-k) 2,cD cs (p.length-1-k) 3])/\∀ j,j<p.length->(w.cell? ⟨b,off+j*4,none⟩=some (cD cs j 0)/\w.cell? ⟨b,off+j*4+1,none⟩=some (cD cs j 1)/\w.cell? ⟨b,off+j*4+2,none⟩=some (cD cs j 2)/\w.cell? ⟨b,off+j*4+3,none⟩=some (cD cs j 3))/\iX L w (RT (p.getD j 0) K) (.agg #[cD cs j 0,cD cs j 1,cD cs j 2,cD cs j 3]):=by
   rcases Nat.eq_zero_or_pos p.length with h0 | h0
   ·exact⟨0,0,[.bool false,.slice none 0 0,.bool false,.slice none 0 0],fun h=>by omega,fun k=>by rw[show p.length-1-k=0 by omega]; exact⟨rfl,rfl,by simp[cD,Value.oneCell']⟩,fun j hj=>by omega⟩
   ·obtain⟨b,off,e,⟨_,hb⟩,cs,hats,hcs⟩:=hlst h0;refine⟨b,off,cs,fun _=>⟨e,hb⟩,fun k=>(aFd (hats w (Agree.refl _ _)) (dZ (K:=K) (by omega))).1.2,fun j hj=>?_⟩;have h4:=aFd (hats w (Agree.refl _ _)) (dZ (K:=K) hj);have hi:∀ i,i<4->w.cell? ⟨b,off+j*4+i,none⟩=some (cD cs j i):=fun i hi=>by
     rw[Nat.add_assoc];exact hcs _ _ (h4.2 i hi)
    exact⟨⟨hi 0 (by decide),hi 1 (by decide),hi 2 (by decide),hi 3 (by decide)⟩,aKu aEu fun w' hw=>(aFd (hats w' hw) (dZ (K:=K) hj)).1.1⟩
  refine(callsIn_wide (n:=9)).1 ?_;refine callsIn_of_wp_marks Tryz.func99 rfl trivial ?_ rfl;simp only[Tryz.ntmps99,List.size_toArray,List.length_cons,List.length_nil,Nat.reduceAdd,Nat.reduceSub,Array.replicate_succ,Array.replicate_zero,List.push_toArray,List.append_toArray,List.nil_append,List.cons_append];have hs0:=(iX.at hx)
  gi_wp2_with (refine⟨trivial,?_⟩; gi_at_call 83; refine(aWg Fence.wide _ trivial rfl _ _ _ _).mono ?_; rintro e w' ⟨rfl,rfl⟩)
  have s3:(((w.alloc (.cells #[.bool bx,sx,.bool bz,tx] 31)).alloc (.cells #[.bool false,.slice none 0 0,.bool false,.slice none 0 0] 31)).alloc (.cells #[.bool false,.slice none 0 0,.bool false,.slice none 0 0] 31)).heap.size=w.heap.size+1+1+1:=by
   refine(Array.size_push _).trans (congrArg (·+1) ((Array.size_push _).trans (congrArg (·+1) (Array.size_push _))))
  obtain⟨w1,hw1,hs1,q3,q4,q5,q6,hb1,wA,hsA,hbA,hb1A,qA⟩:=aXq w (.cells #[.bool bx,sx,.bool bz,tx] 31) (.cells #[.bool false,.slice none 0 0,.bool false,.slice none 0 0] 31) (.cells #[.bool false,.slice none 0 0,.bool false,.slice none 0 0] 31) (.cells #[.slice ao p.length cap] 24);rw[alloc_at _ _ rfl] at q3;rw[alloc_at _ _ (Array.size_push _)] at q4 qA;rw[alloc_at _ _ ((Array.size_push _).trans (congrArg (·+1) (Array.size_push _)))] at q5;rw[alloc_at _ _ s3] at q6;rw[hw1];clear hw1 s3;have hB5:w.heap.size+1+1<w1.heap.size:=by omega
  have hlt1:∀ b,iZ L (w.heap.size+1) b->b<wA.heap.size:=by
   rintro b (q | q)
   ·have:=hlt b q; omega
   ·omega
  have hni1:gA (iZ L (w.heap.size+1)) wA:=by
   rintro b (q | rfl) cs' T' fr hc c hcm
   ·rw[hbA.block b (hlt b q)] at hc;exact hni b q cs' T' fr hc c hcm
   ·rw[qA] at hc;obtain⟨rfl,-,-⟩:=(Obj.cells.injEq _ _ _ _ _ _).mp (Option.some.inj hc);have hall:∀ c∈[Value.bool false,.slice none 0 0,.bool false,.slice none 0 0],cV c=true:=by simp[cV]
    exact hall c (by simpa using hcm)
  have hx':=yD (Nat.le_succ _) hbA hx;have hel':=fun j hj=>yD (Nat.le_succ _) hbA (hel j hj).2;have hBs:w1.cell? ⟨w.heap.size+1+1+1,0,none⟩=some (.slice ao p.length cap):=by simp[World.cell?,q6]
  have hfold:∀ k,((#[10,11]:Array Tmp).zip (xO p.length (fun j=>.agg #[cD cs j 0,cD cs j 1,cD cs j 2,cD cs j 3]) k)).foldl (fun t (p,v)=>t.setIfInBounds p v) #[.slice ao p.length cap,.agg #[.bool bx,sx,.bool bz,tx],undef,.pointer (some ⟨w.heap.size,0,none⟩),.pointer (some ⟨w.heap.size+1,0,none⟩),.pointer (some ⟨w.heap.size+1+1,0,none⟩),undef,undef,.slice ao p.length cap,.func (.func 130) #[] #[.pointer (some ⟨w.heap.size+1+1+1,0,none⟩)],undef,undef,undef,undef,undef,undef,undef,undef]=#[.slice ao p.length cap,.agg #[.bool bx,sx,.bool bz,tx],undef,.pointer (some ⟨w.heap.size,0,none⟩),.pointer (some ⟨w.heap.size+1,0,none⟩),.pointer (some ⟨w.heap.size+1+1,0,none⟩),undef,undef,.slice ao p.length cap,.func (.func 130) #[] #[.pointer (some ⟨w.heap.size+1+1+1,0,none⟩)],.int .i64 ((p.length-1-k:Nat):Int),.agg #[cD cs (p.length-1-k) 0,cD cs (p.length-1-k) 1,cD cs (p.length-1-k) 2,cD cs (p.length-1-k) 3],undef,undef,undef,undef,undef,undef]:=by
   intro k;simp[xO]
  refine wpIn_rangeFunc_ownH (α:=Nat) rfl (by decide) (gf:=130) (lb:=#[.pointer (some ⟨w.heap.size+1+1+1,0,none⟩)]) rfl trivial (enters_of Tryz.func130 (by kernel_rfl) rfl)
   (aP9 (C:=cD cs) (B:=w.heap.size+1+1) (b:=b) (off:=off) (by decide) (fun h=>(hao h).1) hp hBs (by omega) (fun h=>⟨by have:=(hao h).2; omega,fun j hj=>by
    obtain⟨⟨e0,e1,e2,e3⟩,_⟩:=hel j hj;have hk:=(aG3 (L:=fun _=>False) hb1).2 b (fun q=>q);exact⟨hk _ _ e0,hk _ _ e1,hk _ _ e2,hk _ _ e3⟩⟩)) jA.trans (jA.put (Nat.le_refl _)) (Below.refl _ _) (fun _=>rfl)
   (fun pre W=>oE wA w1 (iZ (iZ L (w.heap.size+1)) (w.heap.size+1+1)) (w.heap.size+1+1) (some 4) 31 (RT (nZ p x pre) (iG K Kx pre.length)) W)
   (fun _ _ _=>False) (oE.own (f:=fun pre=>RT (nZ p x pre) (iG K Kx pre.length)) (by omega)) (fun _ _ _ _ _ hs _ _=>hs) ?start
   (fun k a' W=>∃ Bx,w1.heap.size<=Bx/\W.heap[Bx]?=some (.cells [cD cs (p.length-1-k) 0,cD cs (p.length-1-k) 1,cD cs (p.length-1-k) 2,cD cs (p.length-1-k) 3].toArray 31 (0,0))/\a'=Act.put { tmps:=#[.slice ao p.length cap,.agg #[.bool bx,sx,.bool bz,tx],undef,.pointer (some ⟨w.heap.size,0,none⟩),.pointer (some ⟨w.heap.size+1,0,none⟩),.pointer (some ⟨w.heap.size+1+1,0,none⟩),undef,undef,.slice ao p.length cap,.func (.func 130) #[] #[.pointer (some ⟨w.heap.size+1+1+1,0,none⟩)],.int .i64 ((p.length-1-k:Nat):Int),.agg #[cD cs (p.length-1-k) 0,cD cs (p.length-1-k) 1,cD cs (p.length-1-k) 2,cD cs (p.length-1-k) 3],undef,undef,undef,undef,undef,undef],defers:=[] } (some 7) (.pointer (some ⟨Bx,0,none⟩))) ?hAx ?assign ?body ?done ?stop
  case start =>
   refine⟨hb1A,Nat.le_refl _,fun _ _ _=>rfl,dL,[.bool false,.slice none 0 0,.bool false,.slice none 0 0],q5,⟨rfl,rfl,by simp[Value.oneCell']⟩,fun W' _=>?_,by simp[cV]⟩;have h0:(aA (0:Int).natAbs).length<=iG K Kx ([]:List Nat).length:=by rw[show (0:Int).natAbs=0 from rfl,fW]; exact Nat.zero_le _
   exact⟨_,_,rfl,aL.nil (by decide),aL.nil (by decide),h0,h0⟩
  case hAx =>
   rintro k a' _ W W' row ⟨Bx,h1,h2,h3⟩ hg hr;refine⟨Bx,h1,?_,h3⟩;rw[hg.block Bx (Array.getElem?_eq_some_iff.1 h2).1 (fun e=>by
    obtain⟨_,o',m2,m3⟩:=hr Bx e.symm;rw[h2] at m2;obtain rfl:=Option.some.inj m2;cases m3)]
   exact h2
  case assign =>
   intro l pre k W K' hi hK';show Code.wpIn _ _ _ _ _ (Act.mk (((#[10,11]:Array Tmp).zip (xO p.length (fun j=>.agg #[cD cs j 0,cD cs j 1,cD cs j 2,cD cs j 3]) k)).foldl (fun t (p,v)=>t.setIfInBounds p v) #[.slice ao p.length cap,.agg #[.bool bx,sx,.bool bz,tx],undef,.pointer (some ⟨w.heap.size,0,none⟩),.pointer (some ⟨w.heap.size+1,0,none⟩),.pointer (some ⟨w.heap.size+1+1,0,none⟩),undef,undef,.slice ao p.length cap,.func (.func 130) #[] #[.pointer (some ⟨w.heap.size+1+1+1,0,none⟩)],undef,undef,undef,undef,undef,undef,undef,undef]) []) W;rw[hfold k];exact aQa (u7:=7) (u11:=11) (Nat.le_of_ble_eq_true rfl) (by decide) rfl (hsh k) rfl rfl rfl rfl rfl rfl fun W2 hb _ hcell=>hK' _ W2 (aO2 hb) (aRm hi.size hb) (hi.later hb) ⟨W.heap.size,hi.size,hcell,rfl⟩
  case stop =>
   rintro D c pre W _ _ h _;exact h.elim
  case done =>
   intro D ys W hD hys hI hKD;have hsame4:=hI.same (w.heap.size+1) (by omega) (by omega);obtain⟨v,cs5,c1,c2,c3,c4⟩:=hI.var;obtain⟨s5,t5,e5,⟨ao5,cap5,e6,_⟩,⟨ao7,cap7,e7,_⟩,_,_⟩:=c3.at;obtain⟨b5,a5,n5,k5,b6,a6,n6,k6,hv⟩:∃ b5 a5 n5 k5 b6 a6 n6 k6,v=.agg #[.bool b5,.slice a5 n5 k5,.bool b6,.slice a6 n6 k6]:=⟨_,_,_,_,_,_,_,_,by rw[e5,e6,e7]⟩
   have hcs:cs5=[.bool b5,.slice a5 n5 k5,.bool b6,.slice a6 n6 k6]:=by
    have h:=c2.1;rw[hv] at h;injection h with h;have h:=congrArg Array.toList h;simpa using h.symm
   subst hcs;clear e5 e6 e7;have f0:W.cell? ⟨w.heap.size+1+1,0,none⟩=some (.bool b5):=by simp[World.cell?,c1]
   have f1:W.cell? ⟨w.heap.size+1+1,1,none⟩=some (.slice a5 n5 k5):=by simp[World.cell?,c1]
   have f2:W.cell? ⟨w.heap.size+1+1,2,none⟩=some (.bool b6):=by simp[World.cell?,c1]
   have f3:W.cell? ⟨w.heap.size+1+1,3,none⟩=some (.slice a6 n6 k6):=by simp[World.cell?,c1]
   have e4:W.heap[w.heap.size+1]?=some (.cells #[.bool false,.slice none 0 0,.bool false,.slice none 0 0] 31 (0,0)):=hsame4.trans q4;have h0:W.cell? ⟨w.heap.size+1,0,none⟩=some (.bool false):=by simp[World.cell?,e4]
   have h1:W.cell? ⟨w.heap.size+1,1,none⟩=some (.slice none 0 0):=by simp[World.cell?,e4]
   have h2:W.cell? ⟨w.heap.size+1,2,none⟩=some (.bool false):=by simp[World.cell?,e4]
   have h3:W.cell? ⟨w.heap.size+1,3,none⟩=some (.slice none 0 0):=by simp[World.cell?,e4]
   have z0:∀ i,W.frozen? ⟨w.heap.size+1,i,none⟩=false:=fun i=>by simp[World.frozen?,e4]
   have y0:=z0 0;have y1:=z0 1;have y2:=z0 2;have y3:=z0 3
   gi_wp2
   have hbl:Below W.heap.size W W:=Below.refl _ _;obtain⟨W4,hW4⟩:∃ W4,W4=W.setCells (w.heap.size+1) 0 [.bool b5,.slice a5 n5 k5,.bool b6,.slice a6 n6 k6]:=⟨_,rfl⟩
   have hW4':((((W.setCell ⟨w.heap.size+1,0,none⟩ (.bool b5)).setCell ⟨w.heap.size+1,1,none⟩ (.slice a5 n5 k5)).setCell ⟨w.heap.size+1,2,none⟩ (.bool b6)).setCell ⟨w.heap.size+1,3,none⟩ (.slice a6 n6 k6))=W4:=by
    rw[hW4];rfl
   rw[hW4'];have hD4:W4.heap[D]?=some (.deferred (some [])):=by
    rw[hW4,lW _ _ _ _ D (by omega)];exact hKD
   have g4:W4.heap[w.heap.size+1]?=some (.cells [.bool b5,.slice a5 n5 k5,.bool b6,.slice a6 n6 k6].toArray 31 (0,0)):=by
    rw[hW4];exact oI (w.heap.size+1) 31 [.bool b5,.slice a5 n5 k5,.bool b6,.slice a6 n6 k6] [.bool false,.slice none 0 0,.bool false,.slice none 0 0] [] [] W rfl e4
   refine⟨by simp,.inl ⟨_,_,rfl,run_takeDeferred hD4,?_⟩⟩;have hDl:D<W4.heap.size:=(Array.getElem?_eq_some_iff.1 hD4).1;have hn4:w.heap.size+1≠D:=by omega
   have g5:(W4.putObj D (.deferred none)).heap[w.heap.size+1]?=some (.cells [.bool b5,.slice a5 n5 k5,.bool b6,.slice a6 n6 k6].toArray 31 (0,0)):=(World.putObj_heap_other hn4).trans g4;refine⟨v,?_,v,rfl,?_,?_⟩
   ·have e:∀ tm:Array Value,tm.getD 4 undef=.pointer (some ⟨w.heap.size+1,0,none⟩)->(results Tryz.f99 tm).run Tryz.prog (W4.putObj D (.deferred none))=.ok v (W4.putObj D (.deferred none)):=by
     intro tm htm;have h1:(jK tm (.cell 4 31)).run Tryz.prog (W4.putObj D (.deferred none))=.ok v (W4.putObj D (.deferred none)):=by
      have hl:=uW (P:=Tryz.prog) (w:=W4.putObj D (.deferred none)) (b:=w.heap.size+1) (off:=0) (cs:=[.bool b5,.slice a5 n5 k5,.bool b6,.slice a6 n6 k6]) (ty:=31) (k:=some 4) (v:=v) (fun j c hj=>by rw[Nat.zero_add]; simpa[World.cell?,g5] using hj) c2 aC;simp only[jK,htm,asAddr,Sem.run_bind,Sem.run_pure,Result.andThen_ok,hl]
     have h2:(results Tryz.f99 tm).run Tryz.prog (W4.putObj D (.deferred none))=((jK tm (.cell 4 31)).run Tryz.prog (W4.putObj D (.deferred none))).andThen fun v w=>.ok v w:=by
      simp[results,show Tryz.f99.results=#[.cell 4 31] from rfl,jK,andThen_assoc,aGg]
     rw[h2,h1];rfl
    exact e _ rfl
   ·refine⟨?_,?_,?_,?_,fun j hj=>?_⟩
    ·show W4.os=_;rw[hW4,os_setCells]; exact(hbA.os ▸ hI.below.os)
    ·show W4.tape=_;rw[hW4,nH]; exact(hbA.tape ▸ hI.below.tape)
    ·show W4.output=_;rw[hW4,nI]; exact(hbA.output ▸ hI.below.output)
    ·have h1:=hI.below.size;have h2:W4.heap.size=W.heap.size:=by rw[hW4]; exact lC ..
     simp;omega
    ·have h1:=hI.below.size;rw[World.putObj_heap_other (by omega),hW4,lW _ _ _ _ j (by omega),hI.below.block j (by omega)];exact hbA.block j hj
   ·have hev:aAt p x=nZ p x ys:=by rw[hys]; rfl
    have hyl:ys.length=p.length:=by rw[hys,aG8]
    rw[hev,<- hyl];refine xA (ρ:=ρ) fun w'' hag=>c3 w'' ?_;refine jU.trans ?_ (jU.trans (aG2 (grownBy_putObj' W4 D (.deferred none)) (fun r e=>by cases e; exact⟨_,hD4,rfl⟩)) ?_)
    ·rw[hW4];exact aJo (.inl (.inr rfl))
    ·have:=jU.agree hag;exact⟨this.1,fun b hb=>this.2 b fun q=>hb (.inl (.inl q))⟩
  case body =>
   rintro l pre k a' W hl _ hi ⟨Bx,hx1,hx2,rfl⟩ hlen;have hbW:=hi.below.size;obtain⟨vc,csv,c1,c2,c3,c4⟩:=hi.var;have hkl:p.length-1-k<p.length:=by omega
   have hpre:iG K Kx pre.length<=1000000:=Nat.le_trans (aKa (Nat.le_of_lt hlen)) hbd;have hnew:=aSw hK1 hKx1 hpz hxz (pre++[k]);have h3W:W.heap[w.heap.size]?=some (.cells [Value.bool bx,sx,.bool bz,tx].toArray 31 (0,0)):=(hi.same _ (by omega) (by omega)).trans q3;have hxp:(SA.d (Dm.gen (pG (some 4) (RT x Kx)))).is (iZ (iZ L (w.heap.size+1)) (w.heap.size+1+1)) ρ W (.pointer (some ⟨w.heap.size,0,none⟩)):=aEo h3W (by rintro((q | q) | q); exact absurd (hlt _ q) (by omega); omega; omega) ⟨rfl,rfl,hx1s⟩ (yD (by omega) hi.below hx');have hap:(SA.d (Dm.gen (pG (some 4) (RT (p.getD (p.length-1-k) 0) K)))).is (iZ (iZ L (w.heap.size+1)) (w.heap.size+1+1)) ρ W (.pointer (some ⟨Bx,0,none⟩)):=aEo hx2 (by rintro((q | q) | q); exact absurd (hlt _ q) (by omega); omega; omega) (hsh k) (yD (by omega) hi.below (hel' _ hkl));have hBlW:w.heap.size+1+1<W.heap.size:=by have:=hi.size; omega
   refine wpIn_block (wpIn_mono (RV.wpIn (x0:=.no) (C:=CS W (iZ (iZ L (w.heap.size+1)) (w.heap.size+1+1)) (aW9 hlt1 hbW hBlW) (aW8 hlt1 hni1 hi) 18 (w.heap.size+1+1) (some 4) (RT (nZ p x (pre++[k])) (iG K Kx (pre++[k]).length))) (K:=fun l=>aF .no l FK=.dead)
    (l:=[(.s 3,.av (.one (.d (Dm.gen (pG (some 4) (RT x Kx)))))),(.s 5,.av (.one (.v (.pointer (some ⟨w.heap.size+1+1,0,none⟩))))),(.s 7,.av (.one (.d (Dm.gen (pG (some 4) (RT (p.getD (p.length-1-k) 0) K))))))]) (fun a w h=>CS.drew rfl h) (by kernel_rfl) (fun _=>by kernel_rfl) (by kernel_rfl) ?walk ?begin) ?after)
   case begin =>
    refine .inl ⟨rfl,ρ,aCa (Eq.refl 18) rfl (fun i=>rfl) fun t=>?_⟩;by_cases e3:t=3
    ·subst e3; exact .inr ⟨_,rfl,rfl,hxp⟩
    ·by_cases e5:t=5
     ·subst e5; exact .inr ⟨_,rfl,rfl,rfl⟩
     ·by_cases e7:t=7
      ·subst e7; exact .inr ⟨_,rfl,rfl,hap⟩
      ·refine .inl ?_;show (bif Key.beq (.s 3) (.s t) then _ else bif Key.beq (.s 5) (.s t) then _ else bif Key.beq (.s 7) (.s t) then _ else _)=_;rw[gZ (by simpa using Ne.symm e3),gZ (by simpa using Ne.symm e5),gZ (by simpa using Ne.symm e7)];rfl
   case walk =>
    rw[aG6] at hnew |-;refine gE (vP (aTr c1 c2 c3 rfl aC rfl rfl (by decide) rfl) rfl rfl rfl) ?_;refine gE (vP (bL aC) rfl rfl rfl) ?_;refine gE (vP (cB (nS _ _ _ _ (by omega) (by omega)) rfl rfl (by decide) Tryz.func87 rfl rfl (.cons rfl cS.any (.cons rfl cS.any .nil)) rfl rfl rfl) rfl rfl rfl) ?_;refine gE (vP (bL aC) rfl rfl rfl) ?_;refine gE (vP (cB ((vY _ _ (3*(iG K Kx pre.length+Kx)+20) K (by omega) (by omega)).mono (fun _ _ _ _ h=>h) (dR hnew)) rfl rfl (by decide) Tryz.func56 rfl rfl (.cons rfl cS.any (.cons rfl cS.any .nil)) rfl rfl rfl) rfl rfl rfl) ?_;refine gE (aOm c1 c2.length aEu rfl cF rfl rfl rfl rfl rfl rfl) ?_;exact bQ (by kernel_rfl) rfl
   case after =>
    intro e a'' W'' he;cases e with
    | normal =>
     obtain⟨l',h1,h2⟩:=he;rcases h2 with ⟨h3,_⟩ | ⟨_,h3⟩
     ·rw[h1] at h3; cases h3
     ·exact aRs (by omega) (Nat.le_refl _) hi rfl h3
    | ret=>exact he.elim
    | exit id=>exact he.elim
    | goto t=>exact he.elim
    | panic c=>exact he.elim
    | outgrown=>exact he.elim
end Vc
end Go.Proofs.YtjmbkipbmbnhjaaGreat

namespace Go.Proofs.YtjmbkipbmbnhjaaGreat
open Go.RowKit Go.Shelf
open Dg Zn
namespace Vc
attribute [local go_sem] Oper.semAt_some
def aWz (p:List Rat) (x:Rat) (pre:List Nat):List Rat:=pre.foldl (fun s k=>kL (p.getD (p.length-1-k) 0::s) (aT s x)) []
theorem aKd (p q:List Rat):(kL p q).length<=max p.length q.length:=by
 unfold kL;refine Nat.le_trans (iH _) ?_;rw[eW];exact Nat.le_refl _
end Vc
end Go.Proofs.YtjmbkipbmbnhjaaGreat

namespace Go.Proofs.YtjmbkipbmbnhjaaGreat
open Go.RowKit
open Go.Lib (hid)
open Dg Zn
namespace Vc
theorem yH {k:IntKind} {zs:List Int}:∀ s∈fO k zs,s.kind=some none:=by
 intro s hs;obtain⟨z,_,rfl⟩:=List.mem_map.1 hs;rfl
theorem yQ (zs:List Int) (h:(zs.all fun z=>decide (-9223372036854775808<=z)&&decide (z<=9223372036854775807))=true) (i:Nat) : -9223372036854775808<=zs.getD i 0/\zs.getD i 0<=9223372036854775807:=by
 rcases Nat.lt_or_ge i zs.length with hl | hl
 ·have:=List.all_eq_true.1 h zs[i] (List.getElem_mem hl);rw[Bool.and_eq_true] at this;rw[List.getD_eq_getElem?_getD,List.getElem?_eq_getElem hl];exact⟨of_decide_eq_true this.1,of_decide_eq_true this.2⟩
 ·rw[List.getD_eq_getElem?_getD,List.getElem?_eq_none hl];exact⟨by decide,by decide⟩
theorem aK0 {a b:Rat} (h:a=b) {j k:Nat}:aD Tryz.prog 18 [RT a j,RT b k] (.one (.v (.bool true))):=by
 have:=aGn a b j k;rw[decide_eq_true h] at this;exact this
theorem aWo (p:List Rat) (K:Nat) (hK:K<=1000000) (hp:p.length<=1000000) (h:¬ (p≠[]/\aH p=0)):aD Tryz.prog 65 [PL p K] (.one (.v (.bool true))):=by
 have:=aQh p K hK hp;rw[decide_eq_true h] at this;exact this
set_option maxRecDepth 100000
theorem aQb (z:Int):0<=eK z 105/\eK z 105<105:=by
 unfold eK;exact⟨Int.emod_nonneg _ (by decide),Int.emod_lt_of_pos _ (by decide)⟩
def bW (z:Int):Rat:=Rat.divInt ((eK z 105).tmod 15-7) (1+((eK z 105).tdiv 15).tmod 4)
theorem small_facts (z:Int):(0<=(eK z 105).tmod 15/\(eK z 105).tmod 15<15)/\(0<=(eK z 105).tdiv 15/\(eK z 105).tdiv 15<=7)/\(0<=((eK z 105).tdiv 15).tmod 4/\((eK z 105).tdiv 15).tmod 4<4):=by
 obtain⟨h1,h2⟩:=aQb z;generalize eK z 105=m at *;have d0:0<=m.tdiv 15:=Int.tdiv_nonneg h1 (by decide);refine⟨⟨Int.tmod_nonneg _ h1,Int.tmod_lt_of_pos _ (by decide)⟩,⟨d0,?_⟩,⟨Int.tmod_nonneg _ d0,Int.tmod_lt_of_pos _ (by decide)⟩⟩;rw[Int.tdiv_eq_ediv_of_nonneg h1];omega
theorem tH (z:Int):aG [bW z] 1=true:=by
 obtain⟨⟨a1,a2⟩,_,b1,b2⟩:=small_facts z;have h:=yA (p:=(eK z 105).tmod 15-7) (q:=1+((eK z 105).tdiv 15).tmod 4) (k:=1) (by rw[kV]; omega) (by rw[kV]; omega);exact nV h.1 h.2
theorem sK (z:Int) (h1 : -9223372036854775808<=z) (h2:z<=9223372036854775807):aD (D:=Dm) Tryz.prog 11 [.v (.int .i64 z)] (.one (RT (bW z) 1)):=by
 have hf:=small_facts z;refine aD.of (n:=14) Tryz.func11 rfl rfl rfl rfl rfl fun cx hfr=>?_;refine sr rfl ?_;refine p2 (aU (i:=0) bY) ?_;refine RV.done (sr rfl ?_);refine xm ?_;refine xd rfl (aQk z 105 h1 h2 (by decide) (by decide)) Tryz.func22 (xb rfl rfl) hfr ?_;refine xn ?_;refine RV.done (sr rfl ?_);refine xm ?_;refine p1 (wL) ?_;refine p1 (dM (c:=(eK z 105).tmod 15-7) (by rw[bF (by omega) (by omega)]) rfl rfl bd rfl rfl) ?_;refine xm ?_;refine p1 (aEq (c:=(eK z 105).tdiv 15) (by decide) (bF (by omega) (by omega)) rfl rfl bd rfl rfl) ?_;refine p1 (wL) ?_;refine p1 (cC (c:=1+((eK z 105).tdiv 15).tmod 4) (by rw[bF (by omega) (by omega)]) rfl rfl bd rfl rfl) ?_;refine xd rfl ((iL ((eK z 105).tmod 15-7) (1+((eK z 105).tdiv 15).tmod 4) (by omega) (by omega) (by omega) (by omega)).mono (fun _ _ _ _ h=>h) (dR (tH z))) Tryz.func32 (xb rfl rfl) hfr ?_;refine p1 (aP (aC).2) ?_;refine RV.done ?_;refine CV.ret ?_;exact aQ rfl (.inr rfl) ⟨_,_,_,_,_,rfl,rfl,rfl,aC⟩ cE
theorem aHt (p q:List Rat) (j K:Nat) (hj:j<=1000000) (hK:K<=1000000) (hp:p.length<=1000000) (hq:q.length<=1000000):aD Tryz.prog 92 [PL p j,PL q K] (.one (PL (kL p q) (3*(j+K)+20))):=by
 refine aD.of (n:=31) Tryz.func92 rfl rfl rfl rfl rfl fun cx hfr=>?_;refine sr rfl ?_;refine xn ?_;refine RV.done (sr rfl ?_);refine xn ?_;refine RV.done ?_;refine CV.seq ?_;refine CV.seq ?_;refine mA 5 100 31 (some 4) rfl rfl rfl rfl ?_;refine CV.region rfl (fun h=>nomatch h) ?_;refine xn ?_;refine RV.done ?_;refine CV.block ?_;refine CV.loop (X:={k:Nat // k<=max p.length q.length}) (fun k=>[(.s 6,.av (.one (.v (.int .i64 (k.1:Int))))),(.s 5,.av (.one (.sl 100 k.1))),(.b 100,.row 31 (some 4) (iE (fun i=>p.getD i 0+q.getD i 0) (3*(j+K)+20) k.1)),(.s 0,.av (.one (PL p j))),(.s 1,.av (.one (PL q K)))]) (fun k=>max p.length q.length-k.1) ⟨0,Nat.zero_le _⟩ (aZ.mk ⟨aB _,aB _,eE rfl,aB _,aB _,trivial⟩ rfl rfl) (fun k=>?_);obtain⟨k,hk⟩:=k;simp only;refine CV.seq ?_;refine sr rfl ?_;refine xm ?_;refine xm ?_;refine p1 (bH aV bC) ?_;refine p1 (cM) ?_;refine xm ?_;refine RV.bool (fun h0=>?_) (fun h0=>?_)
 ·have hlt:k<max p.length q.length:=(by have:=of_decide_eq_true h0; omega)
  refine xk ?_;refine xk ?_;refine xk ?_;refine xk ?_;refine p1 (dA) ?_;refine RV.done ?_;refine CV.yes rfl ?_;refine CV.skip ?_;refine CV.seq ?_;refine CV.block ?_;refine CV.region rfl (fun h=>nomatch h) ?_;refine xm ?_;refine xm ?_;refine xm ?_;refine xc (zK _ _ _) Tryz.func135 (xb rfl rfl) hfr ?_;refine xm ?_;refine xm ?_;refine xc (zK _ _ _) Tryz.func135 (xb rfl rfl) hfr ?_;refine xc (vJ _ _ _ _ hj hK) Tryz.func31 (xb rfl rfl) hfr ?_;refine p1 (dY (G:=Dm.gen (bO (some 4) [_])) (cG _ _) cA iS rfl rfl rfl (by intro s hs; obtain rfl:=List.mem_singleton.1 hs; rfl) rfl rfl rfl bd (xa rfl)) ?_;refine fX (aM.plain (iJ (r:=100) (r':=101) (fS (by decide) rfl) (by rw[fR]; show (k+1)*64<=_; omega) (by rw[fR]; show k+1<=_; omega) cA fZ rfl rfl rfl (by intro x hx; obtain rfl:=List.mem_singleton.1 hx; rfl) fR.symm rfl rfl bd rfl rfl rfl rfl rfl rfl rfl rfl) rfl) ?_;refine xn ?_;refine RV.done ?_;refine CV.region rfl (fun h=>nomatch h) ?_;refine xm ?_;refine p1 (cC (c:=((k+1:Nat):Int)) (by rw[bF (by omega) (by omega)]; omega) rfl rfl bd rfl rfl) ?_;refine xn ?_;refine RV.done ?_;exact⟨⟨k+1,hlt⟩,jI (fun i=>if i=100 then 101 else i) ⟨eT,jV rfl rfl,eE (by rw[qB,qB]; exact sT (f:=fun i=>p.getD i 0+q.getD i 0)),eT,eT,trivial⟩ rfl rfl rfl rfl,by show max p.length q.length-(k+1)<max p.length q.length-k; omega⟩
 ·refine y1 (bX (.inl rfl)) ?_;refine y1 (bX (.inl rfl)) ?_;refine y1 (bH aV bC) ?_;refine y1 (cM) ?_;refine p1 (dQ) ?_;refine RV.done ?_;refine CV.cond rfl (fun hc=>?_) (fun hc=>?_)
  ·have hlt:k<max p.length q.length:=(by have:=of_decide_eq_true hc; omega)
   refine CV.skip ?_;refine CV.seq ?_;refine CV.block ?_;refine CV.region rfl (fun h=>nomatch h) ?_;refine xm ?_;refine xm ?_;refine xm ?_;refine xc (zK _ _ _) Tryz.func135 (xb rfl rfl) hfr ?_;refine xm ?_;refine xm ?_;refine xc (zK _ _ _) Tryz.func135 (xb rfl rfl) hfr ?_;refine xc (vJ _ _ _ _ hj hK) Tryz.func31 (xb rfl rfl) hfr ?_;refine p1 (dY (G:=Dm.gen (bO (some 4) [_])) (cG _ _) cA iS rfl rfl rfl (by intro s hs; obtain rfl:=List.mem_singleton.1 hs; rfl) rfl rfl rfl bd (xa rfl)) ?_;refine fX (aM.plain (iJ (r:=100) (r':=101) (fS (by decide) rfl) (by rw[fR]; show (k+1)*64<=_; omega) (by rw[fR]; show k+1<=_; omega) cA fZ rfl rfl rfl (by intro x hx; obtain rfl:=List.mem_singleton.1 hx; rfl) fR.symm rfl rfl bd rfl rfl rfl rfl rfl rfl rfl rfl) rfl) ?_;refine xn ?_;refine RV.done ?_;refine CV.region rfl (fun h=>nomatch h) ?_;refine xm ?_;refine p1 (cC (c:=((k+1:Nat):Int)) (by rw[bF (by omega) (by omega)]; omega) rfl rfl bd rfl rfl) ?_;refine xn ?_;refine RV.done ?_;exact⟨⟨k+1,hlt⟩,jI (fun i=>if i=100 then 101 else i) ⟨eT,jV rfl rfl,eE (by rw[qB,qB]; exact sT (f:=fun i=>p.getD i 0+q.getD i 0)),eT,eT,trivial⟩ rfl rfl rfl rfl,by show max p.length q.length-(k+1)<max p.length q.length-k; omega⟩
  ·refine CV.exit ?_;refine CV.seq ?_;have hk1:k=max p.length q.length:=(by have h1:=of_decide_eq_false h0; have h2:=of_decide_eq_false hc; omega)
   subst hk1;rw[pR];refine iK (r:=100) (t:=5) (G:=Dm.gen (bO (some 4) (aW (tab (fun i=>p.getD i 0+q.getD i 0) (max p.length q.length)) (3*(j+K)+20)))) (cx.bw hfr) rfl rfl (by rw[aV,eW]) rfl rfl (cG _ _) (gR _ _) ?_;refine CV.region rfl (fun h=>nomatch h) ?_;refine xm ?_;refine xd rfl (iI _ _ (by rw[eW]; omega)) Tryz.func12 (xa rfl) hfr ?_;refine xn ?_;refine RV.done ?_;refine CV.ret ?_;exact aQ rfl (.inr rfl) rfl cE
theorem aBp (p:List Rat) (a:Rat) (j K:Nat) (hj:j<=1000000) (hK:K<=1000000) (hp:p.length<=1000000):aD Tryz.prog 46 [PL p j,RT a K] (.one (PL (aT p a) (3*(j+K)+20))):=by
 refine aD.of (n:=24) Tryz.func46 rfl rfl rfl rfl rfl fun cx hfr=>?_;refine sr rfl ?_;refine p2 (bZ (i:=0)) ?_;refine xn ?_;refine RV.done (sr rfl ?_);refine xn ?_;refine RV.done ?_;refine CV.seq ?_;refine CV.seq ?_;refine mA 5 100 31 (some 4) rfl rfl rfl rfl ?_;refine CV.region rfl (fun h=>nomatch h) ?_;refine xn ?_;refine RV.done ?_;refine CV.block ?_;refine CV.loop (X:={k:Nat // k<=p.length}) (fun k=>[(.s 6,.av (.one (.v (.int .i64 (k.1:Int))))),(.s 5,.av (.one (.sl 100 k.1))),(.b 100,.row 31 (some 4) (iE (fun i=>p.getD i 0*a) (3*(j+K)+20) k.1)),(.s 0,.av (.one (PL p j))),(.s 3,.av (.one (.ptr 0 0))),(.b 0,.blk 31 [(some 4,RT a K)])]) (fun k=>p.length-k.1) ⟨0,Nat.zero_le _⟩ (aZ.mk ⟨aB _,aB _,eE rfl,aB _,aB _,aB _,trivial⟩ rfl rfl) (fun k=>?_);obtain⟨k,hk⟩:=k;simp only;refine CV.seq ?_;refine sr rfl ?_;refine xm ?_;refine xm ?_;refine p1 (bH aV bC) ?_;refine p1 (cM) ?_;refine RV.done ?_;refine CV.cond rfl (fun hc=>?_) (fun hc=>?_)
 ·have hlt:k<p.length:=(by have:=of_decide_eq_true hc; omega)
  refine CV.skip ?_;refine CV.seq ?_;refine CV.block ?_;refine CV.region rfl (fun _=>by kernel_rfl) ?_;refine xm ?_;refine xm ?_;refine xm ?_;refine p1 (cH (k:=some 4) (i:=k) (dZ hlt) bC cF) ?_;refine p1 (bL aC) ?_;refine p1 (aJ aC) ?_;refine xc (vI _ _ _ _ hj hK) Tryz.func89 (xb rfl rfl) hfr ?_;refine p1 (dY (G:=Dm.gen (bO (some 4) [_])) (cG _ _) cA iS rfl rfl rfl (by intro s hs; obtain rfl:=List.mem_singleton.1 hs; rfl) rfl rfl rfl bd (xa rfl)) ?_;refine fX (aM.plain (iJ (r:=100) (r':=101) (fS (by decide) rfl) (by rw[fR]; show (k+1)*64<=_; omega) (by rw[fR]; show k+1<=_; omega) cA fZ rfl rfl rfl (by intro x hx; obtain rfl:=List.mem_singleton.1 hx; rfl) fR.symm rfl rfl bd rfl rfl rfl rfl rfl rfl rfl rfl) rfl) ?_;refine xn ?_;refine bQ (by kernel_rfl) ?_;refine CV.region rfl (fun h=>nomatch h) ?_;refine xm ?_;refine p1 (cC (c:=((k+1:Nat):Int)) (by rw[bF (by omega) (by omega)]; omega) rfl rfl bd rfl rfl) ?_;refine xn ?_;refine RV.done ?_;exact⟨⟨k+1,hlt⟩,jI (fun i=>if i=100 then 101 else i) ⟨eT,jV rfl rfl,eE (sT (f:=fun i=>p.getD i 0*a)),eT,fun _ _ _ _ h=>h,⟨rfl,fun _ _ _ _ h=>h⟩,trivial⟩ rfl rfl rfl rfl,by show p.length-(k+1)<p.length-k; omega⟩
 ·refine CV.exit ?_;refine CV.seq ?_;have hk1:k=p.length:=(by have:=of_decide_eq_false hc; omega)
  subst hk1;rw[pR];refine iK (r:=100) (t:=5) (G:=Dm.gen (bO (some 4) (aW (tab (fun i=>p.getD i 0*a) p.length) (3*(j+K)+20)))) (cx.bw hfr) rfl rfl (by rw[aV,eW]) rfl rfl (cG _ _) (gR _ _) ?_;refine CV.region rfl (fun h=>nomatch h) ?_;refine xm ?_;refine xd rfl (iI _ _ (by rw[eW]; omega)) Tryz.func12 (xa rfl) hfr ?_;refine xn ?_;refine RV.done ?_;refine CV.ret ?_;exact aQ rfl (.inr rfl) rfl cE
theorem aVh {k:Option Nat} {l l':List (SA Dm)} (h:fN (fun s s':SA Dm=>∀ L ρ w v,s.is L ρ w v->s'.is L ρ w v) l l'):∀ L ρ w cs,bV L ρ w (cY k l) cs->bV L ρ w (cY k l') cs:=by
 induction h with
 | nil=>intro L ρ w cs h; exact h
 | cons h1 _ ih =>
  rintro L ρ w cs ⟨p,r,v,e1,e2,e3,e4⟩;exact⟨p,r,v,e1,e2,h1 L ρ w v e3,ih L ρ w r e4⟩
theorem aSn {B:Nat}:∀ L ρ w v,(SA.v dL:SA Dm).is L ρ w v->(RT 0 B).is L ρ w v:=by
 intro L ρ w v hv w' _;obtain rfl:v=dL:=hv;have h0:(aA (0:Int).natAbs).length<=B:=by rw[show (0:Int).natAbs=0 from rfl,fW]; exact Nat.zero_le _
 exact⟨_,_,rfl,aL.nil (by decide),aL.nil (by decide),h0,h0⟩
theorem aT0 {T:TypeId} {n B:Nat} {f:Nat->Nat}:(XV.row T (some 4) (List.replicate n (SA.v dL)):XV Dm).leR f (.row T (some 4) (aW (List.replicate n 0) B)):=by
 have h:fN (fun s s':SA Dm=>∀ L ρ w v,s.is L ρ w v->s'.is L ρ w v) (List.replicate n (SA.v dL)) (aW (List.replicate n 0) B):=by
  unfold aW;rw[List.map_replicate]
  induction n with
  | zero=>exact .nil
  | succ n ih=>rw[List.replicate_succ,List.replicate_succ]; exact .cons aSn ih
 exact⟨rfl,rfl,h.length_eq,fun _=>oO,aVh h⟩
theorem aVo {l:List Rat} {B i:Nat} {a:Rat}:(aW l B).set i (RT a B)=aW (l.set i a) B:=by simp[aW,List.map_set]
def gW (p q:List Rat) (i:Nat):Nat->List Rat->List Rat
 | 0,l=>l
 | j+1,l=>(gW p q i j l).set (i+j) ((gW p q i j l).getD (i+j) 0+p.getD i 0*q.getD j 0)
def gM (p q:List Rat):Nat->List Rat
 | 0=>List.replicate (p.length+q.length-1) 0
 | i+1=>gW p q i q.length (gM p q i)
def iM (p q:List Rat):List Rat:=if p=[]\/q=[] then [] else aI (gM p q p.length)
theorem yX {p q:List Rat} {i:Nat}:∀ {j:Nat} {l:List Rat},(gW p q i j l).length=l.length
 | 0,_=>rfl
 | j+1,l=>by rw[gW,List.length_set,yX]
theorem tK {p q:List Rat}:∀ {i:Nat},(gM p q i).length=p.length+q.length-1
 | 0=>List.length_replicate
 | i+1=>by rw[gM,yX,tK]
theorem aL6 {l:List Rat} {B i:Nat} {a:Rat} (hl:aG l B=true) (ha:aG [a] B=true):aG (l.set i a) B=true:=pT fun b hb=>by
 rcases List.mem_or_eq_of_mem_set hb with hb | rfl
 ·exact wK hl hb
 ·exact ha
theorem aDv {p q:List Rat} {K J:Nat} (h1:1<=K) (h2:1<=J) (hp:aG p K=true) (hq:aG q J=true) {i:Nat}:∀ {j m:Nat} {l:List Rat},1<=m->aG l m=true->aG (gW p q i j l) (m+j*(K+J+1))=true
 | 0,m,l,_,hl=>oM (Nat.le_add_right _ _) hl
 | j+1,m,l,hm,hl=>by
  have ih:=aDv h1 h2 hp hq (i:=i) (j:=j) hm hl;rw[gW,Nat.succ_mul];refine aL6 (oM (by omega) ih) (lJ ?_ (aEn (by omega) (by omega) (tW ih (i+j)) (wJ h1 h2 (tW hp i) (tW hq j))));omega
theorem aDu {p q:List Rat} {K J:Nat} (h1:1<=K) (h2:1<=J) (hp:aG p K=true) (hq:aG q J=true):∀ {i:Nat},aG (gM p q i) (1+i*(q.length*(K+J+1)))=true
 | 0=>pT fun a ha=>by rw[List.eq_of_mem_replicate ha]; exact oS
 | i+1=>by
  rw[gM,Nat.succ_mul,<- Nat.add_assoc];exact aDv h1 h2 hp hq (by omega) (aDu h1 h2 hp hq)
theorem aQ4 (p q:List Rat) (K J B:Nat) (hp:p.length<=1000000) (hq:q.length<=1000000) (h:p=[]\/q=[]):aD Tryz.prog 42 [PL p K,PL q J] (.one (PL [] B)):=by
 refine aD.of (n:=58) Tryz.func42 rfl rfl rfl rfl rfl fun cx hfr=>?_;refine sr rfl ?_;refine xn ?_;refine RV.done ?_;refine CV.seq ?_;refine sr rfl ?_;refine xm ?_;refine p1 (bH aV bC) ?_;refine p1 (cQ) ?_;refine xm ?_;refine RV.bool (fun h0=>?_) (fun h0=>?_)
 ·refine xk ?_;refine xk ?_;refine xk ?_;refine p1 (dA) ?_;refine RV.done ?_;refine CV.yes rfl ?_;refine sr rfl ?_;refine xn ?_;refine RV.done ?_;refine CV.ret ?_;exact aQ rfl (.inr rfl) rfl (fun L ρ w v h=>nX L ρ w v h)
 ·refine y1 (bX (.inl rfl)) ?_;refine y1 (bH aV bC) ?_;refine y1 (cQ) ?_;refine p1 (dQ) ?_;refine RV.done ?_;refine CV.cond rfl (fun hc=>?_) (fun hc=>False.elim (h.elim (fun e=>by rw[e] at h0; simp at h0) (fun e=>by rw[e] at hc; simp at hc)));refine sr rfl ?_;refine xn ?_;refine RV.done ?_;refine CV.ret ?_;exact aQ rfl (.inr rfl) rfl (fun L ρ w v h=>nX L ρ w v h)
section
variable (p q:List Rat) (K J B:Nat) (hp:p.length<=100000) (hq:q.length<=100000) (hp0:p≠[]) (hq0:q≠[]) (hK:K<=150000) (hJ:J<=150000) (hB:B<=1000000) (hz:∀ i j,i<p.length->j<=q.length->aG (gW p q i j (gM p q i)) B=true)
include hp hq hp0 hq0 hK hJ hB hz
theorem aHs:aD Tryz.prog 42 [PL p K,PL q J] (.one (PL (aI (gM p q p.length)) B)):=by
 have hpl:=List.length_pos_iff.2 hp0;have hql:=List.length_pos_iff.2 hq0;refine aD.of (n:=58) Tryz.func42 rfl rfl rfl rfl rfl fun cx hfr=>?_;refine sr rfl ?_;refine xn ?_;refine RV.done ?_;refine CV.seq ?_;refine sr rfl ?_;refine xm ?_;refine p1 (bH aV bC) ?_;refine p1 (cQ) ?_;refine xm ?_;refine RV.bool (fun hb=>False.elim (by simp at hb; exact hp0 hb)) (fun hb=>?_);refine y1 (bX (.inl rfl)) ?_;refine y1 (bH aV bC) ?_;refine y1 (cQ) ?_;refine p1 (dQ) ?_;refine RV.done ?_;refine CV.cond rfl (fun hc=>False.elim (by simp at hc; exact hq0 hc)) (fun hc=>?_);refine CV.skip ?_;refine sr rfl ?_;refine xm ?_;refine p1 (bH aV bC) ?_;refine xm ?_;refine p1 (bH aV bC) ?_;refine p1 (cC (c:=((p.length+q.length:Nat):Int)) (by rw[bF (by omega) (by omega)]; omega) rfl rfl bd rfl rfl) ?_;refine p1 (dM (c:=((p.length+q.length-1:Nat):Int)) (by rw[bF (by omega) (by omega)]; omega) rfl rfl bd rfl rfl) ?_;refine p2 (wD (r:=22) (Nat.le_refl _) (by omega) (by omega) cA fZ rfl rfl rfl rfl bd rfl rfl rfl rfl rfl) ?_;refine xn ?_;refine RV.done ?_;refine CV.seq ?_;refine sr rfl ?_;refine xn ?_;refine RV.done ?_;refine CV.block ?_;refine CV.loop (X:={i:Nat // i<=p.length}) (fun i=>[(.s 6,.av (.one (.v (.int .i64 (i.1:Int))))),(.s 5,.av (.one (.sl 22 (p.length+q.length-1)))),(.b 22,.row 31 (some 4) (aW (gM p q i.1) B)),(.s 0,.av (.one (PL p K))),(.s 1,.av (.one (PL q J)))]) (fun i=>p.length-i.1) ⟨0,Nat.zero_le _⟩ (aZ.mk ⟨aB _,aB _,aT0,aB _,aB _,trivial⟩ rfl rfl) (fun i=>?_);obtain⟨i,hi⟩:=i;simp only;refine CV.seq ?_;refine sr rfl ?_;refine xm ?_;refine xm ?_;refine p1 (bH aV bC) ?_;refine p1 (cM) ?_;refine RV.done ?_;refine CV.cond rfl (fun hc=>?_) (fun hc=>?_)
 ·have hlt:i<p.length:=(by have:=of_decide_eq_true hc; omega)
  refine CV.skip ?_;refine CV.seq ?_;refine CV.block ?_;refine sr rfl ?_;refine xn ?_;refine RV.done ?_;refine CV.block ?_;refine CV.loop (X:={j:Nat // j<=q.length}) (fun j=>[(.s 7,.av (.one (.v (.int .i64 (j.1:Int))))),(.s 6,.av (.one (.v (.int .i64 (i:Int))))),(.s 5,.av (.one (.sl 22 (p.length+q.length-1)))),(.b 22,.row 31 (some 4) (aW (gW p q i j.1 (gM p q i)) B)),(.s 0,.av (.one (PL p K))),(.s 1,.av (.one (PL q J)))]) (fun j=>q.length-j.1) ⟨0,Nat.zero_le _⟩ (aZ.mk ⟨aB _,aB _,aB _,aB _,aB _,aB _,trivial⟩ rfl rfl) (fun j=>?_);obtain⟨j,hj⟩:=j;simp only;refine CV.seq ?_;refine sr rfl ?_;refine xm ?_;refine xm ?_;refine p1 (bH aV bC) ?_;refine p1 (cM) ?_;refine RV.done ?_;refine CV.cond rfl (fun hd=>?_) (fun hd=>?_)
  ·have hlj:j<q.length:=(by have:=of_decide_eq_true hd; omega)
   have hlen:(gW p q i j (gM p q i)).length=p.length+q.length-1:=(by rw[yX,tK])
   have hnew:=hz i (j+1) hlt hlj;have hel:=tW hnew (i+j);rw[gW,List.getD_eq_getElem?_getD,List.getElem?_set_self (by omega),Option.getD_some] at hel;refine CV.skip ?_;refine CV.seq ?_;refine CV.block ?_;refine CV.region rfl (fun _=>by kernel_rfl) ?_;refine xm ?_;refine xm ?_;refine xm ?_;refine p1 (cC (c:=((i+j:Nat):Int)) (by rw[bF (by omega) (by omega)]; omega) rfl rfl bd rfl rfl) ?_;refine xm ?_;refine xm ?_;refine xm ?_;refine p1 (cC (c:=((i+j:Nat):Int)) (by rw[bF (by omega) (by omega)]; omega) rfl rfl bd rfl rfl) ?_;refine p1 (mR (i:=i+j) (by omega) (by rw[aV]; omega) cA cF rfl rfl bd rfl rfl rfl) ?_;refine p1 (tL (i:=i+j) (dZ (by omega)) rfl aC (by show 0<4; decide) rfl rfl bd rfl rfl) ?_;refine xm ?_;refine xm ?_;refine p1 (cH (k:=some 4) (i:=i) (dZ hlt) bC cF) ?_;refine p1 (bL aC) ?_;refine xm ?_;refine xm ?_;refine p1 (cH (k:=some 4) (i:=j) (dZ hlj) bC cF) ?_;refine p1 (bL aC) ?_;refine xd rfl (vI _ _ _ _ (by omega) (by omega)) Tryz.func89 (xb rfl rfl) hfr ?_;refine xd rfl ((vJ _ _ B (3*(K+J)+20) (by omega) (by omega)).mono (fun _ _ _ _ h=>h) (dR hel)) Tryz.func31 (xb rfl rfl) hfr ?_;refine p1 (mR (i:=i+j) (by omega) (by rw[aV]; omega) cA cF rfl rfl bd rfl rfl rfl) ?_;refine p1 (sX (i:=i+j) (by rw[aV]; omega) (by show 0<4; decide) cF (.inl rfl) rfl rfl rfl rfl rfl rfl rfl rfl rfl) ?_;refine bQ (by kernel_rfl) ?_;refine CV.region rfl (fun h=>nomatch h) ?_;refine xm ?_;refine p1 (cC (c:=((j+1:Nat):Int)) (by rw[bF (by omega) (by omega)]; omega) rfl rfl bd rfl rfl) ?_;refine xn ?_;refine RV.done ?_;exact⟨⟨j+1,hlj⟩,aZ.mk ⟨aB _,aB _,aB _,eE aVo,aB _,aB _,trivial⟩ rfl rfl,by show q.length-(j+1)<q.length-j; omega⟩
  ·refine CV.exit ?_;have hjq:j=q.length:=(by have:=of_decide_eq_false hd; omega)
   subst hjq;refine CV.region rfl (fun h=>nomatch h) ?_;refine xm ?_;refine p1 (cC (c:=((i+1:Nat):Int)) (by rw[bF (by omega) (by omega)]; omega) rfl rfl bd rfl rfl) ?_;refine xn ?_;refine RV.done ?_;exact⟨⟨i+1,hlt⟩,aZ.mk ⟨aB _,aB _,eE rfl,aB _,aB _,trivial⟩ rfl rfl,by show p.length-(i+1)<p.length-i; omega⟩
 ·refine CV.exit ?_;refine CV.seq ?_;have hip:i=p.length:=(by have:=of_decide_eq_false hc; omega)
  subst hip;refine iK (r:=22) (t:=5) (G:=Dm.gen (bO (some 4) (aW (gM p q p.length) B))) (cx.bw hfr) rfl rfl (by rw[aV,tK]) rfl rfl (cG _ _) (gR _ _) ?_;refine CV.region rfl (fun h=>nomatch h) ?_;refine xm ?_;refine xd rfl (iI _ _ (by rw[tK]; omega)) Tryz.func12 (xa rfl) hfr ?_;refine xn ?_;refine RV.done ?_;refine CV.ret ?_;exact aQ rfl (.inr rfl) rfl cE
end
theorem aKl {zs:List Int} (hz:∀ z∈zs,-9223372036854775808<=z/\z<=9223372036854775807):∀ L ρ w v,(ZI .i64 zs).is L ρ w v->(SA.d (Dm.ints zs)).is L ρ w v:=by
 intro L ρ w v h w' hw;obtain⟨ao,cap,e,hle,hc⟩:=h w' hw;rw[lF] at e hle hc;refine⟨hz,ao,cap,e,hle.1,hle.2,fun hl=>?_⟩;obtain⟨b,off,e2,cs,h3,h4⟩:=hc hl;obtain rfl:=aIt h3;refine⟨b,off,e2,fun i hi=>h4 i _ ?_⟩;rw[List.getElem?_map,List.getElem?_eq_getElem hi,List.getD_eq_getElem?_getD,List.getElem?_eq_getElem hi];rfl
theorem aCf (p q:List Rat):(iM p q).length<=p.length+q.length-1:=by
 unfold iM;split
 ·exact Nat.zero_le _
 ·refine Nat.le_trans (iH _) ?_;rw[tK];exact Nat.le_refl _
theorem aSv {p q:List Rat} {K J:Nat} (h1:1<=K) (h2:1<=J) (hp:aG p K=true) (hq:aG q J=true):aG (iM p q) (1+p.length*(q.length*(K+J+1)))=true:=by
 unfold iM;split
 ·rfl
 ·exact tV (aDu h1 h2 hp hq)
theorem aHr (p q:List Rat) (K J B:Nat) (h1:1<=K) (h2:1<=J) (hzp:aG p K=true) (hzq:aG q J=true) (hp:p.length<=100000) (hq:q.length<=100000) (hK:K<=100000) (hJ:J<=100000) (hB:B<=100000) (hle:1+(p.length+1)*(q.length*(K+J+1))<=B):aD Tryz.prog 42 [PL p K,PL q J] (.one (PL (iM p q) B)):=by
 by_cases h:p=[]\/q=[]
 ·rw[iM,if_pos h];exact aQ4 p q K J B (by omega) (by omega) h
 ·rw[iM,if_neg h];refine aHs p q K J B hp hq (fun e=>h (.inl e)) (fun e=>h (.inr e)) (by omega) (by omega) (by omega) fun i j hi hj=>?_;refine oM ?_ (aDv h1 h2 hzp hzq (by omega) (aDu h1 h2 hzp hzq));have e1:i*(q.length*(K+J+1))+q.length*(K+J+1)<=(p.length+1)*(q.length*(K+J+1)):=by
   rw[<- Nat.succ_mul];exact Nat.mul_le_mul_right _ (by omega)
  have e2:=Nat.mul_le_mul_right (K+J+1) hj;omega
theorem aEm {a:Rat} {k:Nat} (h:aG [a] k=true):aG [-a] k=true:=by
 obtain⟨h1,h2⟩:=pS h;refine nV ?_ h2;rw[show (-a).num = -a.num from rfl];exact Vc.zN h1
theorem zH:aG [Rat.divInt 1 1] 1=true:=by decide +kernel
theorem xL (a b:Int):aG [bW a,bW b,Rat.divInt 1 1] 1=true:=aDw (tH a) (aDw (tH b) zH)
theorem uP (a:Int):aG [-(bW a),Rat.divInt 1 1] 1=true:=aDw (aEm (tH a)) zH
def eC (zs:List Int) (i n:Nat):List Rat:=if (zs.getD i 0).tmod 7=3/\i<4/\n<4 then [bW ((zs.getD i 0).tdiv 7),bW ((zs.getD i 0).tdiv 3),Rat.divInt 1 1] else [-(bW (zs.getD i 0)),Rat.divInt 1 1]
def cK (zs:List Int):Nat->List Rat
 | 0=>aI [Rat.divInt (1+iO zs 1 5) 1]
 | m+1=>iM (cK zs m) (aI (eC zs (m+2) (cK zs m).length))
def aM9 (zs:List Int):List Rat:=aI (tab (fun i=>bW (zs.getD (i+1) 0)) (min (zs.length-1) 5))
def kC (zs:List Int):List Rat:=if iO zs 0 3=0 then aM9 zs else cK zs (min (zs.length-2) 3)
theorem aJa (zs:List Int):aG (aM9 zs) 1=true:=tV (aVd fun _ _=>tH _)
theorem aLj (zs:List Int) (i n:Nat):aG (eC zs i n) 1=true:=by
 unfold eC;split
 ·exact xL _ _
 ·exact uP _
theorem rG (zs:List Int) (i n:Nat):(eC zs i n).length<=3:=by
 unfold eC;split<;>simp
def kB:Nat->Nat
 | 0=>1
 | m+1=>1+(2*m+2)*(3*(kB m+2))
theorem aMp:∀ {m:Nat},1<=kB m
 | 0=>Nat.le_refl _
 | m+1=>by rw[kB]; omega
theorem nK (zs:List Int):∀ m,(cK zs m).length<=2*m+1/\aG (cK zs m) (kB m)=true
 | 0=>by
  refine⟨iH _,tV ?_⟩;obtain⟨h1,h2⟩:=aAi zs 1 5 (by decide);have h:=yA (p:=1+iO zs 1 5) (q:=1) (k:=1) (by rw[kV]; omega) (by rw[kV]; decide);exact nV h.1 h.2
 | m+1=>by
  obtain⟨h1,h2⟩:=nK zs m;have hl:=iH (eC zs (m+2) (cK zs m).length);have hl2:=rG zs (m+2) (cK zs m).length;have hr:=aCf (cK zs m) (aI (eC zs (m+2) (cK zs m).length));refine⟨by rw[cK]; omega,oM ?_ (aSv aMp (Nat.le_refl 1) h2 (tV (aLj zs (m+2) (cK zs m).length)))⟩;rw[kB];have e1:(cK zs m).length*((aI (eC zs (m+2) (cK zs m).length)).length*(kB m+1+1))<=(2*m+2)*(3*(kB m+2)):=Nat.mul_le_mul (by omega) (Nat.mul_le_mul (by omega) (Nat.le_refl _));omega
theorem yS (zs:List Int) (m:Nat) (hm:m<=2):aD Tryz.prog 42 [PL (cK zs m) (kB m),PL (aI (eC zs (m+2) (cK zs m).length)) 1] (.one (PL (cK zs (m+1)) (kB (m+1)))):=by
 obtain⟨h1,h2⟩:=nK zs m;have hk:kB m<=253:=by
  match m,hm with
  | 0,_=>decide
  | 1,_=>decide
  | 2,_=>decide
 have hl:=iH (eC zs (m+2) (cK zs m).length);have hl2:=rG zs (m+2) (cK zs m).length;have e1:((cK zs m).length+1)*((aI (eC zs (m+2) (cK zs m).length)).length*(kB m+1+1))<=(2*m+2)*(3*(kB m+2)):=Nat.mul_le_mul (by omega) (Nat.mul_le_mul (by omega) (Nat.le_refl _));have e2:(2*m+2)*(3*(kB m+2))<=6*(3*255):=Nat.mul_le_mul (by omega) (by omega);rw[cK];refine aHr _ _ (kB m) 1 (kB (m+1)) aMp (Nat.le_refl _) h2 (tV (aLj zs (m+2) (cK zs m).length)) (by omega) (by omega) (by omega) (by decide) (by rw[kB]; omega) (by rw[kB]; omega)
theorem aAn {z:Int} (h1 : -9223372036854775808<=z) (h2:z<=9223372036854775807) : -9223372036854775808<=z.tdiv 7/\z.tdiv 7<=9223372036854775807:=by
 rcases Int.le_total 0 z with h | h
 ·rw[Int.tdiv_eq_ediv_of_nonneg h];omega
 ·obtain⟨y,rfl⟩:∃ y,z = -y:=⟨-z,by omega⟩
  rw[Int.neg_tdiv,Int.tdiv_eq_ediv_of_nonneg (by omega)];omega
theorem aAo {z:Int} (h1 : -9223372036854775808<=z) (h2:z<=9223372036854775807) : -9223372036854775808<=z.tdiv 3/\z.tdiv 3<=9223372036854775807:=by
 rcases Int.le_total 0 z with h | h
 ·rw[Int.tdiv_eq_ediv_of_nonneg h];omega
 ·obtain⟨y,rfl⟩:∃ y,z = -y:=⟨-z,by omega⟩
  rw[Int.neg_tdiv,Int.tdiv_eq_ediv_of_nonneg (by omega)];omega
theorem aAr {m:Nat} (h:m<=3):kB m<=5000:=by
 match m,h with
 | 0,_=>decide
 | 1,_=>decide
 | 2,_=>decide
 | 3,_=>decide
section
variable (zs:List Int) (hz:∀ z∈zs,-9223372036854775808<=z/\z<=9223372036854775807)
include hz
theorem aE7 (i:Nat) : -9223372036854775808<=zs.getD i 0/\zs.getD i 0<=9223372036854775807:=by
 rcases Nat.lt_or_ge i zs.length with h | h
 ·rw[List.getD_eq_getElem?_getD,List.getElem?_eq_getElem h];exact hz _ (List.getElem_mem h)
 ·rw[List.getD_eq_getElem?_getD,List.getElem?_eq_none h];exact⟨by decide,by decide⟩
theorem aQ3:aD Tryz.prog 9 [ZI .i64 zs] (.one (PL (kC zs) 5000)):=by
 have h03:=aAi zs 0 3 (by decide);have h15:=aAi zs 1 5 (by decide);refine aD.of (n:=89) Tryz.func9 rfl rfl rfl rfl rfl fun cx hfr=>?_;refine sr rfl ?_;refine xn ?_;refine RV.done ?_;refine CV.seq ?_;refine sr rfl ?_;refine xm ?_;refine xd rfl (aNl zs 0 3 (by decide) (by decide)) Tryz.func41 (.cons rfl ⟨rfl,aKl hz⟩ (xb rfl rfl)) hfr ?_;refine p1 (cQ) ?_;refine RV.done ?_;refine CV.cond rfl (fun h0=>?_) (fun h0=>?_)
 ·have e0:iO zs 0 3=0:=beq_iff_eq.1 h0;refine sr rfl ?_;refine xn ?_;refine RV.done ?_;refine CV.seq ?_;refine CV.seq ?_;refine mA 3 100 31 (some 4) rfl rfl rfl rfl ?_;refine CV.region rfl (fun h=>nomatch h) ?_;refine xn ?_;refine RV.done ?_;refine CV.block ?_;refine CV.loop (X:={k:Nat // k<=min (zs.length-1) 5}) (fun k=>[(.s 4,.av (.one (.v (.int .i64 ((k.1+1:Nat):Int))))),(.s 3,.av (.one (.sl 100 k.1))),(.b 100,.row 31 (some 4) (iE (fun i=>bW (zs.getD (i+1) 0)) 1 k.1)),(.s 0,.av (.one (ZI .i64 zs)))]) (fun k=>zs.length-k.1) ⟨0,Nat.zero_le _⟩ (aZ.mk ⟨aB _,aB _,eE rfl,aB _,trivial⟩ rfl rfl) (fun k=>?_);obtain⟨k,hk⟩:=k;simp only;refine CV.seq ?_;refine sr rfl ?_;refine xm ?_;refine xm ?_;refine p1 (bH (lF _) gU) ?_;refine p1 (cM) ?_;refine xm ?_;refine RV.bool (fun g1=>?_) (fun g1=>?_)
  ·refine y1 (bX (.inl rfl)) ?_;refine y1 (cM) ?_;refine p1 (dA) ?_;refine RV.done ?_;refine CV.cond rfl (fun hc=>?_) (fun hc=>?_)
   ·have hlt:k+1<zs.length:=(by have:=of_decide_eq_true g1; omega)
    have hlt6:k<5:=(by have:=of_decide_eq_true hc; omega)
    refine CV.skip ?_;refine CV.seq ?_;refine CV.block ?_;refine CV.region rfl (fun h=>nomatch h) ?_;refine xm ?_;refine xm ?_;refine xm ?_;refine p1 (cH (k:=none) (i:=k+1) (pA hlt) gU nT) ?_;refine p1 (bL gG) ?_;refine xc (sK _ (aE7 zs hz (k+1)).1 (aE7 zs hz (k+1)).2) Tryz.func11 (xa rfl) hfr ?_;refine p1 (dY (G:=Dm.gen (bO (some 4) [_])) (cG _ _) cA iS rfl rfl rfl (by intro s hs; obtain rfl:=List.mem_singleton.1 hs; rfl) rfl rfl rfl bd (xa rfl)) ?_;refine fX (aM.plain (iJ (r:=100) (r':=101) (fS (by decide) rfl) (by rw[fR]; show (k+1)*64<=_; omega) (by rw[fR]; show k+1<=_; omega) cA fZ rfl rfl rfl (by intro x hx; obtain rfl:=List.mem_singleton.1 hx; rfl) fR.symm rfl rfl bd rfl rfl rfl rfl rfl rfl rfl rfl) rfl) ?_;refine xn ?_;refine RV.done ?_;refine CV.region rfl (fun h=>nomatch h) ?_;refine xm ?_;refine p1 (cC (c:=((k+1+1:Nat):Int)) (by rw[bF (by omega) (by omega)]; omega) rfl rfl bd rfl rfl) ?_;refine xn ?_;refine RV.done ?_;exact⟨⟨k+1,by omega⟩,jI (fun i=>if i=100 then 101 else i) ⟨eT,jV rfl rfl,eE (sT (f:=fun i=>bW (zs.getD (i+1) 0))),eT,trivial⟩ rfl rfl rfl rfl,by show zs.length-(k+1)<zs.length-k; omega⟩
   ·refine CV.exit ?_;refine CV.seq ?_;have hk1:k=min (zs.length-1) 5:=(by have h2:=of_decide_eq_false hc; omega)
    subst hk1;rw[pR];refine iK (r:=100) (t:=3) (G:=Dm.gen (bO (some 4) (aW (tab (fun i=>bW (zs.getD (i+1) 0)) (min (zs.length-1) 5)) 1))) (cx.bw hfr) rfl rfl (by rw[aV,eW]) rfl rfl (cG _ _) (gR _ _) ?_;refine CV.region rfl (fun h=>nomatch h) ?_;refine xm ?_;refine xd rfl ((iI _ _ (by rw[eW]; omega)).mono (fun _ _ _ _ h=>h) (dG (B:=5000) (oM (by decide) (aJa zs)))) Tryz.func12 (xa rfl) hfr ?_;refine xn ?_;refine RV.done ?_;refine CV.ret ?_;exact aQ rfl (.inr rfl) rfl (kF (by rw[kC,if_pos e0]; rfl))
  ·refine xk ?_;refine xk ?_;refine p1 (dQ) ?_;refine RV.done ?_;refine CV.no rfl ?_;refine CV.exit ?_;refine CV.seq ?_;have hk1:k=min (zs.length-1) 5:=(by have h2:=of_decide_eq_false g1; omega)
   subst hk1;rw[pR];refine iK (r:=100) (t:=3) (G:=Dm.gen (bO (some 4) (aW (tab (fun i=>bW (zs.getD (i+1) 0)) (min (zs.length-1) 5)) 1))) (cx.bw hfr) rfl rfl (by rw[aV,eW]) rfl rfl (cG _ _) (gR _ _) ?_;refine CV.region rfl (fun h=>nomatch h) ?_;refine xm ?_;refine xd rfl ((iI _ _ (by rw[eW]; omega)).mono (fun _ _ _ _ h=>h) (dG (B:=5000) (oM (by decide) (aJa zs)))) Tryz.func12 (xa rfl) hfr ?_;refine xn ?_;refine RV.done ?_;refine CV.ret ?_;exact aQ rfl (.inr rfl) rfl (kF (by rw[kC,if_pos e0]; rfl))
 ·have e0:¬ iO zs 0 3=0:=beq_eq_false_iff_ne.1 h0;refine CV.skip ?_;refine sr rfl ?_;refine xm ?_;refine xd rfl (aNl zs 1 5 (by decide) (by decide)) Tryz.func41 (.cons rfl ⟨rfl,aKl hz⟩ (xb rfl rfl)) hfr ?_;refine p1 (cC (c:=1+iO zs 1 5) (by rw[bF (by omega) (by omega)]) rfl rfl bd rfl rfl) ?_;refine xd rfl (iL (1+iO zs 1 5) 1 (by omega) (by omega) (by decide) (by decide)) Tryz.func32 (xb rfl rfl) hfr ?_;refine p1 (dY (G:=Dm.gen (bO (some 4) (aW [Rat.divInt (1+iO zs 1 5) 1] 6))) (ss:=aW [Rat.divInt (1+iO zs 1 5) 1] 6) (cG _ _) cA iS rfl rfl rfl nQ rfl rfl rfl bd (xa rfl)) ?_;refine xc ((iI [Rat.divInt (1+iO zs 1 5) 1] 6 (Nat.le_of_ble_eq_true rfl)).mono (fun _ _ _ _ h=>h) (dG (nK zs 0).2)) Tryz.func12 (xa rfl) hfr ?_;refine xn ?_;refine RV.done ?_;refine CV.seq ?_;refine sr rfl ?_;refine xn ?_;refine RV.done ?_;refine CV.block ?_;refine CV.loop (X:={m:Nat // m<=min (zs.length-2) 3}) (fun m=>[(.s 6,.av (.one (.v (.int .i64 ((m.1+2:Nat):Int))))),(.s 5,.av (.one (PL (cK zs m.1) (kB m.1)))),(.s 0,.av (.one (ZI .i64 zs)))]) (fun m=>zs.length-m.1) ⟨0,Nat.zero_le _⟩ (aZ.mk ⟨aB _,aB _,aB _,trivial⟩ rfl rfl) (fun m=>?_);obtain⟨m,hm⟩:=m;simp only;refine CV.seq ?_;refine sr rfl ?_;refine xm ?_;refine xm ?_;refine p1 (bH (lF _) gU) ?_;refine p1 (cM) ?_;refine xm ?_;refine RV.bool (fun g1=>?_) (fun g1=>?_)
  ·refine y1 (bX (.inl rfl)) ?_;refine y1 (cM) ?_;refine p1 (dA) ?_;refine RV.done ?_;refine CV.cond rfl (fun hc=>?_) (fun hc=>?_)
   ·have hlt:m+2<zs.length:=(by have:=of_decide_eq_true g1; omega)
    have hm3:m<3:=(by have:=of_decide_eq_true hc; omega)
    have hzm:=aE7 zs hz (m+2);have hpf:=nK zs m;have hpf1:=nK zs (m+1);have hk1:=aAr (m:=m) (by omega);have hk2:=aAr (m:=m+1) (by omega);refine CV.skip ?_;refine CV.seq ?_;refine CV.block ?_;refine sr rfl ?_;refine xm ?_;refine xm ?_;refine p1 (cH (k:=none) (i:=m+2) (pA hlt) gU nT) ?_;refine p1 (bL gG) ?_;refine xc (sK _ hzm.1 hzm.2) Tryz.func11 (xa rfl) hfr ?_;refine xc (aCg _ _) Tryz.func24 (xa rfl) hfr ?_;refine xd rfl ((iL 1 1 (by decide) (by decide) (by decide) (by decide)).mono (fun _ _ _ _ h=>h) (dR zH)) Tryz.func32 (xb rfl rfl) hfr ?_;refine p1 (dY (G:=Dm.gen (bO (some 4) (aW [-(bW (zs.getD (m+2) 0)),Rat.divInt 1 1] 1))) (ss:=aW [-(bW (zs.getD (m+2) 0)),Rat.divInt 1 1] 1) (cG _ _) cA iS rfl rfl rfl nQ rfl rfl rfl bd (xb rfl rfl)) ?_;refine xn ?_;refine RV.done ?_;refine CV.seq ?_;refine sr rfl ?_;refine xm ?_;refine xm ?_;refine p1 (cH (k:=none) (i:=m+2) (pA hlt) gU nT) ?_;refine p1 (bL gG) ?_;refine p1 (wL) ?_;refine p1 (cQ) ?_;refine xm ?_;refine RV.bool (fun n1=>?_) (fun n1=>?_)
    ·refine y1 (bX (.inl rfl)) ?_;refine y1 (cM) ?_;refine p1 (dA) ?_;refine xm ?_;refine RV.bool (fun n2=>?_) (fun n2=>?_)
     ·refine y1 (bX (.inl rfl)) ?_;refine y1 (bH aV bC) ?_;refine y1 (cM) ?_;refine p1 (dA) ?_;refine RV.done ?_;refine CV.cond rfl (fun n3=>?_) (fun n3=>?_)
      ·refine CV.region rfl (fun _=>by kernel_rfl) ?_;refine xm ?_;refine xm ?_;refine p1 (cH (k:=none) (i:=m+2) (pA hlt) gU nT) ?_;refine p1 (bL gG) ?_;refine p1 (aEq (c:=(zs.getD (m+2) 0).tdiv 7) (by decide) (bF (aAn hzm.1 hzm.2).1 (aAn hzm.1 hzm.2).2) rfl rfl bd rfl rfl) ?_;refine xc (sK _ (aAn hzm.1 hzm.2).1 (aAn hzm.1 hzm.2).2) Tryz.func11 (xa rfl) hfr ?_;refine xm ?_;refine xm ?_;refine p1 (cH (k:=none) (i:=m+2) (pA hlt) gU nT) ?_;refine p1 (bL gG) ?_;refine p1 (aEq (c:=(zs.getD (m+2) 0).tdiv 3) (by decide) (bF (aAo hzm.1 hzm.2).1 (aAo hzm.1 hzm.2).2) rfl rfl bd rfl rfl) ?_;refine xc (sK _ (aAo hzm.1 hzm.2).1 (aAo hzm.1 hzm.2).2) Tryz.func11 (xa rfl) hfr ?_;refine xd rfl ((iL 1 1 (by decide) (by decide) (by decide) (by decide)).mono (fun _ _ _ _ h=>h) (dR zH)) Tryz.func32 (xb rfl rfl) hfr ?_;refine p1 (dY (G:=Dm.gen (bO (some 4) (aW [bW ((zs.getD (m+2) 0).tdiv 7),bW ((zs.getD (m+2) 0).tdiv 3),Rat.divInt 1 1] 1))) (ss:=aW [bW ((zs.getD (m+2) 0).tdiv 7),bW ((zs.getD (m+2) 0).tdiv 3),Rat.divInt 1 1] 1) (cG _ _) cA iS rfl rfl rfl nQ rfl rfl rfl bd (.cons rfl cS.any (xb rfl rfl))) ?_;refine xn ?_;refine bQ (by kernel_rfl) ?_;have hf:eC zs (m+2) (cK zs m).length=[bW ((zs.getD (m+2) 0).tdiv 7),bW ((zs.getD (m+2) 0).tdiv 3),Rat.divInt 1 1]:=(by unfold eC; rw[if_pos ⟨beq_iff_eq.1 n1,by have:=of_decide_eq_true n2; omega,by have:=of_decide_eq_true n3; omega⟩])
       rw[<- hf];refine CV.region rfl (fun h=>nomatch h) ?_;refine xm ?_;refine xm ?_;refine xd rfl (iI (eC zs (m+2) (cK zs m).length) 1 (by have:=rG zs (m+2) (cK zs m).length; omega)) Tryz.func12 (xa rfl) hfr ?_;refine xd rfl (yS zs m (by omega)) Tryz.func42 (xb rfl rfl) hfr ?_;refine xn ?_;refine RV.done ?_;refine CV.region rfl (fun h=>nomatch h) ?_;refine xm ?_;refine p1 (cC (c:=((m+1+2:Nat):Int)) (by rw[bF (by omega) (by omega)]; omega) rfl rfl bd rfl rfl) ?_;refine xn ?_;refine RV.done ?_;exact⟨⟨m+1,by omega⟩,aZ.mk ⟨aB _,aB _,aB _,trivial⟩ rfl rfl,by show zs.length-(m+1)<zs.length-m; omega⟩
      ·refine CV.skip ?_;have hf:eC zs (m+2) (cK zs m).length=[-(bW (zs.getD (m+2) 0)),Rat.divInt 1 1]:=(by unfold eC; rw[if_neg (fun h=>by have:=of_decide_eq_false n3; omega)])
       rw[<- hf];refine CV.region rfl (fun h=>nomatch h) ?_;refine xm ?_;refine xm ?_;refine xd rfl (iI (eC zs (m+2) (cK zs m).length) 1 (by have:=rG zs (m+2) (cK zs m).length; omega)) Tryz.func12 (xa rfl) hfr ?_;refine xd rfl (yS zs m (by omega)) Tryz.func42 (xb rfl rfl) hfr ?_;refine xn ?_;refine RV.done ?_;refine CV.region rfl (fun h=>nomatch h) ?_;refine xm ?_;refine p1 (cC (c:=((m+1+2:Nat):Int)) (by rw[bF (by omega) (by omega)]; omega) rfl rfl bd rfl rfl) ?_;refine xn ?_;refine RV.done ?_;exact⟨⟨m+1,by omega⟩,aZ.mk ⟨aB _,aB _,aB _,trivial⟩ rfl rfl,by show zs.length-(m+1)<zs.length-m; omega⟩
     ·refine xk ?_;refine xk ?_;refine xk ?_;refine p1 (dQ) ?_;refine RV.done ?_;refine CV.no rfl ?_;refine CV.skip ?_;have hf:eC zs (m+2) (cK zs m).length=[-(bW (zs.getD (m+2) 0)),Rat.divInt 1 1]:=(by unfold eC; rw[if_neg (fun h=>by have:=of_decide_eq_false n2; omega)])
      rw[<- hf];refine CV.region rfl (fun h=>nomatch h) ?_;refine xm ?_;refine xm ?_;refine xd rfl (iI (eC zs (m+2) (cK zs m).length) 1 (by have:=rG zs (m+2) (cK zs m).length; omega)) Tryz.func12 (xa rfl) hfr ?_;refine xd rfl (yS zs m (by omega)) Tryz.func42 (xb rfl rfl) hfr ?_;refine xn ?_;refine RV.done ?_;refine CV.region rfl (fun h=>nomatch h) ?_;refine xm ?_;refine p1 (cC (c:=((m+1+2:Nat):Int)) (by rw[bF (by omega) (by omega)]; omega) rfl rfl bd rfl rfl) ?_;refine xn ?_;refine RV.done ?_;exact⟨⟨m+1,by omega⟩,aZ.mk ⟨aB _,aB _,aB _,trivial⟩ rfl rfl,by show zs.length-(m+1)<zs.length-m; omega⟩
    ·refine xk ?_;refine xk ?_;refine p1 (dQ) ?_;refine xm ?_;refine xk ?_;refine xk ?_;refine xk ?_;refine p1 (dQ) ?_;refine RV.done ?_;refine CV.no rfl ?_;refine CV.skip ?_;have hf:eC zs (m+2) (cK zs m).length=[-(bW (zs.getD (m+2) 0)),Rat.divInt 1 1]:=(by unfold eC; rw[if_neg (fun h=>by rw[beq_eq_false_iff_ne] at n1; exact n1 h.1)])
     rw[<- hf];refine CV.region rfl (fun h=>nomatch h) ?_;refine xm ?_;refine xm ?_;refine xd rfl (iI (eC zs (m+2) (cK zs m).length) 1 (by have:=rG zs (m+2) (cK zs m).length; omega)) Tryz.func12 (xa rfl) hfr ?_;refine xd rfl (yS zs m (by omega)) Tryz.func42 (xb rfl rfl) hfr ?_;refine xn ?_;refine RV.done ?_;refine CV.region rfl (fun h=>nomatch h) ?_;refine xm ?_;refine p1 (cC (c:=((m+1+2:Nat):Int)) (by rw[bF (by omega) (by omega)]; omega) rfl rfl bd rfl rfl) ?_;refine xn ?_;refine RV.done ?_;exact⟨⟨m+1,by omega⟩,aZ.mk ⟨aB _,aB _,aB _,trivial⟩ rfl rfl,by show zs.length-(m+1)<zs.length-m; omega⟩
   ·refine CV.exit ?_;refine CV.seq ?_;have hmm:m=min (zs.length-2) 3:=(by have h2:=of_decide_eq_false hc; omega)
    refine CV.region rfl (fun h=>nomatch h) ?_;refine xm ?_;refine xn ?_;refine RV.done ?_;refine CV.ret ?_;exact aQ rfl (.inr rfl) rfl (by rw[kC,if_neg e0,<- hmm]; exact dG (oM (aAr (by omega)) (nK zs m).2))
  ·refine xk ?_;refine xk ?_;refine p1 (dQ) ?_;refine RV.done ?_;refine CV.no rfl ?_;refine CV.exit ?_;refine CV.seq ?_;have hmm:m=min (zs.length-2) 3:=(by have h2:=of_decide_eq_false g1; omega)
   refine CV.region rfl (fun h=>nomatch h) ?_;refine xm ?_;refine xn ?_;refine RV.done ?_;refine CV.ret ?_;exact aQ rfl (.inr rfl) rfl (by rw[kC,if_neg e0,<- hmm]; exact dG (oM (aAr (by omega)) (nK zs m).2))
end
theorem cN (l:List Rat):aI (aI l)=aI l:=by
 rcases aGj l with h | h
 ·rw[h]; rfl
 ·generalize aI l=m at *;by_cases hm:m=[]
  ·rw[hm]; rfl
  ·obtain⟨m',a,rfl⟩:∃ m' a,m=m'++[a]:=⟨m.dropLast,m.getLast hm,(List.dropLast_concat_getLast _).symm⟩
   have ha:a≠0:=by simpa using h
   rw[qW,if_neg ha]
theorem aGl (p q:List Rat):aI (iM p q)=iM p q:=by
 unfold iM;split
 ·rfl
 ·exact cN _
theorem aPs (zs:List Int):aI (kC zs)=kC zs:=by
 unfold kC;split
 ·exact cN _
 ·cases h:min (zs.length-2) 3 with
  | zero=>exact cN _
  | succ m=>exact aGl _ _
end Vc
end Go.Proofs.YtjmbkipbmbnhjaaGreat

namespace Go.Proofs.YtjmbkipbmbnhjaaGreat
open Go.RowKit
open Dg Zn
namespace Vc
def ev:List Rat->Rat->Rat
 | [],_=>0
 | a::l,x=>a+x*ev l x
theorem aCw {l:List Rat} (h:aI l=[]):∀ k,l.getD k 0=0:=by
 induction l with
 | nil=>intro k; rfl
 | cons a l ih =>
  rw[aI] at h;by_cases h1:aI l=[]
  ·rw[if_pos h1] at h;by_cases h0:a=0
   ·subst h0;intro k;cases k with
    | zero=>rfl
    | succ k=>exact ih h1 k
   ·rw[if_neg h0] at h; cases h
  ·rw[if_neg h1] at h; cases h
theorem aC6 {l:List Rat} (h:∀ k,l.getD k 0=0):aI l=[]:=by
 induction l with
 | nil=>rfl
 | cons a l ih =>
  have h1:aI l=[]:=ih fun k=>h (k+1);have h0:a=0:=h 0;rw[aI,if_pos h1,if_pos h0]
theorem aIy:∀ {p q:List Rat},(∀ k,p.getD k 0=q.getD k 0)->aI p=aI q
 | [],q,h=>(aC6 fun k=>(h k).symm).symm
 | a::p,[],h=>aC6 h
 | a::p,b::q,h=>by
  have h1:=aIy (p:=p) (q:=q) fun k=>h (k+1);obtain rfl:a=b:=h 0;rw[aI,aI,h1]
theorem yI (l:List Rat):∀ k,(aI l).getD k 0=l.getD k 0:=by
 induction l with
 | nil=>intro k; rfl
 | cons a l ih =>
  intro k;rw[aI];by_cases h1:aI l=[]
  ·rw[if_pos h1];have:=aCw h1;cases k with
   | zero=>split<;>simp_all
   | succ k => 
    have e:=this k;split
    ·simpa using e.symm
    ·simpa using e.symm
  ·rw[if_neg h1];cases k with
   | zero=>rfl
   | succ k=>exact ih k
theorem pY:∀ {l:List Rat},(∀ k,l.getD k 0=0)->∀ x,ev l x=0
 | [],_,x=>rfl
 | a::l,h,x=>by
  have h0:a=0:=h 0;rw[ev,h0,pY (l:=l) fun k=>h (k+1)];grind
theorem aAe:∀ {p q:List Rat},(∀ k,p.getD k 0=q.getD k 0)->∀ x,ev p x=ev q x
 | [],q,h,x=>(pY (fun k=>(h k).symm) x).symm
 | a::p,[],h,x=>pY h x
 | a::p,b::q,h,x=>by
  obtain rfl:a=b:=h 0;rw[ev,ev,aAe (p:=p) (q:=q) (fun k=>h (k+1))]
theorem pZ (l:List Rat) (x:Rat):ev (aI l) x=ev l x:=aAe (yI l) x
theorem aQs (g:Nat->Rat) (n:Nat):tab g (n+1)=g 0::tab (fun k=>g (k+1)) n:=by
 unfold tab;rw[List.range_succ_eq_map,List.map_cons,List.map_map];rfl
theorem rJ {g:Nat->Rat} {n k:Nat}:(tab g n).getD k 0=if k<n then g k else 0:=by
 unfold tab;rw[List.getD_eq_getElem?_getD,List.getElem?_map];by_cases h:k<n
 ·rw[if_pos h,List.getElem?_range h]; rfl
 ·rw[if_neg h,List.getElem?_eq_none (by rw[List.length_range]; omega)]; rfl
theorem sH (g:Nat->Rat) (n:Nat) (x:Rat):ev (tab g (n+1)) x=g 0+x*ev (tab (fun k=>g (k+1)) n) x:=by rw[aQs,ev]
theorem aB7 (f g:Nat->Rat) (x:Rat):∀ n,ev (tab (fun k=>f k+g k) n) x=ev (tab f n) x+ev (tab g n) x:=by
 intro n
 induction n generalizing f g with
 | zero=>show (0:Rat)=0+0; grind
 | succ n ih=>rw[sH,sH,sH,ih]; grind
theorem aBj (f:Nat->Rat) (a x:Rat):∀ n,ev (tab (fun k=>f k*a) n) x=ev (tab f n) x*a:=by
 intro n
 induction n generalizing f with
 | zero=>show (0:Rat)=0*a; grind
 | succ n ih=>rw[sH,sH,ih]; grind
theorem uE (p:List Rat) {n:Nat} (h:p.length<=n) (x:Rat):ev (tab (fun k=>p.getD k 0) n) x=ev p x:=by
 refine aAe (fun k=>?_) x;rw[rJ];by_cases hk:k<n
 ·rw[if_pos hk]
 ·rw[if_neg hk,dC (by omega)]
theorem qI (p q:List Rat) (x:Rat):ev (kL p q) x=ev p x+ev q x:=by
 rw[kL,pZ,aB7,uE p (Nat.le_max_left _ _),uE q (Nat.le_max_right _ _)]
theorem cP (p:List Rat) (a x:Rat):ev (aT p a) x=ev p x*a:=by
 rw[aT,pZ,aBj,uE p (Nat.le_refl _)]
theorem qH (p q:List Rat) (x:Rat):ev (kX p q) x=ev p x-ev q x:=by
 have e:(fun k=>p.getD k 0-q.getD k 0)=fun k=>p.getD k 0+q.getD k 0*(-1):=by funext k; grind
 rw[kX,pZ,e,aB7,aBj,uE p (Nat.le_max_left _ _),uE q (Nat.le_max_right _ _)];grind
theorem aLn:∀ {l:List Rat},aI l≠[]->∃ e N:Rat,0<e/\((∀ x,N<=x->e<=ev l x)\/(∀ x,N<=x->ev l x <= -e))
 | [],h=>absurd rfl h
 | a::l,h=>by
  rw[aI] at h;by_cases h1:aI l=[]
  ·rw[if_pos h1] at h;have h0:a≠0:=fun e=>h (by rw[if_pos e]);have hz:=pY (aCw h1);rcases (by grind:0<a\/0 < -a) with hp | hp
   ·exact⟨a,0,hp,.inl fun x _=>by rw[ev,hz]; grind⟩
   ·exact⟨-a,0,hp,.inr fun x _=>by rw[ev,hz]; grind⟩
  ·obtain⟨e,N,he,hN⟩:=aLn h1;obtain⟨M,m1,m2,m3,m4⟩:∃ M:Rat,N<=M/\0<=M/\e-a<=M*e/\e+a<=M*e:=by
    have hi:e*e⁻¹=1:=Rat.mul_inv_cancel e (by grind);have hi0:0<=e⁻¹:=Rat.le_of_lt (Rat.inv_pos.2 he);have hge:∀ y:Rat,∃ z:Rat,y<=z/\0<=z:=fun y=>by
     rcases (by grind:y<=0\/0<=y) with q | q
     ·exact⟨0,q,by grind⟩
     ·exact⟨y,by grind,q⟩
    obtain⟨z1,a1,a2⟩:=hge N;obtain⟨z2,b1,b2⟩:=hge (e-a);obtain⟨z3,c1,c2⟩:=hge (e+a);refine⟨z1+z2*e⁻¹+z3*e⁻¹,?_,?_,?_,?_⟩
    ·have:=Rat.mul_nonneg b2 hi0;have:=Rat.mul_nonneg c2 hi0;grind
    ·have:=Rat.mul_nonneg b2 hi0;have:=Rat.mul_nonneg c2 hi0;grind
    ·have:=Rat.mul_nonneg a2 (Rat.le_of_lt he);have q:(z1+z2*e⁻¹+z3*e⁻¹)*e=z1*e+z2+z3:=by grind
     grind
    ·have:=Rat.mul_nonneg a2 (Rat.le_of_lt he);have q:(z1+z2*e⁻¹+z3*e⁻¹)*e=z1*e+z2+z3:=by grind
     grind
   refine⟨e,M,he,?_⟩;rcases hN with hN | hN
   ·refine .inl fun x hx=>?_;have h2:=hN x (by grind);have h3:M*e<=x*ev l x:=by
     have q1:M*e<=x*e:=Rat.mul_le_mul_of_nonneg_right hx (Rat.le_of_lt he);have q2:x*e<=x*ev l x:=Rat.mul_le_mul_of_nonneg_left h2 (by grind);grind
    rw[ev];grind
   ·refine .inr fun x hx=>?_;have h2:=hN x (by grind);have h3:M*e<=x*(- ev l x):=by
     have q1:M*e<=x*e:=Rat.mul_le_mul_of_nonneg_right hx (Rat.le_of_lt he);have q2:x*e<=x*(- ev l x):=Rat.mul_le_mul_of_nonneg_left (by grind) (by grind);grind
    rw[ev];grind
theorem aAd {l:List Rat} (h:∀ x,ev l x=0):aI l=[]:=by
 rcases Decidable.em (aI l=[]) with q | q
 ·exact q
 ·obtain⟨e,N,he,hN⟩:=aLn q;rcases hN with hN | hN
  ·have h1:=hN N Rat.le_refl;rw[h N] at h1;grind
  ·have h1:=hN N Rat.le_refl;rw[h N] at h1;grind
theorem wG {p q:List Rat} (h:∀ x,ev p x=ev q x):∀ k,p.getD k 0=q.getD k 0:=by
 have h1:aI (kX p q)=[]:=aAd fun x=>by rw[qH,h x]; grind
 intro k;have h2:=aCw h1 k;rw[kX,yI,rJ] at h2;by_cases hk:k<max p.length q.length
 ·rw[if_pos hk] at h2;grind
 ·rw[dC (by omega),dC (by omega)]
theorem mF {p q:List Rat} (hp:aI p=p) (hq:aI q=q) (h:∀ x,ev p x=ev q x):p=q:=by
 rw[<- hp,<- hq];exact aIy (wG h)
/-! Products. -/
theorem rD (f:Nat->Rat) (s:Nat):∀ c,dD f (s+c)=dD f s+dD (fun i=>f (s+i)) c
 | 0=>by show dD f s=dD f s+0; grind
 | c+1=>by
  show dD f (s+c)+f (s+c)=dD f s+(dD (fun i=>f (s+i)) c+f (s+c));rw[rD f s c];grind
theorem nN {f:Nat->Rat}:∀ {n:Nat},(∀ i,i<n->f i=0)->dD f n=0
 | 0,_=>rfl
 | n+1,h=>by
  show dD f n+f n=0;rw[nN (n:=n) fun i hi=>h i (by omega),h n (by omega)];grind
theorem vQ {f g:Nat->Rat}:∀ {n:Nat},(∀ i,i<n->f i=g i)->dD f n=dD g n
 | 0,_=>rfl
 | n+1,h=>by
  show dD f n+f n=dD g n+g n;rw[vQ (n:=n) fun i hi=>h i (by omega),h n (by omega)]
def fP (p q:List Rat) (k:Nat):Rat:=dD (fun i=>p.getD i 0*q.getD (k-i) 0) (k+1)
theorem aEc (a:Rat) (p q:List Rat) (k:Nat):fP (a::p) q k=q.getD k 0*a+(if k=0 then 0 else fP p q (k-1)):=by
 unfold fP;rw[show k+1=1+k by omega,rD];show (0+a*q.getD (k-0) 0)+_=_;rw[Nat.sub_zero];cases k with
 | zero=>show 0+a*_+0=_+if 0=0 then 0 else _; rw[if_pos rfl]; grind
 | succ k =>
  rw[if_neg (by omega),Nat.add_sub_cancel];have e:dD (fun i=>(a::p).getD (1+i) 0*q.getD (k+1-(1+i)) 0) (k+1)=dD (fun i=>p.getD i 0*q.getD (k-i) 0) (k+1):=vQ fun i hi=>by
   rw[show 1+i=i+1 by omega,List.getD_cons_succ,show k+1-(i+1)=k-i by omega]
  rw[e];grind
theorem aNf (q:List Rat) (x:Rat):∀ (p:List Rat) (n:Nat),p.length+q.length<=n+1->0<q.length->ev (tab (fP p q) n) x=ev p x*ev q x
 | [],n,h,h0=>by
  rw[ev];have e:∀ k,fP [] q k=0:=fun k=>nN fun i _=>by rw[dC (Nat.zero_le _)]; grind
  rw[pY (fun k=>by rw[rJ,e]; split<;>rfl)];grind
 | a::p,n,h,h0=>by
  rw[List.length_cons] at h;have e:fP (a::p) q=fun k=>q.getD k 0*a+(if k=0 then 0 else fP p q (k-1)):=funext fun k=>aEc a p q k;obtain⟨m,rfl⟩:∃ m,n=m+1:=⟨n-1,by omega⟩
  rw[e,aB7,aBj,uE q (by omega),sH];have e2:(fun k=>if k+1=0 then (0:Rat) else fP p q (k+1-1))=fP p q:=by
   funext k
   rw[if_neg (by omega),Nat.add_sub_cancel]
  rw[if_pos rfl,e2,aNf q x p m (by omega) h0,ev];grind
theorem aS5 {q:List Rat} {i:Nat} (h:i<q.length):q.reverse.getD i 0=q.getD (q.length-1-i) 0:=by
 rw[List.getD_eq_getElem?_getD,List.getD_eq_getElem?_getD,List.getElem?_reverse h]
theorem aJ0 {q:List Rat} {i j:Nat}:(q.drop i).getD j 0=q.getD (i+j) 0:=by
 rw[List.getD_eq_getElem?_getD,List.getD_eq_getElem?_getD,List.getElem?_drop]
theorem aEr {p q:List Rat} (h0:0<q.length) {k:Nat}:nC p q k=fP p q k:=by
 unfold nC aFi fP;rw[List.length_drop,List.length_drop,List.length_reverse];generalize hs:k-(q.length-1)=s;generalize ht:q.length-1-k=t;have e1:dD (fun i=>(p.drop s).getD i 0*(q.reverse.drop t).getD i 0) (min (p.length-s) (q.length-t))=dD (fun i=>p.getD (s+i) 0*q.getD (k-(s+i)) 0) (min (p.length-s) (q.length-t)):=vQ fun i hi=>by
  rw[aJ0,aJ0,aS5 (by omega),show q.length-1-(t+i)=k-(s+i) by omega]
 have e2:dD (fun i=>p.getD (s+i) 0*q.getD (k-(s+i)) 0) (k+1-s)=dD (fun i=>p.getD (s+i) 0*q.getD (k-(s+i)) 0) (min (p.length-s) (q.length-t)):=by
  generalize hc:min (p.length-s) (q.length-t)=c;obtain⟨d,hd⟩:∃ d,k+1-s=c+d:=⟨k+1-s-c,by omega⟩
  rw[hd,rD,nN (f:=fun i=>p.getD (s+(c+i)) 0*q.getD (k-(s+(c+i))) 0),Rat.add_zero];intro i hi;rw[dC (l:=p) (by omega),Rat.zero_mul]
 rw[e1,<- e2,show k+1=s+(k+1-s) by omega,rD,nN (n:=s),Rat.zero_add]
 ·rw[show s+(k+1-s)-s=k+1-s by omega]
 ·intro i hi;rw[dC (l:=q) (by omega),Rat.mul_zero]
theorem aVc {f g:Nat->Rat} {n:Nat} (h:∀ k,k<n->f k=g k):tab f n=tab g n:=List.map_congr_left fun k hk=>h k (List.mem_range.1 hk)
theorem nY (p q:List Rat) (x:Rat):ev (cW p q) x=ev p x*ev q x:=by
 rw[cW,pZ];rcases Nat.eq_zero_or_pos q.length with h | h
 ·obtain rfl:=List.eq_nil_of_length_eq_zero h;rw[ev,Rat.mul_zero];refine pY (fun k=>?_) x;rw[rJ];split
  ·exact nN fun i hi=>by
    rw[List.length_drop,List.length_drop,List.length_reverse,List.length_nil] at hi;omega
  ·rfl
 ·rw[aVc fun k _=>aEr h,aNf q x p _ (by omega) h]
def pw (x:Rat):Nat->Rat
 | 0=>1
 | n+1=>pw x n*x
theorem aEy (c x:Rat):∀ (l:List Rat) (i:Nat),i<l.length->ev (l.set i (l.getD i 0+c)) x=ev l x+c*pw x i
 | a::l,0,_=>by show a+c+x*ev l x=a+x*ev l x+c*1; grind
 | a::l,i+1,h=>by
  show a+x*ev (l.set i (l.getD i 0+c)) x=a+x*ev l x+c*(pw x i*x);rw[aEy c x l i (by simpa using h)];grind
theorem aMc (x:Rat) (i:Nat):∀ j,pw x (i+j)=pw x i*pw x j
 | 0=>by show pw x i=pw x i*1; grind
 | j+1=>by show pw x (i+j)*x=pw x i*(pw x j*x); rw[aMc x i j]; grind
def mL (q:List Rat) (x:Rat) (j:Nat):Rat:=dD (fun k=>q.getD k 0*pw x k) j
theorem aPg (f:Nat->Rat) (n:Nat):dD f (n+1)=f 0+dD (fun k=>f (k+1)) n:=by
 rw[show n+1=1+n by omega,rD];show 0+f 0+_=_;rw[Rat.zero_add];congr 1;exact vQ fun i _=>by rw[Nat.add_comm]
theorem aI1 (f:Nat->Rat) (a:Rat):∀ n,dD (fun k=>f k*a) n=dD f n*a
 | 0=>by show (0:Rat)=0*a; grind
 | n+1=>by show dD (fun k=>f k*a) n+f n*a=(dD f n+f n)*a; rw[aI1 f a n]; grind
theorem aAc (x:Rat):∀ (q:List Rat),mL q x q.length=ev q x
 | []=>rfl
 | a::q=>by
  rw[mL,List.length_cons,aPg,ev];have e:dD (fun k=>(a::q).getD (k+1) 0*pw x (k+1)) q.length=dD (fun k=>q.getD k 0*pw x k*x) q.length:=vQ fun k _=>by
   show q.getD k 0*(pw x k*x)=_;grind
  rw[e,aI1];have:=aAc x q;unfold mL at this;rw[this];show a*1+_=_;grind
theorem aMw (p q:List Rat) (i:Nat) (x:Rat):∀ (j:Nat) (l:List Rat),i+j<=l.length->ev (gW p q i j l) x=ev l x+p.getD i 0*pw x i*mL q x j
 | 0,l,_=>by show ev l x=ev l x+_*0; grind
 | j+1,l,h=>by
  rw[gW,aEy _ _ _ _ (by rw[yX]; omega),aMw p q i x j l (by omega),aMc];show _=_+_*(mL q x j+q.getD j 0*pw x j);grind
theorem aMv (p q:List Rat) (x:Rat):∀ i,i<=p.length->ev (gM p q i) x=mL p x i*ev q x
 | 0,_=>by
  rw[gM,pY]
  ·show (0:Rat)=0*_; grind
  ·intro k;rw[List.getD_eq_getElem?_getD,List.getElem?_replicate];split<;>rfl
 | i+1,h=>by
  rw[gM,aMw p q i x q.length _ (by rw[tK]; omega),aMv p q x i (by omega),aAc];show _=(mL p x i+p.getD i 0*pw x i)*_;grind
theorem aD9 (p q:List Rat) (x:Rat):ev (iM p q) x=ev p x*ev q x:=by
 unfold iM;split
 ·rename_i h;rcases h with rfl | rfl
  ·rw[ev]; grind
  ·rw[ev]; grind
 ·rw[pZ,aMv p q x _ (Nat.le_refl _),aAc]
/-! Values,shifts. -/
theorem aUi {l:List Rat} {k:Nat} (h:k<l.length):l.drop (l.length-(k+1))=l.getD (l.length-1-k) 0::l.drop (l.length-k):=by
 rw[List.drop_eq_getElem_cons (by omega),List.getD_eq_getElem?_getD,List.getElem?_eq_getElem (by omega)];rw[show l.length-(k+1)+1=l.length-k by omega];rw[Option.getD_some];simp only[show l.length-(k+1)=l.length-1-k by omega]
theorem aG7 (p:List Rat) (x:Rat):∀ k,k<=p.length->nZ p x (lR id k)=ev (p.drop (p.length-k)) x
 | 0,_=>by rw[Nat.sub_zero,List.drop_length]; rfl
 | k+1,h=>by
  rw[aDh,aG6,aG7 p x k (by omega),aUi (by omega),ev];show _*x+p.getD (p.length-1-k) 0=_;grind
theorem aWa (p:List Rat) (x:Rat):aAt p x=ev p x:=by
 rw[aAt,aG7 p x _ (Nat.le_refl _),Nat.sub_self,List.drop_zero]
/-! Derivatives. -/
theorem aW3 {e B:Nat} (h:e<=29*B) (hB:1<=B):2^e<1000000000^B:=by
 have h1:2^e<=2^(29*B):=Nat.pow_le_pow_right (by decide) h;rw[Nat.pow_mul] at h1;exact Nat.lt_of_le_of_lt h1 (Nat.pow_lt_pow_left (by decide) (by omega))
theorem uA {l:List Rat} {e B:Nat} (hB:1<=B) (he:e<=29*B) (h:∀ a∈l,a.num.natAbs<=2^e/\a.den<=2^e):aG l B=true:=by
 refine pT fun a ha=>?_;have hp:=aW3 he hB;obtain⟨h1,h2⟩:=h a ha;refine nV (kV.2 (Nat.lt_of_le_of_lt h1 hp)) (kV.2 (Nat.lt_of_le_of_lt ?_ hp));unfold qd;split
 ·exact Nat.zero_le _
 ·exact h2
/-! A number with few bits. -/
def eD (a:Rat) (e:Nat):Prop:=∃ z m:Int,m≠0/\a*(m:Rat)=(z:Rat)/\z.natAbs<=2^e/\m.natAbs<=2^e
theorem oY {m:Int} (h:m≠0):(m:Rat)≠0:=fun e=>h (by
 have:(m:Rat)=((0:Int):Rat):=e;exact Rat.intCast_inj.1 this)
theorem wN (a:Rat):a*(a.den:Rat)=(a.num:Rat):=by
 have h:=Rat.num_divInt_den a;rw[Rat.divInt_eq_div,Rat.intCast_natCast] at h;have hd:(a.den:Rat)≠0:=fun e=>a.den_nz (by
  have:((a.den:Int):Rat)=((0:Int):Rat):=by rw[Rat.intCast_natCast]; exact e
  have:=Rat.intCast_inj.1 this;omega)
 have h2:(a.num:Rat)/(a.den:Rat)*(a.den:Rat)=(a.num:Rat):=by
  rw[Rat.div_def,Rat.mul_assoc,Rat.inv_mul_cancel _ hd,Rat.mul_one]
 rw[h] at h2;exact h2
theorem aIe {a:Rat} {e:Nat} (h:eD a e):a.num.natAbs<=2^e/\a.den<=2^e:=by
 obtain⟨z,m,hm,h1,h2,h3⟩:=h;have h4:a.num*m=z*a.den:=by
  have e1:=wN a;have e2:((a.num*m:Int):Rat)=((z*a.den:Int):Rat):=by
   rw[Rat.intCast_mul,Rat.intCast_mul,<- h1,<- e1];rw[Rat.intCast_natCast];grind
  exact Rat.intCast_inj.1 e2
 have h5:a.num.natAbs*m.natAbs=z.natAbs*a.den:=by
  have:=congrArg Int.natAbs h4;rw[Int.natAbs_mul,Int.natAbs_mul,Int.natAbs_natCast] at this;exact this
 have hc:Nat.Coprime a.num.natAbs a.den:=a.reduced;have d1:a.den ∣ m.natAbs:=by
  have:a.den ∣ a.num.natAbs*m.natAbs:=⟨z.natAbs,by rw[h5,Nat.mul_comm]⟩
  exact(Nat.Coprime.symm hc).dvd_of_dvd_mul_left this
 have d2:a.num.natAbs ∣ z.natAbs:=by
  have:a.num.natAbs ∣ z.natAbs*a.den:=⟨m.natAbs,h5.symm⟩
  exact hc.dvd_of_dvd_mul_right this
 refine⟨?_,Nat.le_trans (Nat.le_of_dvd (by omega) d1) h3⟩;by_cases hz:z.natAbs=0
 ·rw[hz,Nat.zero_mul] at h5;have h6:m.natAbs≠0:=by omega
  have:a.num.natAbs=0:=(Nat.mul_eq_zero.1 h5).resolve_right h6;omega
 ·exact Nat.le_trans (Nat.le_of_dvd (by omega) d2) h2
theorem nU {a:Rat} {e B:Nat} (hB:1<=B) (he:e<=29*B) (h:eD a e):aG [a] B=true :=
 uA hB he fun b hb=>by obtain rfl:=List.mem_singleton.1 hb; exact aIe h
def Cm (m:Int) (p:List Rat) (e:Nat):Prop:=∀ k,∃ z:Int,p.getD k 0*(m:Rat)=(z:Rat)/\z.natAbs<=2^e
def Cb (p:List Rat) (e:Nat):Prop:=∃ m:Int,m≠0/\m.natAbs<=2^e/\Cm m p e
theorem eZ {d e:Nat} (h:d<=e):2^d<=2^e:=Nat.pow_le_pow_right (by decide) h
theorem Cm.mono {m:Int} {p:List Rat} {d e:Nat} (h:Cm m p d) (hd:d<=e):Cm m p e:=fun k=>by
 obtain⟨z,h1,h2⟩:=h k;exact⟨z,h1,Nat.le_trans h2 (eZ hd)⟩
theorem Cb.mono {p:List Rat} {d e:Nat} (h:Cb p d) (hd:d<=e):Cb p e:=by
 obtain⟨m,h1,h2,h3⟩:=h;exact⟨m,h1,Nat.le_trans h2 (eZ hd),h3.mono hd⟩
theorem Cb.few {p:List Rat} {e:Nat} (h:Cb p e) (k:Nat):eD (p.getD k 0) e:=by
 obtain⟨m,h1,h2,h3⟩:=h;obtain⟨z,h4,h5⟩:=h3 k;exact⟨z,m,h1,h4,h5,h2⟩
theorem Cb.sz {p:List Rat} {e B:Nat} (h:Cb p e) (hB:1<=B) (he:e<=29*B):aG p B=true :=
 uA hB he fun a ha=>by
  obtain⟨i,hi,rfl⟩:=List.getElem_of_mem ha;have:=aIe (h.few i);rw[List.getD_eq_getElem?_getD,List.getElem?_eq_getElem hi] at this;exact this
theorem Cm.ext {m:Int} {p q:List Rat} {e:Nat} (h:Cm m p e) (hq:∀ k,q.getD k 0=p.getD k 0):Cm m q e:=fun k=>by rw[hq]; exact h k
theorem Cb.ext {p q:List Rat} {e:Nat} (h:Cb p e) (hq:∀ k,q.getD k 0=p.getD k 0):Cb q e:=by
 obtain⟨m,h1,h2,h3⟩:=h;exact⟨m,h1,h2,h3.ext hq⟩
theorem Cb.nil (e:Nat):Cb [] e:=⟨1,by decide,Nat.one_le_two_pow,fun k=>⟨0,by rw[dC (Nat.zero_le _),Rat.zero_mul]; rfl,Nat.zero_le _⟩⟩
theorem aV2 {a b c d:Nat} (h1:a<=2^c) (h2:b<=2^d):a*b<=2^(c+d):=by rw[Nat.pow_add]; exact Nat.mul_le_mul h1 h2
theorem gT {a b:Int} {c d:Nat} (h1:a.natAbs<=2^c) (h2:b.natAbs<=2^d):(a*b).natAbs<=2^(c+d):=by rw[Int.natAbs_mul]; exact aV2 h1 h2
theorem aWk {a b:Int} {c:Nat} (h1:a.natAbs<=2^c) (h2:b.natAbs<=2^c):(a+b).natAbs<=2^(c+1):=by rw[Nat.pow_succ]; omega
theorem aEg {a b:Int} {c:Nat} (h1:a.natAbs<=2^c) (h2:b.natAbs<=2^c):(a-b).natAbs<=2^(c+1):=by rw[Nat.pow_succ]; omega
theorem oL {g:Nat->Rat} {n k:Nat}:(aI (tab g n)).getD k 0=if k<n then g k else 0:=by rw[yI,rJ]
theorem Cb.scale {p:List Rat} {a:Rat} {c d:Nat} (hp:Cb p c) (ha:eD a d):Cb (aT p a) (c+d):=by
 obtain⟨m,m1,m2,m3⟩:=hp;obtain⟨z,n,n1,n2,n3,n4⟩:=ha;refine⟨m*n,Int.mul_ne_zero m1 n1,gT m2 n4,fun k=>?_⟩;obtain⟨y,y1,y2⟩:=m3 k;refine⟨y*z,?_,gT y2 n3⟩;have e:(aT p a).getD k 0=p.getD k 0*a:=by
  rw[aT,oL];split
  ·rfl
  ·rw[dC (by omega)]; grind
 rw[e,Rat.intCast_mul,Rat.intCast_mul,<- y1,<- n2];grind
theorem Cb.derive {p:List Rat} {c t:Nat} (hp:Cb p c) (ht:p.length<=2^t):Cb (cJ p) (c+t):=by
 obtain⟨m,m1,m2,m3⟩:=hp;refine⟨m,m1,Nat.le_trans m2 (eZ (by omega)),fun k=>?_⟩;rw[cJ,oL];by_cases hk:k<p.length-1
 ·rw[if_pos hk];obtain⟨y,y1,y2⟩:=m3 (k+1);refine⟨y*((k+1:Nat):Int),?_,gT y2 (by rw[Int.natAbs_natCast]; omega)⟩;rw[Rat.intCast_mul,<- y1,Rat.intCast_natCast];grind
 ·rw[if_neg hk];exact⟨0,by grind,Nat.zero_le _⟩
theorem aI2 {f:Nat->Rat} {M:Rat} {e:Nat} (h:∀ i,∃ z:Int,f i*M=(z:Rat)/\z.natAbs<=2^e):∀ n,∃ z:Int,dD f n*M=(z:Rat)/\z.natAbs<=n*2^e
 | 0=>⟨0,by show (0:Rat)*M=((0:Int):Rat); rw[Rat.zero_mul]; rfl,Nat.zero_le _⟩
 | n+1=>by
  obtain⟨z,z1,z2⟩:=aI2 h n;obtain⟨y,y1,y2⟩:=h n;refine⟨z+y,?_,by rw[Nat.succ_mul]; omega⟩;show (dD f n+f n)*M=_;rw[Rat.intCast_add,<- z1,<- y1];grind
theorem aMy {p q:List Rat} {k:Nat} (h:p.length+q.length<=k+1):fP p q k=0:=by
 refine nN fun i _=>?_;rcases Nat.lt_or_ge i p.length with hi | hi
 ·rw[dC (l:=q) (by omega),Rat.mul_zero]
 ·rw[dC hi,Rat.zero_mul]
theorem yU (p q:List Rat) (k:Nat):(cW p q).getD k 0=fP p q k:=by
 rw[cW,oL];rcases Nat.eq_zero_or_pos q.length with h | h
 ·obtain rfl:=List.eq_nil_of_length_eq_zero h;have e:fP p [] k=0:=nN fun i _=>by rw[dC (l:=[]) (Nat.zero_le _),Rat.mul_zero]
  rw[e];split
  ·exact nN fun i hi=>by
    rw[List.length_drop,List.length_drop,List.length_reverse,List.length_nil] at hi;omega
  ·rfl
 ·split
  ·exact aEr h
  ·rw[aMy (by omega)]
theorem Cb.cv {p q:List Rat} {c d t:Nat} (hp:Cb p c) (hq:Cb q d) (ht:p.length+q.length<=2^t):∃ m:Int,m≠0/\m.natAbs<=2^(c+d+t)/\∀ k,∃ z:Int,fP p q k*(m:Rat)=(z:Rat)/\z.natAbs<=2^(c+d+t):=by
 obtain⟨m,m1,m2,m3⟩:=hp;obtain⟨n,n1,n2,n3⟩:=hq;refine⟨m*n,Int.mul_ne_zero m1 n1,Nat.le_trans (gT m2 n2) (eZ (by omega)),fun k=>?_⟩;rcases Nat.lt_or_ge (k+1) (p.length+q.length) with hk | hk
 ·obtain⟨z,z1,z2⟩:=aI2 (f:=fun i=>p.getD i 0*q.getD (k-i) 0) (M:=((m*n:Int):Rat)) (e:=c+d) (fun i=>by
   obtain⟨y,y1,y2⟩:=m3 i;obtain⟨z,z1,z2⟩:=n3 (k-i);refine⟨y*z,?_,gT y2 z2⟩;rw[Rat.intCast_mul,Rat.intCast_mul,<- y1,<- z1];grind) (k+1)
  refine⟨z,z1,Nat.le_trans z2 ?_⟩;rw[Nat.pow_add 2 (c+d) t,Nat.mul_comm];exact Nat.mul_le_mul_left _ (by omega)
 ·rw[aMy hk];exact⟨0,by rw[Rat.zero_mul]; rfl,Nat.zero_le _⟩
theorem Cb.mul {p q:List Rat} {c d t:Nat} (hp:Cb p c) (hq:Cb q d) (ht:p.length+q.length<=2^t):Cb (cW p q) (c+d+t):=by
 obtain⟨m,h1,h2,h3⟩:=hp.cv hq ht;exact⟨m,h1,h2,fun k=>by rw[yU]; exact h3 k⟩
theorem fE {p:List Rat} (hp:aI p=p) (h0:p≠[]):aH p≠0:=by
 have:=aGj p;rw[hp] at this;exact this.resolve_left h0
theorem Cb.monic {p:List Rat} {c:Nat} (hp:Cb p c) (h0:aH p≠0):Cb (bA p) c:=by
 obtain⟨m,m1,m2,m3⟩:=hp;obtain⟨n,n1,n2⟩:=m3 (p.length-1);have hm:=oY m1;have hn:n≠0:=by
  rintro rfl;have h3:aH p*(m:Rat)=0:=n1;rcases Rat.mul_eq_zero.1 h3 with h | h
  ·exact h0 h
  ·exact hm h
 refine⟨n,hn,n2,fun k=>?_⟩;obtain⟨z,z1,z2⟩:=m3 k;refine⟨z,?_,z2⟩;have e:(bA p).getD k 0=p.getD k 0*(1/aH p):=by
  rw[bA,aT,oL];split
  ·rfl
  ·rw[dC (by omega)]; grind
 have n1':aH p*(m:Rat)=(n:Rat):=n1;rw[e,<- z1,<- n1'];grind
/-! uR step of a division. -/
theorem aDz (p q:List Rat) (m:Rat) (k:Nat):(eB p q m).getD k 0=if k<p.length-1 then (if k<p.length-q.length then p.getD k 0 else p.getD k 0-m*q.getD (k-(p.length-q.length)) 0) else 0:=by rw[eB,oL]
theorem aDy (p q:List Rat) (m:Rat):(eB p q m).length<=p.length-1:=by
 unfold eB;refine Nat.le_trans (iH _) ?_;rw[eW];exact Nat.le_refl _
theorem aXv {p q:List Rat} {mp mq n:Int} {c d:Nat} (hp:Cm mp p c) (hq:Cm mq q d) (hm:mq≠0) (hn:aH q*(mq:Rat)=(n:Rat)) (hnb:n.natAbs<=2^d) (h0:aH q≠0):Cm (mp*n) (eB p q (aH p/aH q)) (c+d+1):=by
 intro k;obtain⟨l,l1,l2⟩:=hp (p.length-1);have l1':aH p*(mp:Rat)=(l:Rat):=l1;obtain⟨y,y1,y2⟩:=hp k;rw[aDz];have b1:(y*n).natAbs<=2^(c+d):=gT y2 hnb;have hq0:=oY hm;by_cases h1:k<p.length-1
 ·rw[if_pos h1];by_cases h2:k<p.length-q.length
  ·rw[if_pos h2];refine⟨y*n,?_,Nat.le_trans b1 (eZ (by omega))⟩;rw[Rat.intCast_mul,Rat.intCast_mul,<- y1];grind
  ·rw[if_neg h2];obtain⟨z,z1,z2⟩:=hq (k-(p.length-q.length));refine⟨y*n-l*z,?_,aEg b1 (gT l2 z2)⟩;rw[Rat.intCast_sub,Rat.intCast_mul,Rat.intCast_mul,Rat.intCast_mul,<- y1,<- l1',<- z1,<- hn];grind
 ·rw[if_neg h1];exact⟨0,by rw[Rat.zero_mul]; rfl,Nat.zero_le _⟩
/-! Shifted lists; the value of one step. -/
def eJ (s:Nat) (q:List Rat):List Rat:=List.replicate s 0++q
theorem zJ {s:Nat} {q:List Rat} {k:Nat}:(eJ s q).getD k 0=if k<s then 0 else q.getD (k-s) 0:=by
 unfold eJ;rw[List.getD_eq_getElem?_getD];by_cases h:k<s
 ·rw[if_pos h,List.getElem?_append_left (by rw[List.length_replicate]; exact h),List.getElem?_replicate,if_pos h];rfl
 ·rw[if_neg h,List.getElem?_append_right (by rw[List.length_replicate]; omega),List.length_replicate,List.getD_eq_getElem?_getD]
theorem wS (q:List Rat) (x:Rat):∀ s,ev (eJ s q) x=pw x s*ev q x
 | 0=>by show ev q x=1*ev q x; rw[Rat.one_mul]
 | s+1=>by
  show ev (List.replicate (s+1) 0++q) x=pw x s*x*ev q x;rw[List.replicate_succ,List.cons_append,ev];have:=wS q x s;unfold eJ at this;rw[this];grind
theorem jT (p:List Rat) (a:Rat) (k:Nat):(aT p a).getD k 0=p.getD k 0*a:=by
 rw[aT,oL];split
 ·rfl
 ·rw[dC (by omega),Rat.zero_mul]
theorem aVe (p q:List Rat) (k:Nat):(kX p q).getD k 0=p.getD k 0-q.getD k 0:=by
 rw[kX,oL];split
 ·rfl
 ·rw[dC (by omega),dC (by omega)]; grind
theorem aWj (p q:List Rat) (k:Nat):(kL p q).getD k 0=p.getD k 0+q.getD k 0:=by
 rw[kL,oL];split
 ·rfl
 ·rw[dC (by omega),dC (by omega)]; grind
theorem aVk {p q:List Rat} {m:Rat} (hl:q.length<=p.length) (h0:0<q.length) (hm:aH p=m*aH q) (k:Nat):(eB p q m).getD k 0=(kX p (aT (eJ (p.length-q.length) q) m)).getD k 0:=by
 rw[aDz,aVe,jT,zJ];by_cases h1:k<p.length-q.length
 ·rw[if_pos (by omega),if_pos h1,if_pos h1]; grind
 ·rw[if_neg h1,if_neg h1];by_cases h2:k<p.length-1
  ·rw[if_pos h2]; grind
  ·rw[if_neg h2];by_cases h3:k=p.length-1
   ·rw[show k-(p.length-q.length)=q.length-1 by omega,h3];unfold aH at hm;rw[hm];grind
   ·rw[dC (l:=p) (by omega),dC (l:=q) (by omega)]; grind
theorem aEz {p q:List Rat} {m:Rat} (hl:q.length<=p.length) (h0:0<q.length) (hm:aH p=m*aH q) (x:Rat):ev (eB p q m) x=ev p x-pw x (p.length-q.length)*ev q x*m:=by
 rw[aAe (aVk hl h0 hm),qH,cP,wS]
theorem aCz (p q:List Rat) (m:Rat):aI (eB p q m)=eB p q m:=cN _
/-! Division. -/
def dH (u:List (Option Rat)):List Rat:=u.map fun o=>o.getD 0
theorem rE {u:List (Option Rat)} {i:Nat}:(dH u).getD i 0=(u.getD i none).getD 0:=by
 unfold dH;rw[List.getD_eq_getElem?_getD,List.getD_eq_getElem?_getD,List.getElem?_map];cases u[i]?<;>rfl
theorem aRt {p q:List Rat} {mp mq l n:Int} {e:Nat} (h1:aH p*(mp:Rat)=(l:Rat)) (h2:aH q*(mq:Rat)=(n:Rat)) (hp:mp≠0) (hq:aH q≠0) (hn:n≠0) (hl:(l*mq).natAbs<=2^e) (hb:(mp*n).natAbs<=2^e):eD (aH p/aH q) e:=by
 refine⟨l*mq,mp*n,Int.mul_ne_zero hp hn,?_,hl,hb⟩;rw[Rat.intCast_mul,Rat.intCast_mul,<- h1,<- h2,Rat.div_def];have:=Rat.mul_inv_cancel _ hq;grind
theorem wM {q:List Rat} {mq n:Int} (h2:aH q*(mq:Rat)=(n:Rat)) (hm:mq≠0) (hq:aH q≠0):n≠0:=by
 rintro rfl;rcases Rat.mul_eq_zero.1 (h2:aH q*(mq:Rat)=0) with h | h
 ·exact hq h
 ·exact oY hm h
theorem vZ {u:List (Option Rat)} {s i:Nat} {o:Option Rat} (h:s<u.length):(u.set s o).getD i none=if s=i then o else u.getD i none:=by
 rw[List.getD_eq_getElem?_getD,List.getD_eq_getElem?_getD];by_cases e:s=i
 ·subst e;rw[List.getElem?_set_self h,if_pos rfl];rfl
 ·rw[List.getElem?_set_ne e,if_neg e]
theorem aLm {u:List (Option Rat)} {s:Nat} {a:Rat} (h:s<u.length) (hn:u.getD s none=none) (x:Rat):ev (dH (u.set s (some a))) x=ev (dH u) x+a*pw x s:=by
 have e:dH (u.set s (some a))=(dH u).set s ((dH u).getD s 0+a):=by
  rw[rE,hn];unfold dH;rw[List.map_set];show _=List.set _ s (0+a);rw[Rat.zero_add];rfl
 rw[e,aEy _ _ _ _ (by unfold dH; rw[List.length_map]; exact h)]
theorem aUj {B:Nat} {q:List Rat} {mq n:Int} {d:Nat} (hB:1<=B) (hq:0<q.length) (h0:aH q≠0) (hm:mq≠0) (hmq:mq.natAbs<=2^d) (hqd:Cm mq q d) (hn:aH q*(mq:Rat)=(n:Rat)) (hnb:n.natAbs<=2^d) :
  ∀ (f:Nat) (r:List Rat) (u:List (Option Rat)) (mr:Int) (c:Nat),r.length<f->aI r=r->mr≠0->mr.natAbs<=2^c->Cm mr r c->r.length+1<=u.length+q.length->(q.length<=r.length->∀ i,i<=r.length-q.length->u.getD i none=none)->c+(r.length+1-q.length)*(d+1)+d<=29*B ->
  ∃ U R j,kJ B q f u r=some (U,R)/\U.length=u.length/\aI R=R/\R.length<q.length/\(∀ x,ev (dH U) x*ev q x+ev R x=ev (dH u) x*ev q x+ev r x)/\j<=r.length+1-q.length/\Cm (mr*n^j) R (c+j*(d+1))/\(∀ i,∃ z:Int,((dH U).getD i 0-(dH u).getD i 0)*((mr*n^j:Int):Rat)=(z:Rat)/\z.natAbs<=2^(c+(r.length+1-q.length)*(d+1)+d))/\(∀ i,r.length-q.length<i\/r.length<q.length->U.getD i none=u.getD i none)/\(q.length<=r.length->U.getD (r.length-q.length) none=some (aH r/aH q)):=by
 have hn0:=wM hn hm h0;intro f
 induction f with
 | zero=>intro r u mr c hf; omega
 | succ f ih =>
  intro r u mr c hf htr hmr hmrb hrc hul hun hE;rw[kJ];by_cases hl:q.length<=r.length
  ·rw[if_pos hl];obtain⟨l,l1,l2⟩:=hrc (r.length-1);have hr0:r≠[]:=fun e=>by rw[e,List.length_nil] at hl; omega
   obtain⟨t,ht⟩:∃ t,r.length+1-q.length=t+1:=⟨r.length-q.length,by omega⟩
   rw[ht,Nat.succ_mul] at hE;have hfew:eD (aH r/aH q) (c+d):=aRt l1 hn hmr h0 hn0 (gT l2 hmq) (gT hmrb hnb);have hs1:aG [aH r/aH q] B=true:=nU hB (by omega) hfew;have hlr:aH r=aH r/aH q*aH q:=by
    rw[Rat.div_def,Rat.mul_assoc,Rat.inv_mul_cancel _ h0,Rat.mul_one]
   have hred:=aXv hrc hqd hm hn hnb h0;have hmn:(mr*n).natAbs<=2^(c+d+1):=Nat.le_trans (gT hmrb hnb) (eZ (by omega));have hs2:aG (eB r q (aH r/aH q)) B=true:=Cb.sz ⟨mr*n,Int.mul_ne_zero hmr hn0,hmn,hred⟩ hB (by omega);rw[if_pos (by rw[hs1,hs2]; rfl)];have hlen:=aDy r q (aH r/aH q);generalize hs:r.length-q.length=s at *;have hsu:s<u.length:=by omega
   have hrl:r.length≠0:=fun e=>hr0 (List.eq_nil_of_length_eq_zero e);have hst:t=s:=by omega
   have hsteps:(eB r q (aH r/aH q)).length+1-q.length<=t:=by omega
   have hmulle:=Nat.mul_le_mul_right (d+1) hsteps;obtain⟨U,R,j,k1,k2,k3,k4,k5,k6,k7,k8,k9,-⟩:=ih (eB r q (aH r/aH q)) (u.set s (some (aH r/aH q))) (mr*n) (c+d+1) (by omega) (aCz _ _ _) (Int.mul_ne_zero hmr hn0) hmn hred (by rw[List.length_set]; omega) (fun _ i hi=>by
    rw[vZ hsu,if_neg (by omega)];exact hun hl i (by omega)) (by omega)
   have hUs:U.getD s none=some (aH r/aH q):=by
    rw[k9 s (by omega),vZ hsu,if_pos rfl]
   refine⟨U,R,j+1,k1,by rw[k2,List.length_set],k3,k4,fun x=>?_,by omega,?_,fun i=>?_,fun i hi=>?_,fun _=>hUs⟩
   ·rw[k5,aLm hsu (hun hl s (Nat.le_refl _)),aEz hl hq hlr,hs];grind
   ·rw[Int.pow_succ',<- Int.mul_assoc];exact k7.mono (by rw[Nat.succ_mul]; omega)
   ·have e:mr*n^(j+1)=mr*n*n^j:=by rw[Int.pow_succ',<- Int.mul_assoc]
    rw[e,ht,Nat.succ_mul];by_cases his:i=s
    ·subst his;have hdj:=Nat.mul_le_mul_left d (show j<=t by omega);refine⟨l*mq*n^j,?_,Nat.le_trans (gT (gT l2 hmq) (c:=c+d) (d:=d*j) ?_) (eZ ?_)⟩
     ·rw[rE,rE,hUs,hun hl i (Nat.le_refl _)];show (aH r/aH q-0)*_=_;have h5:aH r/aH q*((mr*n:Int):Rat)=((l*mq:Int):Rat):=by
       rw[Rat.intCast_mul,Rat.intCast_mul,<- (show aH r*(mr:Rat)=(l:Rat) from l1),<- hn,Rat.div_def];have:=Rat.mul_inv_cancel _ h0;grind
      rw[Rat.intCast_mul (mr*n),Rat.intCast_mul (l*mq),<- h5];grind
     ·rw[Int.natAbs_pow,Nat.pow_mul];exact Nat.pow_le_pow_left hnb _
     ·have:d*j<=t*(d+1):=by
       rw[Nat.mul_comm d j];exact Nat.mul_le_mul (by omega) (by omega)
      omega
    ·obtain⟨z,z1,z2⟩:=k8 i;refine⟨z,?_,Nat.le_trans z2 (eZ (by omega))⟩;rw[<- z1];congr 2;rw[rE,rE,vZ hsu,if_neg (fun e=>his e.symm)]
   ·have h7:s<i:=by omega
    rw[k9 i (by omega),vZ hsu,if_neg (by omega)]
  ·rw[if_neg hl];refine⟨u,r,0,rfl,rfl,htr,by omega,fun x=>rfl,Nat.zero_le _,?_,fun i=>⟨0,?_,Nat.zero_le _⟩,fun i _=>rfl,fun h=>absurd h hl⟩
   ·rw[Int.pow_zero,Int.mul_one];exact hrc.mono (by omega)
   ·have:(dH u).getD i 0-(dH u).getD i 0=0:=by grind
    rw[this,Rat.zero_mul];rfl
theorem aCk (n:Nat) (k:Nat):(dH (List.replicate n none)).getD k 0=0:=by
 rw[rE,List.getD_eq_getElem?_getD,List.getElem?_replicate];split<;>rfl
theorem aBh {p:List Rat} (h:p=[]\/aH p≠0):aI p=p:=by
 rcases h with rfl | h
 ·rfl
 ·have hp:p≠[]:=by rintro rfl; exact h rfl
  obtain⟨m',a,rfl⟩:∃ m' a,p=m'++[a]:=⟨p.dropLast,p.getLast hp,(List.dropLast_concat_getLast _).symm⟩
  have ha:a≠0:=by simpa[aH] using h
  rw[qW,if_neg ha]
def jO (p q:List Rat) (c d:Nat):Nat:=c+(p.length+1-q.length)*(d+1)+d
theorem vN {B:Nat} {p q:List Rat} {c d:Nat} (hB:1<=B) (hp:aI p=p) (hq:aI q=q) (h0:q≠[]) (hc:Cb p c) (hd:Cb q d) (hE:jO p q c d<=29*B) :
  ∃ U R,dV B p q=some (U,R)/\aI U=U/\aI R=R/\R.length<q.length/\U.length=p.length+1-q.length/\(∀ x,ev p x=ev U x*ev q x+ev R x)/\Cb U (jO p q c d)/\Cb R (jO p q c d-d):=by
 unfold jO at *;obtain⟨mp,m1,m2,m3⟩:=hc;obtain⟨mq,n1,n2,n3⟩:=hd;obtain⟨n,nn1,nn2⟩:=n3 (q.length-1);have hl:=fE hq h0;have hql:=List.length_pos_iff.2 h0;obtain⟨U,R,j,k1,k2,k3,k4,k5,k6,k7,k8,k9,k10⟩:=aUj hB hql hl n1 n2 n3 nn1 nn2 (p.length+2) p (List.replicate (p.length+1-q.length) none) mp c (by omega) hp m1 m2 m3 (by rw[List.length_replicate]; omega) (fun _ i _=>by rw[List.getD_eq_getElem?_getD,List.getElem?_replicate]; split<;>rfl) hE;have hz:=aCk (p.length+1-q.length);rw[List.length_replicate] at k2;have hM:mp*n^j≠0:=Int.mul_ne_zero m1 (Int.pow_ne_zero (wM nn1 n1 hl));have hjd:j*(d+1)<=(p.length+1-q.length)*(d+1):=Nat.mul_le_mul_right _ k6;have hMb:(mp*n^j).natAbs<=2^(c+(p.length+1-q.length)*(d+1)):=by
  refine Nat.le_trans (gT m2 (d:=d*j) ?_) (eZ ?_)
  ·rw[Int.natAbs_pow,Nat.pow_mul];exact Nat.pow_le_pow_left nn2 _
  ·have:d*j<=j*(d+1):=by rw[Nat.mul_comm]; exact Nat.mul_le_mul_left _ (by omega)
   omega
 refine⟨dH U,R,?_,?_,k3,k4,by unfold dH; rw[List.length_map,k2],fun x=>?_,⟨_,hM,Nat.le_trans hMb (eZ (by omega)),fun i=>?_⟩,⟨_,hM,Nat.le_trans hMb (eZ (by omega)),k7.mono (by omega)⟩⟩
 ·rw[dV,if_neg h0,k1];rfl
 ·refine aBh ?_;rcases Nat.lt_or_ge p.length q.length with hlt | hge
  ·left
   refine List.eq_nil_of_length_eq_zero ?_;unfold dH;rw[List.length_map,k2];omega
  ·right
   have hp0:p≠[]:=fun e=>by rw[e,List.length_nil] at hge; omega
   have e:(dH U).length-1=p.length-q.length:=by unfold dH; rw[List.length_map,k2]; omega
   rw[aH,e,rE,k10 hge];show aH p/aH q≠0;rw[Rat.div_def];intro h;rcases Rat.mul_eq_zero.1 h with h | h
   ·exact fE hp hp0 h
   ·exact hl (by rw[<- Rat.inv_inv (aH q),h,Rat.inv_zero])
 ·rw[k5,pY hz];grind
 ·obtain⟨z,z1,z2⟩:=k8 i;rw[hz] at z1;exact⟨z,by rw[<- z1]; grind,z2⟩
/-! Whole numbers. -/
theorem aB6 {a:Rat} {z m:Int} (hm:m≠0) (h1:a*(m:Rat)=(z:Rat)):a.num.natAbs<=z.natAbs/\a.den ∣ m.natAbs/\a.den<=m.natAbs:=by
 have e1:=wN a;have h4:a.num*m=z*a.den:=by
  have e2:((a.num*m:Int):Rat)=((z*a.den:Int):Rat):=by
   rw[Rat.intCast_mul,Rat.intCast_mul,<- h1,<- e1];rw[Rat.intCast_natCast];grind
  exact Rat.intCast_inj.1 e2
 have h5:a.num.natAbs*m.natAbs=z.natAbs*a.den:=by
  have:=congrArg Int.natAbs h4;rw[Int.natAbs_mul,Int.natAbs_mul,Int.natAbs_natCast] at this;exact this
 have hc:Nat.Coprime a.num.natAbs a.den:=a.reduced;have d1:a.den ∣ m.natAbs:=by
  have:a.den ∣ a.num.natAbs*m.natAbs:=⟨z.natAbs,by rw[h5,Nat.mul_comm]⟩
  exact(Nat.Coprime.symm hc).dvd_of_dvd_mul_left this
 have d2:a.num.natAbs ∣ z.natAbs:=by
  have:a.num.natAbs ∣ z.natAbs*a.den:=⟨m.natAbs,h5.symm⟩
  exact hc.dvd_of_dvd_mul_right this
 refine⟨?_,d1,Nat.le_of_dvd (by omega) d1⟩;by_cases hz:z.natAbs=0
 ·rw[hz,Nat.zero_mul] at h5;have h6:m.natAbs≠0:=by omega
  have:a.num.natAbs=0:=(Nat.mul_eq_zero.1 h5).resolve_right h6;omega
 ·exact Nat.le_of_dvd (by omega) d2
theorem mW (z:Int):wR z=(z:Rat):=by
 rw[show wR z=Rat.divInt z 1 from rfl,Rat.divInt_eq_div,Rat.div_def];show (z:Rat)*(1:Rat)⁻¹=_;have:(1:Rat)⁻¹=1:=by decide +kernel
 rw[this,Rat.mul_one]
theorem lE {p:List Rat} {a:Rat} (hp:aI p=p) (ha:a≠0):(aT p a).length=p.length/\aH (aT p a)=aH p*a:=by
 by_cases h0:p=[]
 ·subst h0;refine⟨rfl,?_⟩;show (0:Rat)=0*a;rw[Rat.zero_mul]
 ·have hpl:=List.length_pos_iff.2 h0;have e:(tab (fun k=>p.getD k 0*a) p.length).length=p.length:=eW;have hl:aH (tab (fun k=>p.getD k 0*a) p.length)=aH p*a:=by
   unfold aH;rw[e,rJ,if_pos (by omega)]
  have ht:aT p a=tab (fun k=>p.getD k 0*a) p.length:=aBh (.inr (by
   rw[hl];intro h;exact(Rat.mul_eq_zero.1 h).elim (fE hp h0) ha))
  rw[ht];exact⟨e,hl⟩
theorem Cm.scale1 {p:List Rat} {n c d:Nat} (hp:Cm 1 p c) (hn:n<=2^d):Cm 1 (aT p (wR (n:Int))) (c+d):=fun k=>by
 obtain⟨z,z1,z2⟩:=hp k;refine⟨z*(n:Int),?_,gT z2 (by rw[Int.natAbs_natCast]; exact hn)⟩;rw[jT,mW,Rat.intCast_mul,<- z1];grind
theorem lI (a:Rat):a*((1:Int):Rat)=a:=Rat.mul_one a
theorem mY {p:List Rat} {c:Nat} (h:Cm 1 p c):Cb p c:=⟨1,by decide,Nat.one_le_two_pow,h⟩
theorem aC7 {B:Nat} {q:List Rat} {d:Nat} (hB:1<=B) (hq:0<q.length) (h0:aH q≠0) (hqd:Cm 1 q d) :
  ∀ (f:Nat) (p:List Rat) (c:Nat),p.length<f->aI p=p->Cm 1 p c->c+(p.length+1-q.length)*(d+1)<=29*B ->
  ∃ R,kY B q f p=some R/\aI R=R/\R.length<q.length/\(p.length<q.length->R=p)/\Cm 1 R (c+(p.length+1-q.length)*(d+1))/\∃ (a:Rat) (u:List Rat),a≠0/\∀ x,ev R x=a*ev p x+ev u x*ev q x:=by
 intro f
 induction f with
 | zero=>intro p c hf; omega
 | succ f ih =>
  intro p c hf htr hpc hE;rw[kY];by_cases hl:q.length<=p.length
  ·rw[if_pos hl];have hp0:p≠[]:=fun e=>by rw[e,List.length_nil] at hl; omega
   have hlp:=fE htr hp0;obtain⟨l,l1,l2⟩:=hpc (p.length-1);obtain⟨n,n1,n2⟩:=hqd (q.length-1);have l1':aH p*((1:Int):Rat)=(l:Rat):=l1;have n1':aH q*((1:Int):Rat)=(n:Rat):=n1;have hn0:=wM n1' (by decide) h0;obtain⟨t,ht⟩:∃ t,p.length+1-q.length=t+1:=⟨p.length-q.length,by omega⟩
   rw[ht,Nat.succ_mul] at hE;have hM:fM q p*(n:Rat)=(l:Rat):=by
    rw[<- l1',<- n1',lI,lI,fM,Rat.div_def,Rat.mul_assoc,Rat.inv_mul_cancel _ h0,Rat.mul_one]
   obtain⟨f1,_,f3⟩:=aB6 hn0 hM;have hMl:aH p=fM q p*aH q:=by rw[fM,Rat.div_def,Rat.mul_assoc,Rat.inv_mul_cancel _ h0,Rat.mul_one]
   have hden:((fM q p).den:Rat)≠0:=fun e=>(fM q p).den_nz (by
    have:(((fM q p).den:Int):Rat)=((0:Int):Rat):=by rw[Rat.intCast_natCast]; exact e
    have:=Rat.intCast_inj.1 this;omega)
   have hw:wR ((fM q p).den:Int)≠0:=by rw[mW,Rat.intCast_natCast]; exact hden
   obtain⟨s1,s2⟩:=lE htr hw;have hS:Cm 1 (jM q p) (c+d):=hpc.scale1 (Nat.le_trans f3 n2);have hSl:(jM q p).length=p.length:=s1;have hnum:=wN (fM q p);have hSm:aH (jM q p)=wR (fM q p).num*aH q:=by
    show aH (aT p _)=_;rw[s2,mW,mW,Rat.intCast_natCast,hMl,<- hnum];grind
   have hN:Cm 1 (mulN q p) (c+d+1):=fun k=>by
    obtain⟨y,y1,y2⟩:=hS k;rw[mulN,aDz];by_cases h1:k<(jM q p).length-1
    ·rw[if_pos h1];by_cases h2:k<(jM q p).length-q.length
     ·rw[if_pos h2];exact⟨y,y1,Nat.le_trans y2 (eZ (by omega))⟩
     ·rw[if_neg h2];obtain⟨z,z1,z2⟩:=hqd (k-((jM q p).length-q.length));refine⟨y-(fM q p).num*z,?_,aEg y2 (gT (Nat.le_trans f1 l2) z2)⟩;rw[lI] at y1 z1 |-;rw[y1,z1,mW,Rat.intCast_sub,Rat.intCast_mul]
    ·rw[if_neg h1];exact⟨0,by rw[Rat.zero_mul]; rfl,Nat.zero_le _⟩
   have hNl:(mulN q p).length<p.length:=by
    have:=aDy (jM q p) q (wR (fM q p).num);rw[hSl] at this;have:=List.length_pos_iff.2 hp0;show (eB _ _ _).length<_;omega
   have hpos:0<t*(d+1)\/t=0:=by
    rcases Nat.eq_zero_or_pos t with h | h
    ·exact .inr h
    ·exact .inl (Nat.mul_pos h (by omega))
   have o1:aG [fM q p] B=true:=uA (e:=c+d) hB (by omega) fun b hb=>by
    obtain rfl:=List.mem_singleton.1 hb;exact⟨Nat.le_trans f1 (Nat.le_trans l2 (eZ (by omega))),Nat.le_trans f3 (Nat.le_trans n2 (eZ (by omega)))⟩
   have o2:aG (jM q p) B=true:=(mY hS).sz hB (by omega);have o3:aG (mulN q p) B=true:=(mY hN).sz hB (by omega);have hok:uI B q p=true:=by
    unfold uI;rw[o1,o2,o3,decide_eq_true (by rw[hSl]; exact hl),decide_eq_true hNl];rfl
   rw[if_pos hok];have hsteps:(mulN q p).length+1-q.length<=t:=by omega
   have hmulle:=Nat.mul_le_mul_right (d+1) hsteps;obtain⟨R,k1,k2,k3,_,k5,a,u,k6,k7⟩:=ih (mulN q p) (c+d+1) (by omega) (aCz _ _ _) hN (by omega);refine⟨R,k1,k2,k3,fun h=>by omega,k5.mono (by rw[ht,Nat.succ_mul]; omega),a*wR ((fM q p).den:Int),kL u (aT (eJ ((jM q p).length-q.length) [wR (fM q p).num]) (-a)),fun h=>(Rat.mul_eq_zero.1 h).elim k6 hw,fun x=>?_⟩;rw[k7,mulN,aEz (by rw[hSl]; exact hl) hq hSm,jM,cP,qI,cP,wS,ev,ev];grind
  ·rw[if_neg hl];refine⟨p,rfl,htr,by omega,fun _=>rfl,hpc.mono (by omega),1,[],by decide,fun x=>?_⟩;rw[ev];grind
theorem aCj {B:Nat} {m:Int} {c:Nat} (hB:1<=B) (hE:c<=29*B) (hm:m≠0) (hmb:m.natAbs<=2^c) :
  ∀ (l:List Rat) (e:Rat) (g:Int),(∀ a∈l,∃ z:Int,a*(m:Rat)=(z:Rat)/\z.natAbs<=2^c)->e*(m:Rat)=(g:Rat)->g≠0->g.natAbs<=2^c ->
  ∃ (D:Rat) (h:Int),gJ B l e=some D/\D*(m:Rat)=(h:Rat)/\h≠0/\h.natAbs<=2^c/\(∃ y:Int,e=D*(y:Rat))/\∀ a∈l,∃ y:Int,a=D*(y:Rat)
 | [],e,g,_,h1,h2,h3=>⟨e,g,rfl,h1,h2,h3,⟨1,by rw[lI]⟩,fun a ha=>nomatch ha⟩
 | a::l,e,g,hl,h1,h2,h3=>by
  have hm0:=oY hm;have he:e≠0:=by
   rintro rfl;rw[Rat.zero_mul] at h1;exact h2 (Rat.intCast_inj.1 h1.symm)
  obtain⟨z,z1,z2⟩:=hl a List.mem_cons_self;have hi:=Rat.mul_inv_cancel e he;have r1:a/e*(g:Rat)=(z:Rat):=by
   rw[<- h1,<- z1,Rat.div_def];grind
  obtain⟨f1,⟨g1,f2⟩,f3⟩:=aB6 h2 r1;obtain⟨g2,hg2⟩:∃ g2:Int,g=((a/e).den:Int)*g2:=by
   rcases Int.natAbs_eq g with h | h
   ·exact⟨g1,by rw[h,f2,Int.natCast_mul]⟩
   ·exact⟨-g1,by rw[h,f2,Int.natCast_mul,Int.mul_neg]⟩
  have hden:((a/e).den:Rat)≠0:=fun q=>(a/e).den_nz (by
   have:(((a/e).den:Int):Rat)=((0:Int):Rat):=by rw[Rat.intCast_natCast]; exact q
   have:=Rat.intCast_inj.1 this;omega)
  have hnum:=wN (a/e);have hg20:g2≠0:=by rintro rfl; exact h2 (by rw[hg2,Int.mul_zero])
  have hg2b:g2.natAbs<=2^c:=by
   have:=congrArg Int.natAbs hg2;rw[Int.natAbs_mul,Int.natAbs_natCast] at this;have h5:=Nat.le_mul_of_pos_left g2.natAbs (Nat.pos_of_ne_zero (a/e).den_nz);omega
  have hdi:=Rat.mul_inv_cancel _ hden;have r2:e/wR ((a/e).den:Int)*(m:Rat)=(g2:Rat):=by
   rw[mW,Rat.intCast_natCast,Rat.div_def];have h6:e*(m:Rat)=((a/e).den:Rat)*(g2:Rat):=by rw[h1,hg2,Rat.intCast_mul,Rat.intCast_natCast]
   grind
  have s1:aG [a/e] B=true:=uA (e:=c) hB hE fun b hb=>by
   obtain rfl:=List.mem_singleton.1 hb;exact⟨Nat.le_trans f1 z2,Nat.le_trans f3 h3⟩
  have s2:aG [e/wR ((a/e).den:Int)] B=true:=nU hB hE ⟨g2,m,hm,r2,hg2b,hmb⟩;obtain⟨D,h,k1,k2,k3,k4,⟨y,k5⟩,k6⟩:=aCj hB hE hm hmb l (e/wR ((a/e).den:Int)) g2 (fun b hb=>hl b (List.mem_cons_of_mem _ hb)) r2 hg20 hg2b;have hey:e=D*((y*((a/e).den:Int):Int):Rat):=by
   rw[mW,Rat.intCast_natCast,Rat.div_def] at k5;rw[Rat.intCast_mul,Rat.intCast_natCast];grind
  refine⟨D,h,by rw[gJ,if_pos (by rw[s1,s2]; rfl),k1],k2,k3,k4,⟨_,hey⟩,fun b hb=>?_⟩;rcases List.mem_cons.1 hb with rfl | hb
  ·refine⟨y*(b/e).num,?_⟩;have h7:b=b/e*e:=by rw[Rat.div_def,Rat.mul_assoc,Rat.inv_mul_cancel _ he,Rat.mul_one]
   rw[mW,Rat.intCast_natCast,Rat.div_def] at k5;rw[Rat.intCast_mul,<- hnum];grind
  ·exact k6 b hb
theorem yK {B:Nat} {p:List Rat} {c:Nat} (hB:1<=B) (hp:aI p=p) (hc:Cb p c) (hE:c<=29*B) :
  ∃ R,jL B p=some R/\aI R=R/\R.length=p.length/\Cm 1 R c/\∃ a:Rat,a≠0/\∀ x,ev R x=a*ev p x:=by
 by_cases h0:p=[]
 ·subst h0;refine⟨[],?_,rfl,rfl,fun k=>⟨0,by rw[dC (Nat.zero_le _),Rat.zero_mul]; rfl,Nat.zero_le _⟩,1,by decide,fun x=>by rw[ev]; grind⟩;have z:aG [(0:Rat)] B=true:=uA (e:=0) hB (Nat.zero_le _) fun b hb=>by
   obtain rfl:=List.mem_singleton.1 hb;exact⟨by decide,by decide⟩
  show (if (aG [1/0] B&&_)=true then some _ else none)=_;rw[show (1:Rat)/0=0 by decide +kernel,z];rfl
 ·obtain⟨m,m1,m2,m3⟩:=hc;obtain⟨g,g1,g2⟩:=m3 (p.length-1);have hl:=fE hp h0;have hm0:=oY m1;have g1':aH p*(m:Rat)=(g:Rat):=g1;have hg:g≠0:=wM g1' m1 hl;have hmem:∀ a∈p,∃ k,a=p.getD k 0:=fun a ha=>by
   obtain⟨i,hi,rfl⟩:=List.getElem_of_mem ha;exact⟨i,by rw[List.getD_eq_getElem?_getD,List.getElem?_eq_getElem hi]; rfl⟩
  obtain⟨D,h,k1,k2,k3,k4,_,k6⟩:=aCj hB hE m1 m2 p (aH p) g (fun a ha=>by
   obtain⟨k,rfl⟩:=hmem a ha;exact m3 k) g1' hg g2
  have hD:D≠0:=by
   rintro rfl;rw[Rat.zero_mul] at k2;exact k3 (Rat.intCast_inj.1 k2.symm)
  have hDi:=Rat.mul_inv_cancel D hD;have h1D:(1:Rat)/D=D⁻¹:=by rw[Rat.div_def,Rat.one_mul]
  have hD1:(1:Rat)/D≠0:=by
   rw[h1D];intro e;rw[e] at hDi;grind
  have hCR:Cm 1 (aT p (1/D)) c:=fun k=>by
   rw[jT,lI,h1D];rcases Nat.lt_or_ge k p.length with hk | hk
   ·obtain⟨y,y1⟩:=k6 (p.getD k 0) (by rw[List.getD_eq_getElem?_getD,List.getElem?_eq_getElem hk]; exact List.getElem_mem hk);obtain⟨z,z1,z2⟩:=m3 k;refine⟨y,by rw[y1]; grind,?_⟩;have e:((h*y:Int):Rat)=(z:Rat):=by
     rw[Rat.intCast_mul,<- z1,y1,<- k2];grind
    have e:=congrArg Int.natAbs (Rat.intCast_inj.1 e);rw[Int.natAbs_mul] at e;have:=Nat.le_mul_of_pos_left y.natAbs (show 0<h.natAbs by omega);omega
   ·rw[dC hk];exact⟨0,by rw[Rat.zero_mul]; rfl,Nat.zero_le _⟩
  have s1:aG [1/D] B=true:=nU hB hE ⟨m,h,k3,by rw[h1D,<- k2]; grind,m2,k4⟩;have s2:=(mY hCR).sz hB hE;refine⟨aT p (1/D),?_,cN _,(lE hp hD1).1,hCR,1/D,hD1,fun x=>by rw[cP,Rat.mul_comm]⟩;unfold jL;rw[k1];show (if _ then some _ else none)=_;rw[s1,s2];rfl
/-! Divisors. -/
def Dv (g p:List Rat):Prop:=∃ u:List Rat,∀ x,ev p x=ev u x*ev g x
def dW (p q g:List Rat):Prop:=Dv g p/\Dv g q/\∃ a b:List Rat,∀ x,ev g x=ev a x*ev p x+ev b x*ev q x
theorem dW.symm {p q g:List Rat} (h:dW p q g):dW q p g:=by
 obtain⟨h1,h2,a,b,h3⟩:=h;exact⟨h2,h1,b,a,fun x=>by rw[h3]; grind⟩
theorem aKk (p:List Rat):dW p [] p:=⟨⟨[1],fun x=>by rw[ev,ev]; grind⟩,⟨[],fun x=>by rw[ev]; grind⟩,[1],[],fun x=>by rw[ev,ev,ev]; grind⟩
theorem dW.step {p q r g u:List Rat} {a:Rat} (ha:a≠0) (h:∀ x,ev r x=a*ev p x+ev u x*ev q x) (hg:dW q r g):dW p q g:=by
 obtain⟨⟨s,h1⟩,⟨t,h2⟩,c,d,h3⟩:=hg;have hi:=Rat.inv_mul_cancel a ha;refine⟨⟨aT (kX t (cW u s)) a⁻¹,fun x=>?_⟩,⟨s,h1⟩,aT d a,kL c (cW d u),fun x=>?_⟩
 ·rw[cP,qH,nY];have e1:=h x;have e2:=h1 x;have e3:=h2 x;grind
 ·rw[cP,qI,nY,h3,h x];grind
theorem dW.left {p p' q g:List Rat} {a:Rat} (ha:a≠0) (h:∀ x,ev p' x=a*ev p x) (hg:dW p' q g):dW p q g:=by
 obtain⟨⟨s,h1⟩,h2,c,d,h3⟩:=hg;have hi:=Rat.inv_mul_cancel a ha;refine⟨⟨aT s a⁻¹,fun x=>?_⟩,h2,aT c a,d,fun x=>?_⟩
 ·rw[cP];have e1:=h x;have e2:=h1 x;grind
 ·rw[cP,h3,h x];grind
theorem dW.right {p q q' g:List Rat} {a:Rat} (ha:a≠0) (h:∀ x,ev q' x=a*ev q x) (hg:dW p q' g):dW p q g:=(dW.left ha h hg.symm).symm
theorem dW.res {p q g g':List Rat} {a:Rat} (ha:a≠0) (h:∀ x,ev g' x=a*ev g x) (hg:dW p q g):dW p q g':=by
 obtain⟨⟨s,h1⟩,⟨t,h2⟩,c,d,h3⟩:=hg;have hi:=Rat.inv_mul_cancel a ha;refine⟨⟨aT s a⁻¹,fun x=>?_⟩,⟨aT t a⁻¹,fun x=>?_⟩,aT c a,aT d a,fun x=>?_⟩
 ·rw[cP];have e1:=h x;have e2:=h1 x;grind
 ·rw[cP];have e1:=h x;have e2:=h2 x;grind
 ·rw[cP,cP,h x,h3];grind
/-! Degrees. -/
theorem aV1 {p q:List Rat} (hp:aI p=p) (hq:aI q=q) (hp0:p≠[]) (hq0:q≠[]):(cW p q).length=p.length+q.length-1/\aH (cW p q)=aH p*aH q:=by
 have h1:=List.length_pos_iff.2 hp0;have h2:=List.length_pos_iff.2 hq0;have e:(tab (nC p q) (p.length+q.length-1)).length=p.length+q.length-1:=eW;have hl:aH (tab (nC p q) (p.length+q.length-1))=aH p*aH q:=by
  unfold aH;rw[e,rJ,if_pos (by omega),aEr h2,fP,show p.length+q.length-1-1+1=(p.length-1)+(1+(q.length-1)) by omega,rD,nN,Rat.zero_add,rD,nN (n:=q.length-1),Rat.add_zero]
  ·show (0:Rat)+p.getD (p.length-1+0) 0*q.getD _ 0=_;rw[Nat.add_zero,Rat.zero_add,show p.length+q.length-1-1-(p.length-1)=q.length-1 by omega]
  ·intro i hi;rw[dC (l:=p) (by omega),Rat.zero_mul]
  ·intro i hi;rw[dC (l:=q) (by omega),Rat.mul_zero]
 have ht:cW p q=tab (nC p q) (p.length+q.length-1):=aBh (.inr (by
  rw[hl];intro h;exact(Rat.mul_eq_zero.1 h).elim (fE hp hp0) (fE hq hq0)))
 rw[ht];exact⟨e,hl⟩
theorem aTv (p q:List Rat):aI (cW p q)=cW p q:=cN _
theorem aDs {p:List Rat} (hp:aI p=p) (h0:p≠[]):aI p≠[]:=by rw[hp]; exact h0
theorem rV {g p:List Rat} (hg:aI g=g) (hp:aI p=p) (h0:p≠[]) (h:Dv g p):g≠[]/\g.length<=p.length/\(g.length=p.length->∃ c:Rat,c≠0/\∀ x,ev p x=c*ev g x):=by
 obtain⟨u,hu⟩:=h;have hu':∀ x,ev p x=ev (aI u) x*ev g x:=fun x=>by rw[pZ,hu]
 have hg0:g≠[]:=by
  rintro rfl;exact aDs hp h0 (aAd fun x=>by rw[hu,ev,Rat.mul_zero])
 have hu0:aI u≠[]:=by
  intro e;exact aDs hp h0 (aAd fun x=>by rw[hu',e,ev,Rat.zero_mul])
 have hpe:p=cW (aI u) g:=mF hp (aTv _ _) fun x=>by rw[nY,hu']
 obtain⟨m1,_⟩:=aV1 (cN u) hg hu0 hg0;have hul:=List.length_pos_iff.2 hu0;refine⟨hg0,by rw[hpe,m1]; omega,fun he=>?_⟩;have h1:(aI u).length=1:=by
  rw[hpe,m1] at he;omega
 obtain⟨c,hc⟩:∃ c,aI u=[c]:=List.length_eq_one_iff.1 h1;have hc0:c≠0:=by
  have:=fE (cN u) hu0;rw[hc] at this;exact this
 exact⟨c,hc0,fun x=>by rw[hu',hc,ev,ev]; grind⟩
theorem aP2 {p q g h:List Rat} (hg:dW p q g) (hh:dW p q h) (tg:aI g=g) (th:aI h=h) (h0:g≠[]) (hl:aH g=aH h):g=h:=by
 have dv:∀ {g h:List Rat},dW p q g->dW p q h->Dv g h:=by
  rintro g h ⟨⟨s,h1⟩,⟨t,h2⟩,_⟩ ⟨_,_,a,b,h3⟩;exact⟨kL (cW a s) (cW b t),fun x=>by rw[qI,nY,nY,h3,h1,h2]; grind⟩
 obtain⟨n1,l1,_⟩:=rV th tg h0 (dv hh hg);obtain⟨_,l2,c1⟩:=rV tg th n1 (dv hg hh);obtain⟨c,hc,he⟩:=c1 (by omega);have e2:h=aT g c:=mF th (cN _) fun x=>by rw[cP,he,Rat.mul_comm]
 have hlast:=(lE tg hc).2;rw[<- e2,<- hl] at hlast;have hg1:=fE tg h0;have hi:=Rat.mul_inv_cancel _ hg1;have hc1:c=1:=by grind
 refine mF tg th fun x=>by rw[he,hc1,Rat.one_mul]
/-! poly.Gcd. -/
theorem aEp:∀ {g:Nat},1<=g->2^g*5<=5^g*2
 | 1,_=>by decide
 | g+2,_=>by
  have:=aEp (g:=g+1) (by omega);rw[Nat.pow_succ 2,Nat.pow_succ 5];omega
theorem aMd:∀ {g:Nat},1<=g->2^g*(5*g+7)<=5^g*5
 | 1,_=>by decide
 | g+2,_=>by
  have h:=aMd (g:=g+1) (by omega);have h2:=aEp (g:=g+1) (by omega);rw[Nat.pow_succ 2,Nat.pow_succ 5];generalize 5^(g+1)=y at *;generalize 2^(g+1)=x at *;have e:x*2*(5*(g+2)+7)=2*(x*(5*(g+1)+7))+2*(x*5):=by grind
  rw[e];omega
def gB (M n:Nat):Nat:=5^n*2^(M-n)
theorem aEj {M n:Nat} (h:n<=M):gB M n<=5^M:=by
 unfold gB;obtain⟨k,rfl⟩:∃ k,M=n+k:=⟨M-n,by omega⟩
 rw[Nat.pow_add,Nat.add_sub_cancel_left];exact Nat.mul_le_mul_left _ (Nat.pow_le_pow_left (by decide) _)
theorem aU7 {M n:Nat} (h1:1<=n) (h:n<=M):5*2^(M-1)<=gB M n:=by
 unfold gB;obtain⟨k,rfl⟩:∃ k,n=k+1:=⟨n-1,by omega⟩
 obtain⟨j,rfl⟩:∃ j,M=k+1+j:=⟨M-(k+1),by omega⟩
 rw[show k+1+j-1=k+j by omega,show k+1+j-(k+1)=j by omega,Nat.pow_add,Nat.pow_succ,Nat.mul_comm (5^k) 5,Nat.mul_assoc 5,];refine Nat.mul_le_mul_left 5 (Nat.mul_le_mul_right _ (Nat.pow_le_pow_left (by decide) _))
theorem aCv {M n g c d Z:Nat} (hg:1<=g) (hM:n+g<=M) (h:(2*(c+1)+5*(d+1))*gB M (n+g)<=Z):(2*(d+1)+5*(c+(g+1)*(d+1)+1))*gB M n<=Z:=by
 refine Nat.le_trans ?_ h;unfold gB;obtain⟨k,rfl⟩:∃ k,M=n+g+k:=⟨M-(n+g),by omega⟩
 rw[show n+g+k-n=g+k by omega,show n+g+k-(n+g)=k by omega,Nat.pow_add 2,Nat.pow_add 5];have h1:=aEp hg;have h2:=aMd hg;generalize 2^g=x at *;generalize 5^g=y at *;have e1:2*(d+1)+5*(c+(g+1)*(d+1)+1)=5*(c+1)+(5*g+7)*(d+1):=by grind
 have e2:(5*(c+1)+(5*g+7)*(d+1))*x<=(2*(c+1)+5*(d+1))*y:=by
  have q1:=Nat.mul_le_mul_right (c+1) h1;have q2:=Nat.mul_le_mul_right (d+1) h2;have q3:(5*(c+1)+(5*g+7)*(d+1))*x=x*5*(c+1)+x*(5*g+7)*(d+1):=by grind
  have q4:(2*(c+1)+5*(d+1))*y=y*2*(c+1)+y*5*(d+1):=by grind
  omega
 rw[e1];generalize 5*(c+1)+(5*g+7)*(d+1)=u at *;generalize 2*(c+1)+5*(d+1)=v at *;have e3:u*(5^n*(x*2^k))=u*x*(5^n*2^k):=by grind
 have e4:v*(5^n*y*2^k)=v*y*(5^n*2^k):=by grind
 rw[e3,e4];exact Nat.mul_le_mul_right _ e2
theorem vF {M n A B Z s:Nat} (h1:1<=n) (h:n<=M) (hA:A*gB M n<=Z) (hZ:Z<=s*5*2^(M-1)*B):A<=s*B:=by
 have h2:=Nat.le_trans (Nat.le_trans (Nat.mul_le_mul_left A (aU7 h1 h)) hA) hZ;have h3:0<5*2^(M-1):=Nat.mul_pos (by decide) (Nat.pow_pos (by decide));have e1:s*5*2^(M-1)*B=s*B*(5*2^(M-1)):=by grind
 rw[e1] at h2;exact Nat.le_of_mul_le_mul_right h2 h3
theorem aIa {B Z M:Nat} (hB:1<=B) (hZ:Z<=5*5*2^(M-1)*(29*B)) :
  ∀ (f:Nat) (p q:List Rat) (c d:Nat),q.length<f->aI p=p->aI q=q->p≠[]->q.length<p.length->p.length<=M->Cm 1 p c->Cm 1 q d->c<=29*B->d<=29*B->(2*(c+1)+5*(d+1))*gB M p.length<=Z ->
  ∃ R e,jN B f p q=some R/\R≠[]/\aI R=R/\dW p q R/\R.length<=M/\Cm 1 R e/\e<=29*B/\2*(e+1)*gB M R.length<=Z:=by
 intro f
 induction f with
 | zero=>intro p q c d h; omega
 | succ f ih =>
  intro p q c d hf tp tq hp0 hlt hpM hpc hqd hcB hdB hX;rw[jN];by_cases hq:0<q.length
  ·rw[if_pos hq];have hq0:q≠[]:=List.length_pos_iff.1 hq;obtain⟨g,hg⟩:∃ g,p.length=q.length+g:=⟨p.length-q.length,by omega⟩
   have hsteps:p.length+1-q.length=g+1:=by omega
   rw[hg] at hX;have hW:=aCv (by omega) (by omega) hX;have hbd:=vF hq (by omega) (Nat.le_trans (Nat.mul_le_mul_right _ (show 5*(c+(g+1)*(d+1)+1)<=_ by omega)) hW) hZ;have hE:c+(p.length+1-q.length)*(d+1)<=29*B:=by
    rw[hsteps];omega
   obtain⟨r,k1,k2,k3,_,k5,a,u,k6,k7⟩:=aC7 hB hq (fE tq hq0) hqd (p.length+2) p c (by omega) tp hpc hE;rw[hsteps] at k5;obtain⟨s,s1,s2,s3,s4,b,s5,s6⟩:=yK hB k2 (mY k5) (by omega);obtain⟨R,e,r1,r2,r3,r4,r5,r6,r7⟩:=ih q s d (c+(g+1)*(d+1)) (by omega) tq s2 hq0 (by omega) (by omega) hqd s4 hdB (by omega) hW;refine⟨R,e,?_,r2,r3,(r4.right s5 s6).step k6 k7,r5,r6,r7⟩;rw[k1];show (jL B r).bind _=_;rw[s1];show (if s.length<q.length then jN B f q s else none)=_;rw[if_pos (by omega),r1]
  ·rw[if_neg hq];obtain rfl:=List.eq_nil_of_length_eq_zero (show q.length=0 by omega);exact⟨p,c,rfl,hp0,tp,aKk p,hpM,hpc,hcB,Nat.le_trans (Nat.mul_le_mul_right _ (by omega)) hX⟩
theorem qU {p:List Rat} (hp:aI p=p) (h0:p≠[]):aI (bA p)=bA p/\(bA p).length=p.length/\aH (bA p)=1/\∃ a:Rat,a≠0/\∀ x,ev (bA p) x=a*ev p x:=by
 have hl:=fE hp h0;have hi:=Rat.mul_inv_cancel _ hl;have e:(1:Rat)/aH p=(aH p)⁻¹:=by rw[Rat.div_def,Rat.one_mul]
 have ha:(1:Rat)/aH p≠0:=by
  rw[e];intro h;rw[h] at hi;grind
 obtain⟨h1,h2⟩:=lE hp ha;exact⟨cN _,h1,by rw[bA,h2,e,hi],_,ha,fun x=>by rw[bA,cP,Rat.mul_comm]⟩
def sA (p q:List Rat) (c d:Nat):Nat:=if q.length<p.length then 2*(c+1)+5*(d+1) else 5*(c+1)+7*(d+1)
theorem aRq {B M Q:Nat} {p q:List Rat} {c d:Nat} (hB:1<=B) (tp:aI p=p) (tq:aI q=q) (h0:p≠[]\/q≠[]) (hpM:p.length<=M) (hqM:q.length<=M) (hc:Cb p c) (hd:Cb q d) (hcB:c<=29*B) (hdB:d<=29*B) (hQ:sA p q c d<=Q) (hZ:Q*5^M<=5*5*2^(M-1)*(29*B)) :
  ∃ G e,nE B p q=some G/\G≠[]/\aI G=G/\aH G=1/\dW p q G/\G.length<=M/\Cb G e/\2*(e+1)*gB M G.length<=Q*5^M:=by
 have hM1:1<=M:=by
  rcases h0 with h | h
  ·have:=List.length_pos_iff.2 h; omega
  ·have:=List.length_pos_iff.2 h; omega
 have hQB:Q<=5*(29*B):=vF (M:=M) (n:=M) hM1 (Nat.le_refl _) (by unfold gB; rw[Nat.sub_self,Nat.pow_zero,Nat.mul_one]; exact Nat.le_refl _) hZ;have hle:∀ {n A:Nat},n<=M->A<=Q->A*gB M n<=Q*5^M:=fun hn hA=>Nat.mul_le_mul hA (aEj hn);obtain⟨p1,a1,a2,a3,a4,a,a5,a6⟩:=yK hB tp hc hcB;obtain⟨q1,b1,b2,b3,b4,b,b5,b6⟩:=yK hB tq hd hdB;have chain:∃ R e,jN B (p.length+q.length+3) p1 q1=some R/\R≠[]/\aI R=R/\dW p1 q1 R/\R.length<=M/\Cm 1 R e/\e<=29*B/\2*(e+1)*gB M R.length<=Q*5^M:=by
  unfold sA at hQ;rcases Nat.lt_or_ge q.length p.length with hlt | hge
  ·rw[if_pos hlt] at hQ;exact aIa hB hZ _ p1 q1 c d (by omega) a2 b2 (fun e=>by rw[e,List.length_nil] at a3; omega) (by omega) (by omega) a4 b4 hcB hdB (hle (by omega) hQ)
  ·rw[if_neg (by omega)] at hQ;have hq0:q1≠[]:=by
    intro e;rw[e,List.length_nil] at b3;rcases h0 with h | h
    ·exact h (List.eq_nil_of_length_eq_zero (by omega))
    ·exact h (List.eq_nil_of_length_eq_zero (by omega))
   have hql:=List.length_pos_iff.2 hq0;rw[show p.length+q.length+3=(p.length+q.length+2)+1 by omega,jN,if_pos hql];have hs:(p1.length+1-q1.length)*(d+1)<=d+1:=by
    rcases Nat.lt_or_ge p1.length q1.length with h | h
    ·rw[show p1.length+1-q1.length=0 by omega,Nat.zero_mul]; omega
    ·rw[show p1.length+1-q1.length=1 by omega,Nat.one_mul]; omega
   obtain⟨r,k1,k2,k3,_,k5,a',u,k6,k7⟩:=aC7 hB hql (fE b2 hq0) b4 (p1.length+2) p1 c (by omega) a2 a4 (by omega);obtain⟨s,s1,s2,s3,s4,b',s5,s6⟩:=yK hB k2 (mY (k5.mono (e:=c+d+1) (by omega))) (by omega);obtain⟨R,e,r1,r2,r3,r4,r5,r6,r7⟩:=aIa hB hZ (p.length+q.length+2) q1 s d (c+d+1) (by omega) b2 s2 hq0 (by omega) (by omega) b4 s4 hdB (by omega) (hle (by omega) (by omega));refine⟨R,e,?_,r2,r3,(r4.right s5 s6).step k6 k7,r5,r6,r7⟩;rw[k1];show (jL B r).bind _=_;rw[s1];show (if s.length<q1.length then jN B _ q1 s else none)=_;rw[if_pos (by omega),r1]
 obtain⟨R,e,r1,r2,r3,r4,r5,r6,he,r7⟩:=chain;obtain⟨m1,m2,m3,m,m4,m5⟩:=qU r3 r2;have hcb:=(mY r6).monic (fE r3 r2);refine⟨bA R,e,?_,fun h=>by rw[h,List.length_nil] at m2; exact r2 (List.eq_nil_of_length_eq_zero m2.symm),m1,m3,((r4.left a5 a6).right b5 b6).res m4 m5,by omega,hcb,by rw[m2]; exact r7⟩;unfold nE;rw[a1];show (jL B q).bind _=_;rw[b1];show (jN B _ p1 q1).bind _=_;rw[r1];show (if aG (bA R) B=true then some (bA R) else none)=_;rw[if_pos (hcb.sz hB he)]
theorem aJr {B:Nat} (hB:1<=B):nE B [] []=some []:=by
 have z:∀ l:List Rat,(∀ a∈l,a=0)->aG l B=true:=fun l hl=>uA (e:=0) hB (Nat.zero_le _) fun b hb=>by
  obtain rfl:=hl b hb;exact⟨by decide,by decide⟩
 have hp:jL B []=some []:=by
  show (if (aG [1/0] B&&aG [] B)=true then some _ else none)=_;rw[show (1:Rat)/0=0 by decide +kernel,z [0] (by simp),z [] (by simp)];rfl
 unfold nE;rw[hp];show (if aG (bA []) B=true then some _ else none)=_;rw[show bA []=[] from rfl,z [] (by simp)];rfl
/-! The reference's Gcd: the same chain with monic polynomials. -/
def jZ (B:Nat):Nat->List Rat->List Rat->Option (List Rat)
 | 0,_,_=>none
 | n+1,a,b=>if 0<b.length then (dV B a b).bind fun x=>if (aG (bA x.2) B&&decide (x.2.length<b.length))=true then jZ B n b (bA x.2) else none else some a
def pD (B:Nat) (p q:List Rat):Option (List Rat):=if (aG (bA p) B&&aG (bA q) B)=true then jZ B (p.length+q.length+3) (bA p) (bA q) else none
theorem vM {p:List Rat} {c:Nat} (hp:aI p=p) (hc:Cb p c):aI (bA p)=bA p/\(bA p).length=p.length/\Cb (bA p) c/\∃ a:Rat,a≠0/\∀ x,ev (bA p) x=a*ev p x:=by
 by_cases h0:p=[]
 ·subst h0;exact⟨rfl,rfl,Cb.nil c,1,by decide,fun x=>by rw[Rat.one_mul]; rfl⟩
 ·obtain⟨h1,h2,_,a,h3,h4⟩:=qU hp h0;exact⟨h1,h2,hc.monic (fE hp h0),a,h3,h4⟩
theorem aGm {B Z M:Nat} (hB:1<=B) (hZ:Z<=2*5*2^(M-1)*(29*B)) :
  ∀ (f:Nat) (p q:List Rat) (c d:Nat),q.length<f->aI p=p->aI q=q->p≠[]->aH p=1->(q≠[]->aH q=1)->q.length<p.length->p.length<=M->Cb p c->Cb q d->(2*(c+1)+5*(d+1))*gB M p.length<=Z ->
  ∃ R,jZ B f p q=some R/\R≠[]/\aI R=R/\aH R=1/\R.length<=p.length/\dW p q R:=by
 intro f
 induction f with
 | zero=>intro p q c d h; omega
 | succ f ih =>
  intro p q c d hf tp tq hp0 lp lq hlt hpM hpc hqd hX;rw[jZ];by_cases hq:0<q.length
  ·rw[if_pos hq];have hq0:q≠[]:=List.length_pos_iff.1 hq;obtain⟨g,hg⟩:∃ g,p.length=q.length+g:=⟨p.length-q.length,by omega⟩
   have hsteps:p.length+1-q.length=g+1:=by omega
   rw[hg] at hX;have hW:=aCv (by omega) (by omega) hX;have hbd:=vF hq (by omega) (Nat.le_trans (Nat.mul_le_mul_right _ (show 2*(d+1)+2*(c+(g+1)*(d+1)+1)<=_ by omega)) hW) hZ;have hE:jO p q c d<=29*B:=by
    unfold jO;rw[hsteps];omega
   obtain⟨U,R,k1,k2,k3,k4,k5,k6,k7,k8⟩:=vN hB tp tq hq0 hpc hqd hE;have k8':Cb R (c+(g+1)*(d+1)):=by
    unfold jO at k8;rw[hsteps] at k8;exact k8.mono (by omega)
   obtain⟨m1,m2,m3,b,m4,m5⟩:=vM k3 k8';have hlm:bA R≠[]->aH (bA R)=1:=fun h=>by
    refine(qU k3 ?_).2.2.1;rintro rfl;exact h rfl
   obtain⟨G,r1,r2,r3,r4,r5,r6⟩:=ih q (bA R) d (c+(g+1)*(d+1)) (by omega) tq m1 hq0 (lq hq0) hlm (by omega) (by omega) hqd m3 hW;refine⟨G,?_,r2,r3,r4,by omega,(r6.right m4 m5).step (a:=1) (u:=aT U (-1)) (by decide) fun x=>?_⟩
   ·rw[k1];show (if (aG (bA R) B&&decide (R.length<q.length))=true then jZ B f q (bA R) else none)=_;rw[m3.sz hB (by omega),decide_eq_true k4,Bool.and_true,if_pos rfl,r1]
   ·rw[cP,k6 x];grind
  ·rw[if_neg hq];obtain rfl:=List.eq_nil_of_length_eq_zero (show q.length=0 by omega);exact⟨p,rfl,hp0,tp,lp,Nat.le_refl _,aKk p⟩
theorem aPj {B M Q:Nat} {p q:List Rat} {c d:Nat} (hB:1<=B) (tp:aI p=p) (tq:aI q=q) (h0:p≠[]\/q≠[]) (hpM:p.length<=M) (hqM:q.length<=M) (hc:Cb p c) (hd:Cb q d) (hcB:c<=29*B) (hdB:d<=29*B) (hQ:sA p q c d<=Q) (hZ:Q*5^M<=2*5*2^(M-1)*(29*B)) :
  ∃ G,pD B p q=some G/\G≠[]/\aI G=G/\aH G=1/\dW p q G:=by
 have hM1:1<=M:=by
  rcases h0 with h | h
  ·have:=List.length_pos_iff.2 h; omega
  ·have:=List.length_pos_iff.2 h; omega
 have hQB:Q<=2*(29*B):=vF (M:=M) (n:=M) hM1 (Nat.le_refl _) (by unfold gB; rw[Nat.sub_self,Nat.pow_zero,Nat.mul_one]; exact Nat.le_refl _) hZ;have hle:∀ {n A:Nat},n<=M->A<=Q->A*gB M n<=Q*5^M:=fun hn hA=>Nat.mul_le_mul hA (aEj hn);obtain⟨a2,a3,a4,a,a5,a6⟩:=vM tp hc;obtain⟨b2,b3,b4,b,b5,b6⟩:=vM tq hd;have hlast:∀ {r:List Rat},aI r=r->bA r≠[]->aH (bA r)=1:=fun tr h=>by
  refine(qU tr ?_).2.2.1;rintro rfl;exact h rfl
 have chain:∃ R,jZ B (p.length+q.length+3) (bA p) (bA q)=some R/\R≠[]/\aI R=R/\aH R=1/\dW (bA p) (bA q) R:=by
  unfold sA at hQ;rcases Nat.lt_or_ge q.length p.length with hlt | hge
  ·rw[if_pos hlt] at hQ;have hp0:bA p≠[]:=fun e=>by rw[e,List.length_nil] at a3; omega
   obtain⟨R,r1,r2,r3,r4,_,r6⟩:=aGm hB hZ (p.length+q.length+3) (bA p) (bA q) c d (by omega) a2 b2 hp0 (hlast tp hp0) (hlast tq) (by omega) (by omega) a4 b4 (hle (by omega) hQ);exact⟨R,r1,r2,r3,r4,r6⟩
  ·rw[if_neg (by omega)] at hQ;have hq0:bA q≠[]:=by
    intro e;rw[e,List.length_nil] at b3;rcases h0 with h | h
    ·exact h (List.eq_nil_of_length_eq_zero (by omega))
    ·exact h (List.eq_nil_of_length_eq_zero (by omega))
   have hql:=List.length_pos_iff.2 hq0;rw[show p.length+q.length+3=(p.length+q.length+2)+1 by omega,jZ,if_pos hql];have hs:((bA p).length+1-(bA q).length)*(d+1)<=d+1:=by
    rcases Nat.lt_or_ge (bA p).length (bA q).length with h | h
    ·rw[show (bA p).length+1-(bA q).length=0 by omega,Nat.zero_mul]; omega
    ·rw[show (bA p).length+1-(bA q).length=1 by omega,Nat.one_mul]; omega
   obtain⟨U,r,k1,k2,k3,k4,k5,k6,k7,k8⟩:=vN hB a2 b2 hq0 a4 b4 (by unfold jO; omega);have k8':Cb r (c+d+1):=by
    unfold jO at k8;exact k8.mono (by omega)
   obtain⟨m1,m2,m3,b',m4,m5⟩:=vM k3 k8';obtain⟨R,r1,r2,r3,r4,_,r6⟩:=aGm hB hZ (p.length+q.length+2) (bA q) (bA r) d (c+d+1) (by omega) b2 m1 hq0 (hlast tq hq0) (hlast k3) (by omega) (by omega) b4 m3 (hle (by omega) (by omega));refine⟨R,?_,r2,r3,r4,(r6.right m4 m5).step (a:=1) (u:=aT U (-1)) (by decide) fun x=>?_⟩
   ·rw[k1];show (if (aG (bA r) B&&decide (r.length<(bA q).length))=true then jZ B _ (bA q) (bA r) else none)=_;rw[m3.sz hB (by omega),decide_eq_true k4,Bool.and_true,if_pos rfl,r1]
   ·rw[cP,k6 x];grind
 obtain⟨R,r1,r2,r3,r4,r5⟩:=chain;refine⟨R,?_,r2,r3,r4,(r5.left a5 a6).right b5 b6⟩;rw[pD,a4.sz hB hcB,b4.sz hB hdB,Bool.and_true,if_pos rfl,r1]
theorem aQx {B:Nat}:pD B [] []=some []:=rfl
theorem aT3 {B M Q:Nat} {p q:List Rat} {c d:Nat} (hB:1<=B) (tp:aI p=p) (tq:aI q=q) (hpM:p.length<=M) (hqM:q.length<=M) (hc:Cb p c) (hd:Cb q d) (hcB:c<=29*B) (hdB:d<=29*B) (hQ:sA p q c d<=Q) (hZ:Q*5^M<=2*5*2^(M-1)*(29*B)) :
  ∃ G e,nE B p q=some G/\pD B p q=some G/\aI G=G/\(p≠[]\/q≠[]->G≠[]/\aH G=1/\dW p q G)/\(p=[]/\q=[]->G=[])/\Cb G e/\2*(e+1)*gB M G.length<=max (2*(e+1)*gB M 0) (Q*5^M)/\(G=[]\/2*(e+1)*gB M G.length<=Q*5^M):=by
 by_cases h0:p=[]/\q=[]
 ·obtain⟨rfl,rfl⟩:=h0;exact⟨[],0,aJr hB,aQx,rfl,fun h=>by simp at h,fun _=>rfl,Cb.nil 0,Nat.le_max_left _ _,.inl rfl⟩
 ·have h1:p≠[]\/q≠[]:=by
   by_cases hp:p=[]
   ·exact .inr fun hq=>h0 ⟨hp,hq⟩
   ·exact .inl hp
  have hZ':Q*5^M<=5*5*2^(M-1)*(29*B):=Nat.le_trans hZ (Nat.mul_le_mul_right _ (Nat.mul_le_mul_right _ (by decide)));obtain⟨G,e,g1,g2,g3,g4,g5,g6,g7,g8⟩:=aRq hB tp tq h1 hpM hqM hc hd hcB hdB hQ hZ';obtain⟨H,k1,k2,k3,k4,k5⟩:=aPj hB tp tq h1 hpM hqM hc hd hcB hdB hQ hZ;have he:G=H:=aP2 g5 k5 g3 k3 g2 (by rw[g4,k4]);subst he;exact⟨G,e,g1,k1,g3,fun _=>⟨g2,g4,g5⟩,fun h=>absurd h h0,g7,Nat.le_trans g8 (Nat.le_max_right _ _),.inr g8⟩
/-! Divisors of a polynomial have short numbers: at whole numbers beyond the zeros a divisor is no greater than the polynomial,and its values there tell its coefficients. -/
def Zl (l:List Rat):Prop:=∀ k,∃ z:Int,l.getD k 0=(z:Rat)
def Dd (d:Int) (l:List Rat):Prop:=∀ k,∃ z:Int,l.getD k 0=((d*z:Int):Rat)
theorem aRl:∀ m:Nat,1<m->∃ p,1<p/\p ∣ m/\∀ d,d ∣ p->d=1\/d=p:=by
 intro m
 induction m using Nat.strongRecOn with
 | ind m ih =>
  intro h;by_cases hd:∃ d,1<d/\d<m/\d ∣ m
  ·obtain⟨d,h1,h2,h3⟩:=hd;obtain⟨p,p1,p2,p3⟩:=ih d h2 h1;exact⟨p,p1,Nat.dvd_trans p2 h3,p3⟩
  ·refine⟨m,h,Nat.dvd_refl m,fun d h1=>?_⟩;have hle:=Nat.le_of_dvd (by omega) h1;have h0:d≠0:=by
    rintro rfl;have:=Nat.eq_zero_of_zero_dvd h1;omega
   rcases Nat.lt_or_ge 1 d with h2 | h2
   ·rcases Nat.lt_or_ge d m with h3 | h3
    ·exact absurd ⟨d,h2,h3,h1⟩ hd
    ·exact .inr (by omega)
   ·exact .inl (by omega)
theorem aQ9 {p:Nat} (hp:∀ d,d ∣ p->d=1\/d=p) {a b:Int} (h:(p:Int) ∣ a*b):(p:Int) ∣ a\/(p:Int) ∣ b:=by
 have h':p ∣ a.natAbs*b.natAbs:=by rw[<- Int.natAbs_mul]; exact Int.ofNat_dvd_left.1 h
 rcases hp (Nat.gcd p a.natAbs) (Nat.gcd_dvd_left _ _) with h1 | h1
 ·exact .inr (Int.ofNat_dvd_left.2 (Nat.Coprime.dvd_of_dvd_mul_left h1 h'))
 ·exact .inl (Int.ofNat_dvd_left.2 (by rw[<- h1]; exact Nat.gcd_dvd_right _ _))
theorem aLr (p q:List Rat) (k:Nat):fP p q k=fP q p k:=by
 rw[<- yU,<- yU];exact wG (fun x=>by rw[nY,nY,Rat.mul_comm]) k
theorem Zl.tail {a:Rat} {l:List Rat} (h:Zl (a::l)):Zl l:=fun k=>h (k+1)
theorem Dd.cons {d:Int} {a:Rat} {l:List Rat} (h0:∃ z:Int,a=((d*z:Int):Rat)) (h:Dd d l):Dd d (a::l):=fun k=>by
 cases k with
 | zero=>exact h0
 | succ k=>exact h k
theorem Dd.nil (d:Int):Dd d []:=fun k=>⟨0,by rw[dC (Nat.zero_le _),Int.mul_zero]; rfl⟩
theorem aX5 {p:Nat} (hp:∀ d,d ∣ p->d=1\/d=p):∀ (n:Nat) (g h:List Rat),g.length+h.length<=n->Zl g->Zl h->(∀ k,∃ z:Int,fP g h k=(((p:Int)*z:Int):Rat))->Dd p g\/Dd p h:=by
 intro n
 induction n with
 | zero =>
  intro g h hn _ _ _;obtain rfl:=List.eq_nil_of_length_eq_zero (show g.length=0 by omega);exact .inl (Dd.nil p)
 | succ n ih =>
  have cut:∀ (a:Rat) (g h:List Rat),Zl (a::g)->Zl h->(∀ k,∃ z:Int,fP (a::g) h k=(((p:Int)*z:Int):Rat))->(∃ z:Int,a=(((p:Int)*z:Int):Rat))->∀ k,∃ z:Int,fP g h k=(((p:Int)*z:Int):Rat):=by
   rintro a g h hg hh hc ⟨y,hy⟩ k;obtain⟨z,hz⟩:=hc (k+1);rw[aEc,if_neg (by omega),Nat.add_sub_cancel] at hz;obtain⟨u,hu⟩:=hh (k+1);refine⟨z-u*y,?_⟩;rw[hu,hy] at hz;rw[Int.mul_sub,Rat.intCast_sub,<- hz,Rat.intCast_mul,Rat.intCast_mul,Rat.intCast_mul];grind
  intro g h hn hg hh hc
  match g,h with
  | [],_=>exact .inl (Dd.nil p)
  | _::_,[]=>exact .inr (Dd.nil p)
  | a::g,b::h =>
   obtain⟨a',ha⟩:=hg 0;obtain⟨b',hb⟩:=hh 0;have ha':a=(a':Rat):=ha;have hb':b=(b':Rat):=hb;simp only[List.length_cons] at hn;have h0:(p:Int) ∣ a'*b':=by
    obtain⟨z,hz⟩:=hc 0;rw[aEc,if_pos rfl] at hz;have e:((a'*b':Int):Rat)=(((p:Int)*z:Int):Rat):=by
     rw[<- hz,Rat.intCast_mul,<- ha',<- hb'];show _=b*a+0;grind
    exact⟨z,Rat.intCast_inj.1 e⟩
   rcases aQ9 hp h0 with ⟨y,hy⟩ | ⟨y,hy⟩
   ·have hd:∃ z:Int,a=(((p:Int)*z:Int):Rat):=⟨y,by rw[ha',hy]⟩
    rcases ih g (b::h) (by simp only[List.length_cons]; omega) hg.tail hh (cut a g (b::h) hg hh hc hd) with q | q
    ·exact .inl (q.cons hd)
    ·exact .inr q
   ·have hd:∃ z:Int,b=(((p:Int)*z:Int):Rat):=⟨y,by rw[hb',hy]⟩
    have hc':=cut b h (a::g) hh hg (fun k=>by rw[aLr]; exact hc k) hd;rcases ih (a::g) h (by simp only[List.length_cons]; omega) hg hh.tail (fun k=>by rw[aLr]; exact hc' k) with q | q
    ·exact .inl q
    ·exact .inr (q.cons hd)
def aFj (g:List Rat):Prop:=Zl g/\∀ d:Nat,1<d->¬ Dd d g
theorem aPe {P G H:List Rat} (hP:Zl P) (hG:aFj G) (h:∀ x,ev P x=ev G x*ev H x):∀ m:Nat,0<m->(∀ k,∃ z:Int,H.getD k 0*((m:Nat):Rat)=(z:Rat))->Zl H:=by
 intro m
 induction m using Nat.strongRecOn with
 | ind m ih =>
  intro hm hH;by_cases h1:m=1
  ·subst h1;intro k;obtain⟨z,hz⟩:=hH k;exact⟨z,by rw[<- hz]; show _=_*(1:Rat); grind⟩
  ·obtain⟨p,p1,⟨m',p2⟩,p3⟩:=aRl m (by omega);have hm':0<m':=by
    rcases Nat.eq_zero_or_pos m' with q | q
    ·subst q; omega
    ·exact q
   have hp0:((p:Nat):Rat)≠0:=fun e=>by
    have:(((p:Int)):Rat)=((0:Int):Rat):=by rw[Rat.intCast_natCast]; exact e
    have:=Rat.intCast_inj.1 this;omega
   have hmm:((m:Nat):Rat)=((p:Nat):Rat)*((m':Nat):Rat):=by rw[p2,Rat.natCast_mul]
   have hS:Zl (aT H ((m:Nat):Rat)):=fun k=>by rw[jT]; exact hH k
   have hcv:∀ k,∃ z:Int,fP G (aT H ((m:Nat):Rat)) k=(((p:Int)*z:Int):Rat):=fun k=>by
    obtain⟨z,hz⟩:=hP k;refine⟨m'*z,?_⟩;have e:fP G (aT H ((m:Nat):Rat)) k=(aT P ((m:Nat):Rat)).getD k 0:=by
     rw[<- yU];exact wG (fun x=>by rw[nY,cP,cP,h]; grind) k
    rw[e,jT,hz,hmm,Rat.intCast_mul,Rat.intCast_mul,Rat.intCast_natCast,Rat.intCast_natCast];grind
   rcases aX5 p3 _ G (aT H ((m:Nat):Rat)) (Nat.le_refl _) hG.1 hS hcv with q | q
   ·exact absurd q (hG.2 p p1)
   ·have hlt:m'<m:=by
     rw[p2];have:=Nat.mul_le_mul_right m' p1;omega
    refine ih m' hlt hm' fun k=>?_;obtain⟨z,hz⟩:=q k;rw[jT,hmm,Rat.intCast_mul,Rat.intCast_natCast] at hz;refine⟨z,?_⟩;have hi:=Rat.mul_inv_cancel _ hp0;grind
theorem aEd:∀ l:List Rat,∃ m:Nat,0<m/\∀ k,∃ z:Int,l.getD k 0*((m:Nat):Rat)=(z:Rat)
 | []=>⟨1,Nat.one_pos,fun k=>⟨0,by rw[dC (Nat.zero_le _),Rat.zero_mul]; rfl⟩⟩
 | a::l=>by
  obtain⟨m,h1,h2⟩:=aEd l;refine⟨a.den*m,Nat.mul_pos (Nat.pos_of_ne_zero a.den_nz) h1,fun k=>?_⟩;cases k with
  | zero =>
   refine⟨a.num*m,?_⟩;show a*_=_;rw[Rat.natCast_mul,Rat.intCast_mul,<- wN a,Rat.intCast_natCast];grind
  | succ k =>
   obtain⟨z,hz⟩:=h2 k;refine⟨a.den*z,?_⟩;show l.getD k 0*_=_;rw[Rat.natCast_mul,Rat.intCast_mul,<- hz,Rat.intCast_natCast];grind
theorem aXo {d:Nat} (hd:0<d) {g:List Rat} (h:Dd d g):Zl (aT g (1/((d:Nat):Rat))):=fun k=>by
 obtain⟨z,hz⟩:=h k;refine⟨z,?_⟩;have hd0:((d:Nat):Rat)≠0:=fun e=>by
  have:(((d:Int)):Rat)=((0:Int):Rat):=by rw[Rat.intCast_natCast]; exact e
  have:=Rat.intCast_inj.1 this;omega
 have hi:=Rat.mul_inv_cancel _ hd0;rw[jT,hz,Rat.div_def,Rat.one_mul,Rat.intCast_mul,Rat.intCast_natCast];grind
theorem aTg:∀ (n:Nat) (g:List Rat),aI g=g->g≠[]->Zl g->(∀ z:Int,aH g=(z:Rat)->z.natAbs<=n)->∃ (r:List Rat) (c:Rat),c≠0/\aI r=r/\r.length=g.length/\aFj r/\∀ x,ev r x=c*ev g x:=by
 intro n
 induction n with
 | zero =>
  intro g tg hg0 hz hl;obtain⟨z,hz'⟩:=hz (g.length-1);have:=hl z hz';exact absurd (show aH g=0 by show g.getD _ 0=0; rw[hz',show z=0 by omega]; rfl) (fE tg hg0)
 | succ n ih =>
  intro g tg hg0 hz hl;by_cases hd:∃ d:Nat,1<d/\Dd d g
  ·obtain⟨d,d1,d2⟩:=hd;have hd0:((d:Nat):Rat)≠0:=fun e=>by
    have:(((d:Int)):Rat)=((0:Int):Rat):=by rw[Rat.intCast_natCast]; exact e
    have:=Rat.intCast_inj.1 this;omega
   have hi:=Rat.mul_inv_cancel _ hd0;have e1:(1:Rat)/((d:Nat):Rat)=((d:Nat):Rat)⁻¹:=by rw[Rat.div_def,Rat.one_mul]
   have hc:(1:Rat)/((d:Nat):Rat)≠0:=by
    rw[e1];intro e;rw[e] at hi;grind
   obtain⟨s1,s2⟩:=lE tg hc;obtain⟨r,c,r1,r2,r3,r4,r5⟩:=ih (aT g (1/((d:Nat):Rat))) (cN _) (fun e=>by
    rw[e] at s1;exact hg0 (List.eq_nil_of_length_eq_zero s1.symm)) (aXo (by omega) d2) (fun z hz2=>by
     obtain⟨y,hy⟩:=d2 (g.length-1);have hy':aH g=(((d:Int)*y:Int):Rat):=hy;have hb:=hl _ hy';rw[s2,hy',e1,Rat.intCast_mul,Rat.intCast_natCast] at hz2;have e2:(y:Rat)=(z:Rat):=by rw[<- hz2]; grind
     obtain rfl:=Rat.intCast_inj.1 e2;rw[Int.natAbs_mul,Int.natAbs_natCast] at hb;have hy0:y.natAbs≠0:=fun e=>fE tg hg0 (by rw[hy',show y=0 by omega,Int.mul_zero]; rfl);have:=Nat.mul_le_mul_right y.natAbs d1;omega)
   exact⟨r,c*(1/((d:Nat):Rat)),fun e=>(Rat.mul_eq_zero.1 e).elim r1 hc,r2,by rw[r3,s1],r4,fun x=>by rw[r5,cP]; grind⟩
  ·exact⟨g,1,by decide,tg,rfl,⟨hz,fun d d1 d2=>hd ⟨d,d1,d2⟩⟩,fun x=>by rw[Rat.one_mul]⟩
theorem aVn {g:List Rat} (tg:aI g=g) (hg0:g≠[]):∃ (r:List Rat) (c:Rat),c≠0/\aI r=r/\r.length=g.length/\aFj r/\∀ x,ev r x=c*ev g x:=by
 obtain⟨m,m1,m2⟩:=aEd g;have hm0:((m:Nat):Rat)≠0:=fun e=>by
  have:(((m:Int)):Rat)=((0:Int):Rat):=by rw[Rat.intCast_natCast]; exact e
  have:=Rat.intCast_inj.1 this;omega
 obtain⟨s1,s2⟩:=lE tg hm0;have hz:Zl (aT g ((m:Nat):Rat)):=fun k=>by rw[jT]; exact m2 k
 obtain⟨z,hz2⟩:=hz ((aT g ((m:Nat):Rat)).length-1);obtain⟨r,c,r1,r2,r3,r4,r5⟩:=aTg z.natAbs (aT g ((m:Nat):Rat)) (cN _) (fun e=>by
  rw[e] at s1;exact hg0 (List.eq_nil_of_length_eq_zero s1.symm)) hz (fun y hy=>by
   have e:(y:Rat)=(z:Rat):=by rw[<- hy]; exact hz2
   rw[Rat.intCast_inj.1 e];exact Nat.le_refl _)
 exact⟨r,c*((m:Nat):Rat),fun e=>(Rat.mul_eq_zero.1 e).elim r1 hm0,r2,by rw[r3,s1],r4,fun x=>by rw[r5,cP]; grind⟩
/-! Whole numbers as they are. -/
def eM:List Int->Int->Int
 | [],_=>0
 | a::l,x=>a+x*eM l x
def sB (L:List Int):List Rat:=L.map fun z:Int=>(z:Rat)
theorem aE8 {l:List Rat} (h:Zl l):∃ L:List Int,l=sB L:=by
 induction l with
 | nil=>exact⟨[],rfl⟩
 | cons a l ih =>
  obtain⟨L,hL⟩:=ih h.tail;obtain⟨z,hz⟩:=h 0;exact⟨z::L,by rw[hL,show a=(z:Rat) from hz]; rfl⟩
theorem aAb (x:Int):∀ L:List Int,ev (sB L) (x:Rat)=(eM L x:Rat)
 | []=>rfl
 | a::L=>by
  show (a:Rat)+(x:Rat)*ev (sB L) x=_;rw[aAb x L,eM,Rat.intCast_add,Rat.intCast_mul]
theorem aDr (L:List Int) (k:Nat):(sB L).getD k 0=(L.getD k 0:Rat):=by
 unfold sB;rw[List.getD_eq_getElem?_getD,List.getD_eq_getElem?_getD,List.getElem?_map];cases L[k]?<;>rfl
theorem aLe {c:Nat} {x:Int} (hx:2^c+1<=x):∀ (L:List Int),(∀ k,(L.getD k 0).natAbs<=2^c)->L≠[]->L.getD (L.length-1) 0≠0->1<=(eM L x).natAbs
 | [],_,h,_=>absurd rfl h
 | [a],_,_,h=>by
  have h':a≠0:=h;show 1<=(a+x*0).natAbs;omega
 | a::b::L,hb,_,hl=>by
  have ih:=aLe hx (b::L) (fun k=>hb (k+1)) (by simp) (by simpa using hl);have ha:a.natAbs<=2^c:=hb 0;rw[eM];have h1:(x*eM (b::L) x).natAbs=x.natAbs*(eM (b::L) x).natAbs:=Int.natAbs_mul _ _;have h2:=Nat.le_mul_of_pos_right x.natAbs (show 0<(eM (b::L) x).natAbs by omega);have h3:(2:Int)^c=((2^c:Nat):Int):=by simp
  rw[h3] at hx;generalize 2^c=y at *;omega
theorem aJq {c s:Nat} {x:Int} (hx:x.natAbs<=2^s):∀ (L:List Int),(∀ k,(L.getD k 0).natAbs<=2^c)->(eM L x).natAbs<=2^(c+L.length*(s+1))
 | [],_=>Nat.zero_le _
 | a::L,hb=>by
  have ih:=aJq hx L (fun k=>hb (k+1));have ha:a.natAbs<=2^c:=hb 0;rw[eM];refine Nat.le_trans (aWk (c:=c+L.length*(s+1)+s) (Nat.le_trans ha (eZ (by omega))) (Nat.le_trans (gT hx ih) (eZ (by omega)))) (eZ ?_);rw[List.length_cons,Nat.succ_mul];omega
def gX (s:Int):Int->List Int->Int × List Int
 | a,[]=>(a,[])
 | a,b::l=>(a+s*(gX s b l).1,(gX s b l).1::(gX s b l).2)
theorem aKr (s:Int):∀ (l:List Int) (a:Int),(gX s a l).2.length=l.length
 | [],_=>rfl
 | b::l,_=>by rw[gX,List.length_cons,aKr s l b,List.length_cons]
theorem aL9 (s x:Int):∀ (l:List Int) (a:Int),a+x*eM l x=(gX s a l).1+(x-s)*eM (gX s a l).2 x
 | [],a=>by show a+x*0=a+(x-s)*0; grind
 | b::l,a=>by
  have ih:=aL9 s x l b;rw[gX,eM,eM];show a+x*(b+x*eM l x)=a+s*(gX s b l).1+(x-s)*((gX s b l).1+x*eM (gX s b l).2 x);rw[ih];grind
theorem aKs (s:Int):∀ (l:List Int) (a:Int),a=(gX s a l).1-s*(gX s a l).2.getD 0 0/\∀ k,l.getD k 0=(gX s a l).2.getD k 0-s*(gX s a l).2.getD (k+1) 0
 | [],a=>⟨by show a=a-s*0; grind,fun k=>by show (0:Int)=0-s*0; grind⟩
 | b::l,a=>by
  obtain⟨h1,h2⟩:=aKs s l b;rw[gX];refine⟨?_,fun k=>?_⟩
  ·show a=a+s*(gX s b l).1-s*(gX s b l).1;grind
  ·cases k with
   | zero=>exact h1
   | succ k=>exact h2 k
theorem aMj:∀ (n:Nat) (L:List Int) (s:Int) (v t:Nat),L.length<=n->(∀ j:Nat,j<n->(eM L (s+j)).natAbs<=2^v)->s.natAbs+n<=2^t->∀ k,(L.getD k 0).natAbs<=2^(v+n*(t+2))
 | 0,L,s,v,t,hL,_,_,k=>by
  obtain rfl:=List.eq_nil_of_length_eq_zero (show L.length=0 by omega);exact Nat.zero_le _
 | n+1,[],_,_,_,_,_,_,k=>Nat.zero_le _
 | n+1,a::L,s,v,t,hL,hv,ht,k=>by
  rw[List.length_cons] at hL;obtain⟨g1,g2⟩:=aKs s L a;have hev:=fun x=>aL9 s x L a;have hl:=aKr s L a;generalize (gX s a L).1=c at *;generalize (gX s a L).2=L' at *;have hc:c.natAbs<=2^v:=by
   have h0:=hv 0 (by omega);have e:=hev s;rw[show s-s=0 by omega,Int.zero_mul,Int.add_zero] at e;rw[show s+((0:Nat):Int)=s by omega,eM,e] at h0;exact h0
  have ih:=aMj n L' (s+1) (v+1) t (by omega) (fun j hj=>by
   have h1:=hv (j+1) (by omega);rw[show s+((j+1:Nat):Int)=s+1+j by omega,eM,hev] at h1;have h2:((s+1+j-s)*eM L' (s+1+j)).natAbs=(s+1+j-s).natAbs*(eM L' (s+1+j)).natAbs:=Int.natAbs_mul _ _;have h3:=Nat.le_mul_of_pos_left (eM L' (s+1+j)).natAbs (show 0<(s+1+j-s).natAbs by omega);rw[Nat.pow_succ];omega) (by omega)
  have hs:s.natAbs<=2^t:=by omega
  have hsum:∀ {y z:Int} {w:Nat},y.natAbs<=2^w->z.natAbs<=2^w->(y-s*z).natAbs<=2^(w+t+1):=fun hy hz=>by
   refine aEg (Nat.le_trans hy (eZ (by omega))) ?_;rw[Nat.add_comm];exact gT hs hz
  have hexp:v+1+n*(t+2)+t+1=v+(n+1)*(t+2):=by rw[Nat.succ_mul]; omega
  rw[<- hexp];cases k with
  | zero =>
   show a.natAbs<=_;rw[g1];exact hsum (Nat.le_trans hc (eZ (by omega))) (ih 0)
  | succ k =>
   show (L.getD k 0).natAbs<=_;rw[g2];exact hsum (ih k) (ih (k+1))
def rZ (c n:Nat):Nat:=c+n*(c+3)+n*(c+4)
theorem Cm.whole {m:Int} {p:List Rat} {c:Nat} (h:Cm m p c):Zl (aT p (m:Rat)):=fun k=>by
 obtain⟨z,z1,_⟩:=h k;exact⟨z,by rw[jT,z1]⟩
theorem aJz {P G:List Rat} {c n:Nat} (tP:aI P=P) (hP0:P≠[]) (hc:Cb P c) (hn:P.length<=n) (hn2:n<=2^c) (tG:aI G=G) (h:Dv G P):Cb (bA G) (rZ c n):=by
 obtain⟨hG0,hGl,_⟩:=rV tG tP hP0 h;obtain⟨m,m1,_,m3⟩:=hc;obtain⟨u,hu⟩:=h;have hm0:=oY m1;obtain⟨s1,s2⟩:=lE tP hm0;obtain⟨r,a,a1,r1,r2,r3,r4⟩:=aVn tG hG0;have hai:=Rat.inv_mul_cancel a a1;have hPz:=m3.whole;have hq:∀ x,ev (aT P (m:Rat)) x=ev r x*ev (aT u (a⁻¹*(m:Rat))) x:=fun x=>by
  rw[cP,cP,r4,hu];grind
 obtain⟨d,d1,d2⟩:=aEd (aT u (a⁻¹*(m:Rat)));have hHz:=aPe hPz r3 hq d d1 d2;obtain⟨LP,eP⟩:=aE8 hPz;obtain⟨LG,eG⟩:=aE8 r3.1;obtain⟨LH,eH⟩:=aE8 hHz;have hmul:∀ x:Int,eM LP x=eM LG x*eM LH x:=fun x=>by
  have:=hq (x:Rat);rw[eP,eG,eH,aAb,aAb,aAb,<- Rat.intCast_mul] at this;exact Rat.intCast_inj.1 this
 have hPb:∀ k,(LP.getD k 0).natAbs<=2^c:=fun k=>by
  obtain⟨z,z1,z2⟩:=m3 k;have e:((LP.getD k 0:Int):Rat)=(z:Rat):=by rw[<- aDr,<- eP,jT,z1]
  rw[Rat.intCast_inj.1 e];exact z2
 have hLPl:LP.length=P.length:=by
  have:=congrArg List.length eP;rw[s1] at this;rw[this];simp[sB]
 have hP0':LP≠[]:=fun e=>by
  rw[e,List.length_nil] at hLPl;exact hP0 (List.eq_nil_of_length_eq_zero hLPl.symm)
 have hPl:LP.getD (LP.length-1) 0≠0:=fun e=>by
  have h1:aH (aT P (m:Rat))=0:=by
   unfold aH;rw[s1,eP,aDr,<- hLPl,e];rfl
  rw[s2] at h1;exact(Rat.mul_eq_zero.1 h1).elim (fE tP hP0) hm0
 have hLGl:LG.length=r.length:=by rw[eG]; simp[sB]
 have hval:∀ j:Nat,j<n->(eM LG ((2^(c+1):Nat)+(j:Int))).natAbs<=2^(c+n*(c+3)):=fun j hj=>by
  have hlo:1<=(eM LP ((2^(c+1):Nat)+(j:Int))).natAbs:=aLe (c:=c) (by
   have e:(2:Int)^c=((2^c:Nat):Int):=by simp
   rw[e,Nat.pow_succ];have:=Nat.one_le_two_pow (n:=c);omega) LP hPb hP0' hPl
  have hhi:=aJq (c:=c) (s:=c+2) (x:=(2^(c+1):Nat)+(j:Int)) (by
   rw[Nat.pow_succ 2 (c+1),Nat.pow_succ];omega) LP hPb
  rw[hmul,Int.natAbs_mul] at hlo hhi;have h0:0<(eM LH ((2^(c+1):Nat)+(j:Int))).natAbs:=Nat.pos_of_ne_zero fun e=>by rw[e,Nat.mul_zero] at hlo; omega
  refine Nat.le_trans (Nat.le_trans (Nat.le_mul_of_pos_right _ h0) hhi) (eZ ?_);exact Nat.add_le_add_left (Nat.mul_le_mul_right (c+3) (show LP.length<=n by omega)) c
 have hcoef:=aMj n LG ((2^(c+1):Nat):Int) (c+n*(c+3)) (c+2) (by omega) hval (by
  rw[Int.natAbs_natCast,Nat.pow_succ 2 (c+1),Nat.pow_succ];omega)
 have hr0:r≠[]:=fun e=>by
  rw[e] at r2;exact hG0 (List.eq_nil_of_length_eq_zero r2.symm)
 have hCr:Cm 1 r (rZ c n):=fun k=>⟨LG.getD k 0,by rw[lI,eG,aDr],hcoef k⟩
 have hmr:=(mY hCr).monic (fE r1 hr0);obtain⟨x1,x2,x3,b,b1,b2⟩:=qU r1 hr0;obtain⟨y1,y2,y3,b',b3,b4⟩:=qU tG hG0;have hab:∃ e:Rat,∀ x,ev (bA G) x=e*ev (bA r) x:=by
  have hbi:=Rat.inv_mul_cancel b b1;exact⟨b'*a⁻¹*b⁻¹,fun x=>by rw[b2,b4,r4]; grind⟩
 obtain⟨e,he⟩:=hab;have hco:=wG (p:=bA G) (q:=aT (bA r) e) fun x=>by rw[cP,he,Rat.mul_comm]
 have he1:e=1:=by
  have h1:=hco (G.length-1);rw[jT] at h1;have h2:aH (bA G)=(bA G).getD (G.length-1) 0:=by unfold aH; rw[y2]
  have h3:aH (bA r)=(bA r).getD (G.length-1) 0:=by unfold aH; rw[x2,r2]
  rw[<- h2,<- h3,x3,y3] at h1;grind
 refine hmr.ext fun k=>?_;rw[hco,jT,he1,Rat.mul_one]
/-! Exact division,quotients without a common divisor,polynomials without double zeros. -/
theorem aP5 {u g U R:List Rat} (tg:aI g=g) (tR:aI R=R) (hd:Dv g u) (h:∀ x,ev u x=ev U x*ev g x+ev R x) (hl:R.length<g.length):R=[]:=by
 obtain⟨w,hw⟩:=hd;by_cases h0:R=[]
 ·exact h0
 ·have:=(rV tg tR h0 ⟨kX w U,fun x=>by rw[qH]; have h1:=h x; have h2:=hw x; grind⟩).2.1;omega
/-! No double zeros. -/
def eR (a:Rat):Rat:=if a<0 then -a else a
theorem aKe {a:Rat} (h:a≠0):0<eR a:=by unfold eR; split<;>grind
theorem aLy (a:Rat):eR a=a\/eR a = -a:=by
 unfold eR;split
 ·exact .inr rfl
 ·exact .inl rfl
theorem aKf {a:Rat} {m g:Int} (h:a*(m:Rat)=(g:Rat)):∃ y:Int,eR a*(m:Rat)=(y:Rat)/\y.natAbs=g.natAbs:=by
 rcases aLy a with e | e
 ·exact⟨g,by rw[e,h],rfl⟩
 ·exact⟨-g,by rw[e,Rat.neg_mul,h,Rat.intCast_neg],Int.natAbs_neg g⟩
theorem aIv (a:Rat):(0:Rat)<wR (a.den:Int):=by
 rw[mW,Rat.intCast_natCast];exact Rat.natCast_pos.2 (Nat.pos_of_ne_zero a.den_nz)
theorem aHx {B:Nat}:∀ {l:List Rat} {e D:Rat},gJ B l e=some D->0<e->0<D
 | [],e,D,h,he=>by
  rw[gJ] at h;obtain rfl:=Option.some.inj h;exact he
 | a::l,e,D,h,he=>by
  rw[gJ] at h;split at h
  ·refine aHx h ?_;rw[Rat.div_def];exact Rat.mul_pos he (Rat.inv_pos.2 (aIv _))
  ·cases h
def gV (B:Nat) (p:List Rat) (t:Rat):Option (List Rat × Rat) :=
 if p=[] then some ([],0) else (gJ B p (eR (aH p))).bind fun D=>if (aG [1/D] B&&(aG (aT p (1/D)) B&&aG [t*D] B))=true then some (aT p (1/D),t*D) else none
theorem aD6 {a b:Rat} {c d:Nat} (ha:eD a c) (hb:eD b d):eD (a*b) (c+d):=by
 obtain⟨z,m,h1,h2,h3,h4⟩:=ha;obtain⟨y,n,k1,k2,k3,k4⟩:=hb;refine⟨z*y,m*n,Int.mul_ne_zero h1 k1,?_,gT h3 k3,gT h4 k4⟩;rw[Rat.intCast_mul,Rat.intCast_mul,<- h2,<- k2];grind
theorem aD7 {a:Rat} {c:Nat} (h0:a≠0) (ha:eD a c):eD a⁻¹ c:=by
 obtain⟨z,m,h1,h2,h3,h4⟩:=ha;have hi:=Rat.mul_inv_cancel a h0;have hz:z≠0:=by
  rintro rfl;have:=oY h1;have h2:a*(m:Rat)=0:=h2;rcases Rat.mul_eq_zero.1 h2 with e | e
  ·exact h0 e
  ·exact this e
 exact⟨m,z,hz,by rw[<- h2]; grind,h4,h3⟩
theorem yZ {a:Rat} {c d:Nat} (h:eD a c) (hd:c<=d):eD a d:=by
 obtain⟨z,m,h1,h2,h3,h4⟩:=h;exact⟨z,m,h1,h2,Nat.le_trans h3 (eZ hd),Nat.le_trans h4 (eZ hd)⟩
theorem aV7 {a:Rat} {c:Nat} (h:eD a c):eD (-a) c:=by
 obtain⟨z,m,h1,h2,h3,h4⟩:=h;exact⟨-z,m,h1,by rw[Rat.neg_mul,h2,Rat.intCast_neg],by rw[Int.natAbs_neg]; exact h3,h4⟩
theorem aLi {a:Rat} {z:Int} {c:Nat} (h:a=(z:Rat)) (hz:z.natAbs<=2^c):eD a c:=⟨z,1,by decide,by rw[lI,h],hz,Nat.one_le_two_pow⟩
theorem aGv {B:Nat} {δ:Rat}:∀ {l:List Rat} {e D:Rat},gJ B l e=some D->e≠0->(∀ a∈l,∃ y:Int,a = δ*(y:Rat))->(∃ y:Int,e = δ*(y:Rat))->∃ y:Int,D = δ*(y:Rat)
 | [],e,D,h,_,_,he=>by
  rw[gJ] at h;obtain rfl:=Option.some.inj h;exact he
 | a::l,e,D,h,e0,hl,⟨g,hg⟩=>by
  rw[gJ] at h;split at h
  ·obtain⟨z,hz⟩:=hl a List.mem_cons_self;have hi:=Rat.mul_inv_cancel e e0;have hδ : δ≠0:=by
    rintro rfl;rw[Rat.zero_mul] at hg;exact e0 hg
   have hg0:g≠0:=by
    rintro rfl;exact e0 (by rw[hg]; exact Rat.mul_zero δ)
   have hdi:=Rat.mul_inv_cancel δ hδ;have r1:a/e*(g:Rat)=(z:Rat):=by
    have h1:a/e*e=a:=by rw[Rat.div_def,Rat.mul_assoc,Rat.inv_mul_cancel _ e0,Rat.mul_one]
    generalize a/e=r at h1 |-;have h2 : δ*(r*(g:Rat)) = δ*(z:Rat):=by
     rw[<- hz,<- h1,hg];grind
    have h3:=congrArg (fun q => δ⁻¹*q) h2;simp only[<- Rat.mul_assoc,Rat.inv_mul_cancel _ hδ,Rat.one_mul] at h3;exact h3
   obtain⟨_,⟨g1,f2⟩,_⟩:=aB6 hg0 r1;obtain⟨g2,hg2⟩:∃ g2:Int,g=((a/e).den:Int)*g2:=by
    rcases Int.natAbs_eq g with h | h
    ·exact⟨g1,by rw[h,f2,Int.natCast_mul]⟩
    ·exact⟨-g1,by rw[h,f2,Int.natCast_mul,Int.mul_neg]⟩
   have hdp:=aIv (a/e);have hd0:wR ((a/e).den:Int)≠0:=by grind
   have he2:e/wR ((a/e).den:Int) = δ*(g2:Rat):=by
    have hgw:(g:Rat)=wR ((a/e).den:Int)*(g2:Rat):=by rw[mW,<- Rat.intCast_mul,<- hg2]
    have h5:=Rat.mul_inv_cancel _ hd0;rw[Rat.div_def];generalize wR ((a/e).den:Int)=w at *;have h4:e = δ*(g2:Rat)*w:=by
     rw[hg,hgw];grind
    have h6:e*w⁻¹ = δ*(g2:Rat)*(w*w⁻¹):=by rw[<- Rat.mul_assoc,<- h4]
    rw[h6,h5,Rat.mul_one]
   refine aGv h ?_ (fun b hb=>hl b (List.mem_cons_of_mem _ hb)) ⟨g2,he2⟩;rw[Rat.div_def];intro q;exact(Rat.mul_eq_zero.1 q).elim e0 (by have:=Rat.inv_pos.2 hdp; grind)
  ·cases h
theorem aCx {B:Nat} {p:List Rat} {t κ:Rat} {b c e:Nat} (hB:1<=B) (hp:aI p=p) (h0:p≠[]) (hc:Cb p c) (ht:eD t e) (hE:e+c<=29*B) (hb:b<=29*B) (hκ : κ≠0) (hi:∀ k,∃ z:Int,p.getD k 0 = κ*(z:Rat)/\z.natAbs<=2^b) :
  ∃ R T,gV B p t=some (R,T)/\aI R=R/\R.length=p.length/\Cm 1 R b/\eD T (e+c)/\(0<t->0<T)/\∃ a:Rat,0<a/\(∀ x,ev R x=a*ev p x)/\T*a=t:=by
 obtain⟨m,m1,m2,m3⟩:=hc;obtain⟨g,g1,g2⟩:=m3 (p.length-1);have hl:=fE hp h0;have g1':aH p*(m:Rat)=(g:Rat):=g1;obtain⟨y,y1,y2⟩:=aKf g1';have hg:g≠0:=wM g1' m1 hl;have hy:y≠0:=by omega
 have hmem:∀ a∈p,∃ k,a=p.getD k 0:=fun a ha=>by
  obtain⟨i,hi,rfl⟩:=List.getElem_of_mem ha;exact⟨i,by rw[List.getD_eq_getElem?_getD,List.getElem?_eq_getElem hi]; rfl⟩
 obtain⟨D,h,k1,k2,k3,k4,_,k6⟩:=aCj (c:=c) hB (by omega) m1 m2 p (eR (aH p)) y (fun a ha=>by
  obtain⟨k,rfl⟩:=hmem a ha;exact m3 k) y1 hy (by omega)
 have habs:=aKe hl;have hDp:0<D:=aHx k1 habs;have hD:D≠0:=by grind
 have hDi:=Rat.mul_inv_cancel D hD;have h1D:(1:Rat)/D=D⁻¹:=by rw[Rat.div_def,Rat.one_mul]
 have hD1p:0<(1:Rat)/D:=by rw[h1D]; exact Rat.inv_pos.2 hDp
 have hD1:(1:Rat)/D≠0:=by grind
 obtain⟨v,hv⟩:∃ v:Int,D = κ*(v:Rat):=aGv k1 (by grind) (fun a ha=>by
   obtain⟨k,rfl⟩:=hmem a ha;obtain⟨z,z1,_⟩:=hi k;exact⟨z,z1⟩) (by
   obtain⟨z,z1,_⟩:=hi (p.length-1);have z1:aH p = κ*(z:Rat):=z1;rcases aLy (aH p) with q | q
   ·exact⟨z,by rw[q,z1]⟩
   ·exact⟨-z,by rw[q,z1,Rat.intCast_neg]; grind⟩)
 have hv0:v≠0:=by
  rintro rfl;exact hD (by rw[hv]; exact Rat.mul_zero κ)
 have hCR:Cm 1 (aT p (1/D)) b:=fun k=>by
  rw[jT,lI,h1D];rcases Nat.lt_or_ge k p.length with hk | hk
  ·obtain⟨y,y1⟩:=k6 (p.getD k 0) (by rw[List.getD_eq_getElem?_getD,List.getElem?_eq_getElem hk]; exact List.getElem_mem hk);obtain⟨z,z1,z2⟩:=hi k;refine⟨y,by rw[y1]; grind,?_⟩;have e:((v*y:Int):Rat)=(z:Rat):=by
    have q1 : κ*((v:Rat)*(y:Rat)) = κ*(z:Rat):=by rw[<- z1,y1,hv]; grind
    have q2:=congrArg (fun q => κ⁻¹*q) q1;simp only[<- Rat.mul_assoc,Rat.inv_mul_cancel _ hκ,Rat.one_mul] at q2;rw[Rat.intCast_mul];exact q2
   have e:=congrArg Int.natAbs (Rat.intCast_inj.1 e);rw[Int.natAbs_mul] at e;have:=Nat.le_mul_of_pos_left y.natAbs (show 0<v.natAbs by omega);omega
  ·rw[dC hk];exact⟨0,by rw[Rat.zero_mul]; rfl,Nat.zero_le _⟩
 have fD:eD D c:=⟨h,m,m1,k2,k4,m2⟩
 have fT:=aD6 ht fD;have s1:aG [1/D] B=true:=by rw[h1D]; exact nU hB (by omega) (aD7 hD fD)
 have s2:=(mY hCR).sz hB hb;have s3:aG [t*D] B=true:=nU hB hE fT;refine⟨aT p (1/D),t*D,?_,cN _,(lE hp hD1).1,hCR,fT,fun q=>Rat.mul_pos q hDp,1/D,hD1p,fun x=>by rw[cP,Rat.mul_comm],by rw[h1D]; grind⟩;unfold gV;rw[if_neg h0,k1];show (if _ then some _ else none)=_;rw[s1,s2,s3];rfl
def mK (B:Nat) (a:Rat):Nat->Rat->Option Rat
 | 0,f=>some f
 | n+1,f=>if aG [f*a] B=true then mK B a n (f*a) else none
theorem aI8 {B:Nat} {a:Rat} {z:Int} {d:Nat} (hB:1<=B) (ha:a=(z:Rat)) (hz:z.natAbs<=2^d) (ha0:0<a) :
  ∀ (n:Nat) (f:Rat) (y:Int) (e:Nat),f=(y:Rat)->y.natAbs<=2^e->0<f->e+n*d<=29*B->∃ F,mK B a n f=some F/\0<F/\∃ v:Int,F=(v:Rat)/\v.natAbs<=2^(e+n*d)
 | 0,f,y,e,h1,h2,h3,_=>⟨f,rfl,h3,y,h1,by rw[Nat.zero_mul]; exact h2⟩
 | n+1,f,y,e,h1,h2,h3,hE=>by
  rw[Nat.succ_mul] at hE |-;have e1:f*a=((y*z:Int):Rat):=by rw[h1,ha,Rat.intCast_mul]
  have e2:=gT h2 hz;have s:aG [f*a] B=true:=nU hB (by omega) (aLi e1 e2);obtain⟨F,k1,k2,v,k3,k4⟩:=aI8 hB ha hz ha0 n (f*a) (y*z) (e+d) e1 e2 (Rat.mul_pos h3 ha0) (by omega);exact⟨F,by rw[mK,if_pos s,k1],k2,v,k3,Nat.le_trans k4 (eZ (by omega))⟩
def oD (B:Nat) (a b:List Rat × Rat):Option (List Rat × Rat) :=
 (mK B (eR (aH b.1)) (a.1.length+1-b.1.length) 1).bind fun f=>if (aG [-f] B&&(aG (aT a.1 (-f)) B&&aG [a.2/f] B))=true then (dV B (aT a.1 (-f)) b.1).bind fun x=>gV B x.2 (a.2/f) else none
def uN (g c d:Nat):Nat:=c+g*d+g*(d+1)
theorem aHo {z q:List Rat} (hz:aI z=z) (hq:aI q=q) (hl:z.length<q.length) (h:Dv q z):z=[]:=by
 by_cases h0:z=[]
 ·exact h0
 ·have:=(rV hq hz h0 h).2.1;omega
theorem aUq {B:Nat} {p q:List Rat} {s t:Rat} {c d e:Nat} (hB:1<=B) (hp:aI p=p) (h0:p≠[]) (hq:aI q=q) (hq0:q≠[]) (hpc:Cm 1 p c) (hqd:Cm 1 q d) (hs:eD s e) (hs0:0<s) (hE:uN (p.length+1-q.length) c d+d<=29*B) (hF:e+(p.length+1-q.length)*d+uN (p.length+1-q.length) c d<=29*B) :
  ∃ R T,oD B (p,s) (q,t)=some (R,T)/\aI R=R/\R.length<q.length/\Cm 1 R (c+(p.length+1-q.length)*(d+1))/\eD T (e+(p.length+1-q.length)*d+uN (p.length+1-q.length) c d)/\(R≠[]->0<T) /\
   ∃ W:List Rat,∀ x,s*ev p x+T*ev R x=ev W x*ev q x:=by
 unfold uN at *;obtain⟨g,hg⟩:∃ g,p.length+1-q.length=g:=⟨_,rfl⟩
 rw[hg] at hE hF;have hlq:=fE hq hq0;have hlen:=List.length_pos_iff.2 hq0;obtain⟨n,n1,n2⟩:=hqd (q.length-1);have n1':aH q*((1:Int):Rat)=(n:Rat):=n1;obtain⟨y,y1,y2⟩:=aKf n1';rw[lI] at y1;have hgd:g*(d+1)=g*d+g:=by rw[Nat.mul_add,Nat.mul_one]
 obtain⟨f,f1,f2,v,f3,f4⟩:=aI8 hB y1 (by rw[y2]; exact n2) (aKe hlq) g 1 1 0 rfl (by decide) (by decide) (by omega);rw[Nat.zero_add] at f4;have hf0:f≠0:=by grind
 have ff:=aLi f3 f4;have fn:=aV7 ff;have hc:Cb (aT p (-f)) (c+g*d):=(mY hpc).scale fn;have hnf : -f≠0:=by grind
 obtain⟨l1,l2⟩:=lE hp hnf;have hdE:jO (aT p (-f)) q (c+g*d) d<=29*B:=by
  unfold jO;rw[l1,hg];omega
 obtain⟨U,R0,k1,k2,k3,k4,k5,k6,k7,k8⟩:=vN (p:=aT p (-f)) hB (cN _) hq hq0 hc (mY hqd) hdE;have k8':Cb R0 (c+g*d+g*(d+1)):=by
  unfold jO at k8;rw[l1,hg] at k8;exact k8.mono (by omega)
 have fs:eD (s/f) (e+g*d):=by rw[Rat.div_def]; exact aD6 hs (aD7 hf0 ff)
 have s1:aG [-f] B=true:=nU hB (by omega) fn;have s2:aG (aT p (-f)) B=true:=hc.sz hB (by omega);have s3:aG [s/f] B=true:=nU hB (by omega) fs;have hsf:s/f*f=s:=by rw[Rat.div_def,Rat.mul_assoc,Rat.inv_mul_cancel _ hf0,Rat.mul_one]
 have hsf0:0<s/f:=by rw[Rat.div_def]; exact Rat.mul_pos hs0 (Rat.inv_pos.2 f2)
 have hev:∀ x,-(f*ev p x)=ev U x*ev q x+ev R0 x:=fun x=>by
  have:=k6 x;rw[cP] at this;rw[<- this];grind
 obtain⟨R1,r1,r2,r3,r4,r5,a,u,r6,r7⟩:=aC7 hB hlen hlq hqd (p.length+2) p c (by omega) hp hpc (by rw[hg]; omega);have hz:kL (aT R0 a) (aT R1 f)=[]:=by
  refine aHo (cN _) hq ?_ ⟨kX (aT u f) (aT U a),fun x=>?_⟩
  ·have h1:=aKd (aT R0 a) (aT R1 f);have h2:=mN R0 a;have h3:=mN R1 f;omega
  ·have h1:=hev x;have h2:=r7 x;rw[qI,qH,cP,cP,cP,cP];grind
 have hai:=Rat.inv_mul_cancel a r6;have hcoef:∀ k,R0.getD k 0 = -f*a⁻¹*R1.getD k 0:=fun k=>by
  have h1:=aWj (aT R0 a) (aT R1 f) k;rw[hz,jT,jT,dC (Nat.zero_le _)] at h1;grind
 have hκ : -f*a⁻¹≠0:=fun q=>by
  rcases Rat.mul_eq_zero.1 q with h | h
  ·exact hnf h
  ·rw[h] at hai;grind
 have goal:∀ R T,gV B R0 (s/f)=some (R,T)->oD B (p,s) (q,t)=some (R,T):=fun R T h=>by
  unfold oD;show (mK B (eR (aH q)) (p.length+1-q.length) 1).bind _=_;rw[hg,f1];show (if (aG [-f] B&&(aG (aT p (-f)) B&&aG [s/f] B))=true then (dV B (aT p (-f)) q).bind (fun x=>gV B x.2 (s/f)) else none)=_;rw[s1,s2,s3,if_pos (by rfl),k1];exact h
 rw[hg] at r5 |-;by_cases hR:R0=[]
 ·subst hR;refine⟨[],0,goal _ _ (by unfold gV; rw[if_pos rfl]),rfl,hlen,fun k=>⟨0,by rw[dC (Nat.zero_le _),Rat.zero_mul]; rfl,Nat.zero_le _⟩,⟨0,1,by decide,by rw[Rat.zero_mul]; rfl,Nat.zero_le _,Nat.one_le_two_pow⟩,fun h=>absurd rfl h,aT U (-(s/f)),fun x=>?_⟩;have:=hev x;rw[ev] at this |-;rw[cP];grind
 ·obtain⟨R,T,w1,w2,w3,w4,w5,w6,b,b0,b1,b2⟩:=aCx (κ := -f*a⁻¹) (b:=c+g*(d+1)) hB k3 hR k8' fs (by omega) (by omega) hκ (fun k=>by
   obtain⟨z,z1,z2⟩:=r5 k;rw[lI] at z1;exact⟨z,by rw[hcoef,z1],z2⟩)
  refine⟨R,T,goal _ _ w1,w2,by omega,w4,w5,fun _=>w6 hsf0,aT U (-(s/f)),fun x=>?_⟩;have:=hev x;have e1:T*ev R x=s/f*ev R0 x:=by rw[b1,<- b2]; grind
  rw[cP,e1];grind
end Vc
end Go.Proofs.YtjmbkipbmbnhjaaGreat

namespace Go.Proofs.YtjmbkipbmbnhjaaGreat
open Go.RowKit
open Go.Lib (hid)
open Dg Zn
namespace Vc
set_option maxRecDepth 100000
theorem zU {a:Rat}:bB a.num 0<0 ↔ a<0:=by
 have h1:=Rat.num_nonneg (q:=a);have h2:=Rat.not_lt (a:=a) (b:=0);have h3:a<0 ↔ ¬ 0<=a.num:=by
  rw[h1,<- h2,Decidable.not_not]
 rw[h3,bB];split
 ·exact⟨fun _=>by omega,fun _=>by decide⟩
 ·split
  ·exact⟨fun h=>absurd h (by decide),fun h=>by omega⟩
  ·exact⟨fun h=>absurd h (by decide),fun h=>by omega⟩
theorem rW {a b:Rat} {K:Nat} (h:a=b):∀ L ρ w v,(AV.one (RT a K)).is L ρ w v->(AV.one (RT b K)).is L ρ w v:=by subst h; exact fun _ _ _ _ h=>h
def elG (p:List Rat) (K:Nat) (t:Rat) (J:Nat):qQ where
 is:=fun w v=>∃ (s:Value) (c:List Value),v=.agg (s::c).toArray/\(bO (some 4) (aW p K)).is w s/\Dm.at (.rt t.num (qd t) J) w (.agg c.toArray)
 shape:=some 5
 plain:=true
 ok:=fun w v ⟨s,c,h,hs,hc⟩=>by
  subst h;obtain⟨ao,cap,rfl,_⟩:=hs;obtain⟨a,n,c',a',n',c'',rfl,_⟩:=iA hc;exact⟨_,rfl,rfl,by simp[Value.oneCell']⟩
 pl:=fun _ w v ⟨s,c,h,hs,hc⟩=>by
  subst h;obtain⟨ao,cap,rfl,_⟩:=hs;obtain⟨a,n,c',a',n',c'',rfl,_⟩:=iA hc;simp[Value.cells,cV]
abbrev EL (p:List Rat) (K:Nat) (t:Rat) (J:Nat):SA Dm:=.d (Dm.gen (elG p K t J))
theorem qD {p:List Rat} {K:Nat} {t:Rat} {J:Nat}:lT (Dm.gen (elG p K t J)) 0 none (PL p K):=by
 rintro w cs ⟨s,c,h,hs,hc⟩;obtain rfl:cs=s::c:=by simpa using congrArg Array.toList (Value.agg.inj h)
 have h1:s.oneCell'=true:=by obtain⟨ao,cap,rfl,_⟩:=hs; rfl
 exact⟨[],[s],c,s,rfl,rfl,⟨rfl,h1⟩,hs⟩
theorem aMt {p:List Rat} {K:Nat} {t:Rat} {J:Nat}:lT (Dm.gen (elG p K t J)) 1 (some 4) (RT t J):=by
 rintro w cs ⟨s,c,h,hs,hc⟩;obtain rfl:cs=s::c:=by simpa using congrArg Array.toList (Value.agg.inj h)
 obtain⟨a,n,c',a',n',c'',e,_⟩:=iA hc;refine⟨[s],c,[],.agg c.toArray,by simp,rfl,⟨rfl,?_,?_⟩,hc⟩
 ·rw[e]; rfl
 ·rw[e]; simp[Value.oneCell']
theorem qG:iC Tryz.prog 72 0 0:=iC.of (sz:=0) (by kernel_rfl)
theorem aMu:iC Tryz.prog 72 1 1:=iC.of (sz:=3) (by kernel_rfl)
theorem rI:(Tryz.prog.info? 72).map (·.zero)=some (some (.agg #[.slice none 0 0,.bool false,.slice none 0 0,.bool false,.slice none 0 0])):=by kernel_rfl
theorem iU:dI Tryz.prog 72 (some 5):=dI.row (by kernel_rfl) (by kernel_rfl)
theorem pC:Tryz.prog.underlying 69=some (.slice 72):=by kernel_rfl
theorem aFa:(Tryz.prog.info? 72).map (·.size)=some 5:=by kernel_rfl
theorem aJ9 (parts:List (Nat × Value)):Tryz.prog.built 72 parts=Instr.fill ((#[(0,1),(1,4)]:Array (Nat × Nat))[·]?) #[.slice none 0 0,.bool false,.slice none 0 0,.bool false,.slice none 0 0] parts:=by kernel_rfl
theorem aWc (w:World):Dm.at (.rt (0:Rat).num (qd 0) 0) w (.agg [Value.bool false,.slice none 0 0,.bool false,.slice none 0 0].toArray) :=
 ⟨_,_,rfl,aL.nil (by decide),aL.nil (by decide),by decide,by decide⟩
section
variable {cx:Cx Dm} {n:Nat} {σ:St Dm} {o:Oper} {d:Nat}
theorem aPw (ho:o.op=.build 72 #[]) (hd:o.dst=some d) (hn:d<n):aM Tryz.prog cx n σ o [] [(.s d,.av (.one (EL [] 0 0 0)))]:=by
 refine eX hd hn rfl fun σ' ρ a w h hk=>⟨.agg #[.slice none 0 0,.bool false,.slice none 0 0,.bool false,.slice none 0 0],?_,?_⟩
 ·have hb2:=run_build w 72 #[] _ (show Tryz.prog.built 72 (#[]:Array (Nat × Value)).toList=some #[.slice none 0 0,.bool false,.slice none 0 0,.bool false,.slice none 0 0] by rw[aJ9]; kernel_rfl);simp only[execOp,ho,Sem.run_bind];rw[show (#[]:Array (Nat × Operand)).map (fun p=>(p.1,a.eval p.2))=#[] by simp,hb2];rfl
 ·intro w' _;exact⟨.slice none 0 0,[.bool false,.slice none 0 0,.bool false,.slice none 0 0],rfl,⟨none,0,rfl,⟨Nat.le_refl _,by decide⟩,fun h=>absurd h (Nat.lt_irrefl _)⟩,aWc w'⟩
theorem aPv {x y:Operand} {p:List Rat} {K J:Nat} {t:Rat} (ho:o.op=.build 72 #[(0,x),(1,y)]) (hd:o.dst=some d) (hn:d<n) (hx:opd σ x=.av (.one (PL p K))) (hy:opd σ y=.av (.one (RT t J))):aM Tryz.prog cx n σ o (bG x++bG y) [(.s d,.av (.one (EL p K t J)))]:=by
 refine eX hd hn rfl fun σ' ρ a w h hk=>?_;have h1:=h.opd ((cO fun q hq=>hk q (by simp[hq])).trans hx);have h2:=h.opd ((cO fun q hq=>hk q (by simp[hq])).trans hy);obtain⟨ao,cap,hv,_⟩:=tM (ρ:=ρ) (by decide) h1;obtain⟨cs,hv'⟩:∃ cs:List Value,a.eval y=.agg cs.toArray:=by
  obtain⟨s,t',e,_⟩:=h2 w (Agree.refl _ _);exact⟨_,e⟩
 have h2':∀ w',Agree (aS cx σ' ρ) w w'->Dm.at (.rt t.num (qd t) J) w' (.agg cs.toArray):=fun w' hag=>by rw[<- hv']; exact h2 w' hag
 obtain⟨b,m,c,b',m',c',rfl,_⟩:=iA (h2' w (Agree.refl _ _));refine⟨.agg #[.slice ao (aW p K).length cap,.bool (decide (t.num<0)),.slice b m c,.bool (decide (qd t<0)),.slice b' m' c'],?_,?_⟩
 ·have hb:Tryz.prog.built 72 #[(0,a.eval x),(1,a.eval y)].toList=some #[.slice ao (aW p K).length cap,.bool (decide (t.num<0)),.slice b m c,.bool (decide (qd t<0)),.slice b' m' c']:=by
   rw[hv,hv',aJ9]
   kernel_rfl
  have hb2:=run_build w 72 #[(0,a.eval x),(1,a.eval y)] _ hb;simp only[execOp,ho,Sem.run_bind];rw[show (#[(0,x),(1,y)]:Array (Nat × Operand)).map (fun p=>(p.1,a.eval p.2))=#[(0,a.eval x),(1,a.eval y)] by simp,hb2];rfl
 ·intro w' hag;refine⟨_,_,rfl,?_,h2' w' hag⟩;have:=h1 w' hag;rw[hv] at this;exact this
end
theorem aBk (a:Rat) (K:Nat):aD Tryz.prog 52 [RT a K] (.one (RT (eR a) K)):=by
 refine aD.of (n:=9) Tryz.func52 rfl rfl rfl rfl rfl fun cx hfr=>?_;refine sr rfl ?_;refine p2 (bZ (i:=0)) ?_;refine p2 (aU (i:=1) bY) ?_;refine RV.done ?_;refine CV.seq ?_;refine sr rfl ?_;refine p1 (aJ aC) ?_;refine xc (yN _ _) Tryz.func98 (xa rfl) hfr ?_;refine p1 (cM) ?_;refine RV.done ?_;refine CV.cond rfl (fun hc=>?_) (fun hc=>?_)
 ·refine sr rfl ?_;refine p1 (aJ aC) ?_;refine xc (vX _ _) Tryz.func100 (xa rfl) hfr ?_;refine p1 (aP (aC).2) ?_;refine RV.done ?_;refine CV.ret ?_;have h0:a<0:=(by have:=of_decide_eq_true hc; exact zU.1 this)
  exact aQ rfl (.inr rfl) ⟨_,_,_,_,_,rfl,rfl,rfl,aC⟩ (kF (by rw[eR,if_pos h0]))
 ·refine CV.skip ?_;refine sr rfl ?_;refine p1 (aJ aC) ?_;refine p1 (aP (aC).2) ?_;refine RV.done ?_;refine CV.ret ?_;have h0:¬ a<0:=(by have:=of_decide_eq_false hc; exact fun q=>this (zU.2 q))
  exact aQ rfl (.inr rfl) ⟨_,_,_,_,_,rfl,rfl,rfl,aC⟩ (kF (by rw[eR,if_neg h0]))
theorem aCe (l:List Rat) (K:Nat) (hl:l.length<=1000000) (h0:l≠[]):aD Tryz.prog 54 [PL l K] (.one (RT (aH l) K)):=by
 have hlp:=List.length_pos_iff.2 h0;refine aD.of (n:=8) Tryz.func54 rfl rfl rfl rfl rfl fun cx hfr=>?_;refine sr rfl ?_;refine p2 (aU (i:=0) bY) ?_;refine RV.done (sr rfl ?_);refine xm ?_;refine xm ?_;refine xc (pP _ _ hl) Tryz.func51 (xa rfl) hfr ?_;refine p1 (cH (k:=some 4) (i:=l.length-1) (dZ (by omega)) bC cF rfl rfl bd rfl (by rw[show ((l.length-1:Nat):Int)=(l.length:Int)-1 by omega]; rfl) (by decide)) ?_;refine p1 (bL aC) ?_;refine p1 (aP (aC).2) ?_;refine RV.done ?_;refine CV.ret ?_;exact aQ rfl (.inr rfl) ⟨_,_,_,_,_,rfl,rfl,rfl,aC⟩ cE
section
variable (p:List Rat) (t D:Rat) (B:Nat) (hB:B<=300000) (hp:p.length<=1000000) (h0:p≠[]) (h:gJ B p (eR (aH p))=some D) (h1:aG [1/D] B=true) (h2:aG (aT p (1/D)) B=true) (h3:aG [t*D] B=true)
include hB hp h0 h h1 h2 h3
theorem aOo:aD Tryz.prog 95 [PL p B,RT t B] (.one (EL (aT p (1/D)) B (t*D) B)):=by
 have hlp:=List.length_pos_iff.2 h0;have e11:Rat.divInt 1 1=1:=by decide
 refine aD.of (n:=40) Tryz.func95 rfl rfl rfl rfl rfl fun cx hfr=>?_;refine sr rfl ?_;refine p2 (bZ (i:=0)) ?_;refine p2 (aU (i:=1) rI) ?_;refine RV.done ?_;refine CV.seq ?_;refine sr rfl ?_;refine xm ?_;refine p1 (bH aV bC) ?_;refine p1 (cQ) ?_;refine RV.done ?_;refine CV.cond rfl (fun hc=>False.elim (by have:=of_decide_eq_true hc; omega)) (fun hc=>?_);refine CV.skip ?_;refine sr rfl ?_;refine xm ?_;refine xc (aCe p B hp h0) Tryz.func54 (xa rfl) hfr ?_;refine xc (aBk _ _) Tryz.func52 (xa rfl) hfr ?_;refine p2 (aU (i:=2) bY) ?_;refine p1 (aP (aC).2) ?_;refine RV.done ?_;refine CV.seq ?_;refine sr rfl ?_;refine xm ?_;refine p1 (bH aV bC) ?_;refine xm ?_;refine RV.done ?_;refine CV.block ?_;refine CV.loop (X:={s:Nat × Rat // s.1<=p.length/\gJ B (p.drop s.1) s.2=some D}) (fun s=>[(.s 18,.av (.one (.v (.int .i64 (s.1.1:Int))))),(.s 17,.av (.one (.v (.int .i64 (p.length:Int))))),(.s 16,.av (.one (PL p B))),(.s 0,.av (.one (PL p B))),(.s 5,.av (.one (.ptr 2 0))),(.b 2,.blk 31 [(some 4,RT s.1.2 B)]),(.s 3,.av (.one (.ptr 0 0))),(.b 0,.blk 31 [(some 4,RT t B)]),(.s 4,.av (.one (.ptr 1 0))),(.b 1,.blk 72 [(some 5,.v (.agg #[.slice none 0 0,.bool false,.slice none 0 0,.bool false,.slice none 0 0]))])]) (fun s=>p.length-s.1.1) ⟨(0,eR (aH p)),Nat.zero_le _,h⟩ (aZ.mk ⟨aB _,aB _,aB _,aB _,aB _,aB _,aB _,aB _,aB _,aB _,trivial⟩ rfl rfl) (fun s=>?_);obtain⟨⟨k,e⟩,hk,hs⟩:=s;simp only at hk hs |-;refine sr rfl ?_;refine p1 (cM) ?_;refine RV.done ?_;refine CV.seq ?_;refine CV.cond rfl (fun hc2=>?_) (fun hc2=>?_)
 ·have hlt:k<p.length:=(by have:=of_decide_eq_true hc2; omega)
  rw[aIg hlt] at hs;obtain⟨o1,o2,o3⟩:=aGu hs;refine CV.skip ?_;refine CV.seq ?_;refine CV.block ?_;refine sr rfl ?_;refine p1 (cH (k:=some 4) (i:=k) (dZ hlt) bC cF) ?_;refine p1 (bL aC) ?_;refine p2 (aU (i:=3) bY) ?_;refine p1 (aP (aC).2) ?_;refine RV.done (sr rfl ?_);refine p1 (aJ aC) ?_;refine p1 (aJ aC) ?_;refine xd rfl ((oQ (p.getD k 0) e B B (by omega) (by omega)).mono (fun _ _ _ _ h=>h) (dR o1)) Tryz.func53 (xb rfl rfl) hfr ?_;refine xc (iB _ _) Tryz.func102 (xa rfl) hfr ?_;refine p2 (aU (i:=4) cZ) ?_;refine p1 (aP (aK).2) ?_;refine RV.done ?_;refine CV.region rfl (fun h=>nomatch h) ?_;refine p1 (aJ aC) ?_;refine p1 (aJ aK) ?_;refine p1 (aB1 rfl rfl bd rfl) ?_;refine xd rfl ((oQ e (wR ((p.getD k 0/e).den:Int)) B (B+3) (by omega) (by omega)).mono (fun _ _ _ _ h=>h) (dR o2)) Tryz.func53 (xb rfl rfl) hfr ?_;refine p1 (aP (aC).2) ?_;refine RV.done ?_;refine CV.region rfl (fun h=>nomatch h) ?_;refine p1 (cC (c:=((k+1:Nat):Int)) (by rw[bF (by omega) (by omega)]; omega) rfl rfl bd rfl rfl) ?_;refine xm ?_;refine RV.done ?_;exact⟨⟨(k+1,e/wR ((p.getD k 0/e).den:Int)),hlt,o3⟩,aZ.mk ⟨aB _,aB _,aB _,aB _,aB _,aB _,aB _,aB _,aB _,aB _,trivial⟩ rfl rfl,by show p.length-(k+1)<p.length-k; omega⟩
 ·refine CV.exit ?_;refine CV.seq ?_;have hkp:k=p.length:=(by have:=of_decide_eq_false hc2; omega)
  rw[hkp,List.drop_length,gJ] at hs;obtain rfl:=Option.some.inj hs;refine CV.region rfl (fun _=>by kernel_rfl) ?_;refine xm ?_;refine xd rfl ((oZ 1 1 (by decide) (by decide) (by decide) (by decide)).mono (fun _ _ _ _ h=>h) (rW e11)) Tryz.func57 (xb rfl rfl) hfr ?_;refine p1 (aJ aC) ?_;refine xd rfl ((oQ 1 e 6 B (by omega) (by omega)).mono (fun _ _ _ _ h=>h) (dR h1)) Tryz.func53 (xb rfl rfl) hfr ?_;refine xd rfl ((sP p (1/e) B B (by omega) (by omega) hp).mono (fun _ _ _ _ h=>h) (dG h2)) Tryz.func38 (xb rfl rfl) hfr ?_;refine p1 (aJ aC) ?_;refine p1 (aJ aC) ?_;refine xd rfl ((nS t e B B (by omega) (by omega)).mono (fun _ _ _ _ h=>h) (dR h3)) Tryz.func87 (xb rfl rfl) hfr ?_;refine p1 (aPv rfl rfl bd rfl rfl) ?_;refine p1 (aP (iU).2) ?_;refine bQ (by kernel_rfl) ?_;refine CV.ret ?_;exact aQ rfl (.inr rfl) ⟨_,_,_,_,_,rfl,rfl,rfl,iU⟩ cE
end
theorem aXn (B:Nat):∀ L ρ w v,(EL [] 0 0 0).is L ρ w v->(AV.one (EL [] B 0 B)).is L ρ w v:=by
 intro L ρ w v h w' hag;obtain⟨s,c,h1,h2,h3⟩:=h w' hag;obtain⟨x,y,k1,k2,k3,k4,k5⟩:=h3;exact⟨s,c,h1,h2,x,y,k1,k2,k3,Nat.le_trans k4 (Nat.zero_le _),Nat.le_trans k5 (Nat.zero_le _)⟩
theorem aOp (t:Rat) (K B:Nat):aD Tryz.prog 95 [PL [] B,RT t K] (.one (EL [] B 0 B)):=by
 refine aD.of (n:=40) Tryz.func95 rfl rfl rfl rfl rfl fun cx hfr=>?_;refine sr rfl ?_;refine p2 (bZ (i:=0)) ?_;refine p2 (aU (i:=1) rI) ?_;refine RV.done ?_;refine CV.seq ?_;refine sr rfl ?_;refine xm ?_;refine p1 (bH (m:=0) rfl bC) ?_;refine p1 (cQ) ?_;refine RV.done ?_;refine CV.cond rfl (fun hc=>?_) (fun hc=>False.elim (by revert hc; decide));refine sr rfl ?_;refine p1 (aPw rfl rfl bd) ?_;refine p1 (aP (iU).2) ?_;refine RV.done ?_;refine CV.ret ?_;exact aQ rfl (.inr rfl) ⟨_,_,_,_,_,rfl,rfl,rfl,iU⟩ (aXn B)
theorem aBy (p:List Rat) (t:Rat) (B:Nat) (R:List Rat) (T:Rat) (hB:B<=300000) (hp:p.length<=1000000) (h:gV B p t=some (R,T)):aD Tryz.prog 95 [PL p B,RT t B] (.one (EL R B T B)):=by
 unfold gV at h;split at h
 ·rename_i h0;subst h0;injection h with h;obtain⟨rfl,rfl⟩:=Prod.mk.inj h;exact aOp t B B
 ·rename_i h0;obtain⟨D,h1,h⟩:=Option.bind_eq_some_iff.1 h;split at h
  ·rename_i h2;rw[Bool.and_eq_true,Bool.and_eq_true] at h2;injection h with h;obtain⟨rfl,rfl⟩:=Prod.mk.inj h;exact aOo p t D B hB hp h0 h1 h2.1 h2.2.1 h2.2.2
  ·cases h
theorem aRa {B n:Nat} {a f F:Rat} (h:mK B a (n+1) f=some F):aG [f*a] B=true/\mK B a n (f*a)=some F:=by
 rw[mK] at h;split at h
 ·rename_i h1;exact⟨h1,h⟩
 ·cases h
theorem aTh {B:Nat} {a f F:Rat} (h:mK B a 0 f=some F):f=F:=by
 rw[mK] at h;exact Option.some.inj h
section
variable (p q U R0 R:List Rat) (s t f T:Rat) (B:Nat) (hB:B<=300000) (hp:p.length<=1000000) (hq:q.length<=1000000) (hr:R0.length<=1000000) (hq0:q≠[]) (h0:aG [(1:Rat)] B=true) (hf:mK B (eR (aH q)) (p.length+1-q.length) 1=some f) (h1:aG [-f] B=true) (h2:aG (aT p (-f)) B=true) (h3:aG [s/f] B=true) (h4:dV B (aT p (-f)) q=some (U,R0)) (h5:gV B R0 (s/f)=some (R,T))
include hB hp hq hr hq0 h0 hf h1 h2 h3 h4 h5
theorem aQe:aD Tryz.prog 97 [EL p B s B,EL q B t B] (.one (EL R B T B)):=by
 have e11:Rat.divInt 1 1=1:=by decide
 have hsl:=mN p (-f);obtain⟨N,hN⟩:∃ N,N=p.length+1-q.length:=⟨_,rfl⟩
 rw[<- hN] at hf;refine aD.of (n:=43) Tryz.func97 rfl rfl rfl rfl rfl fun cx hfr=>?_;refine sr rfl ?_;refine p2 (bZ (i:=0)) ?_;refine p2 (bZ (i:=1)) ?_;refine p2 (aU (i:=2) rI) ?_;refine RV.done (sr rfl ?_);refine xd rfl ((oZ 1 1 (by decide) (by decide) (by decide) (by decide)).mono (fun _ _ _ _ h=>h) (fun L ρ w v h=>dR h0 L ρ w v (rW e11 L ρ w v h))) Tryz.func57 (xb rfl rfl) hfr ?_;refine p2 (aU (i:=3) bY) ?_;refine p1 (aP (aC).2) ?_;refine RV.done ?_;refine CV.seq ?_;refine sr rfl ?_;refine p1 (bI qG) ?_;refine p1 (bJ 0 qD cT) ?_;refine p1 (bH aV bC) ?_;refine p1 (bI qG) ?_;refine p1 (bJ 0 qD cT) ?_;refine p1 (bH aV bC) ?_;refine p1 (dM (c:=(p.length:Int)-q.length) (bF (by omega) (by omega)) rfl rfl bd rfl rfl) ?_;refine p1 (cC (c:=(p.length:Int)-q.length+1) (bF (by omega) (by omega)) rfl rfl bd rfl rfl) ?_;refine xm ?_;refine RV.done ?_;refine CV.block ?_;refine CV.loop (X:={z:Nat × Rat // z.1<=N/\mK B (eR (aH q)) (N-z.1) z.2=some f}) (fun z=>[(.s 17,.av (.one (.v (.int .i64 (z.1.1:Int))))),(.s 16,.av (.one (.v (.int .i64 ((p.length:Int)-q.length+1))))),(.s 2,.av (.one (.ptr 0 0))),(.b 0,.blk 72 [(some 5,EL p B s B)]),(.s 3,.av (.one (.ptr 1 0))),(.b 1,.blk 72 [(some 5,EL q B t B)]),(.s 4,.av (.one (.ptr 2 0))),(.b 2,.blk 72 [(some 5,.v (.agg #[.slice none 0 0,.bool false,.slice none 0 0,.bool false,.slice none 0 0]))]),(.s 5,.av (.one (.ptr 3 0))),(.b 3,.blk 31 [(some 4,RT z.1.2 B)])]) (fun z=>N-z.1.1) ⟨(0,1),Nat.zero_le _,hf⟩ (aZ.mk ⟨aB _,aB _,aB _,aB _,aB _,aB _,aB _,aB _,aB _,aB _,trivial⟩ rfl rfl) (fun z=>?_);obtain⟨⟨k,e⟩,hk,hs⟩:=z;simp only at hk hs |-;refine sr rfl ?_;refine p1 (cM) ?_;refine RV.done ?_;refine CV.seq ?_;refine CV.cond rfl (fun hc=>?_) (fun hc=>?_)
 ·have hlt:k<N:=(by have:=of_decide_eq_true hc; omega)
  rw[show N-k=(N-(k+1))+1 by omega] at hs;obtain⟨o1,o2⟩:=aRa hs;refine CV.skip ?_;refine CV.seq ?_;refine CV.block ?_;refine CV.region rfl (fun _=>by kernel_rfl) ?_;refine p1 (aJ aC) ?_;refine p1 (bI qG) ?_;refine p1 (bJ 0 qD cT) ?_;refine xc (aCe q B hq hq0) Tryz.func54 (xa rfl) hfr ?_;refine xc (aBk _ _) Tryz.func52 (xa rfl) hfr ?_;refine xd rfl ((nS e (eR (aH q)) B B (by omega) (by omega)).mono (fun _ _ _ _ h=>h) (dR o1)) Tryz.func87 (xb rfl rfl) hfr ?_;refine p1 (aP (aC).2) ?_;refine bQ (by kernel_rfl) ?_;refine CV.region rfl (fun h=>nomatch h) ?_;refine p1 (cC (c:=((k+1:Nat):Int)) (by rw[bF (by omega) (by omega)]; omega) rfl rfl bd rfl rfl) ?_;refine xm ?_;refine RV.done ?_;exact⟨⟨(k+1,e*eR (aH q)),hlt,o2⟩,aZ.mk ⟨aB _,aB _,aB _,aB _,aB _,aB _,aB _,aB _,aB _,aB _,trivial⟩ rfl rfl,by show N-(k+1)<N-k; omega⟩
 ·refine CV.exit ?_;refine CV.seq ?_;have hkN:k=N:=(by have:=of_decide_eq_false hc; omega)
  rw[hkN,Nat.sub_self] at hs;obtain rfl:=aTh hs;refine CV.region rfl (fun _=>by kernel_rfl) ?_;refine p1 (bI qG) ?_;refine p1 (bJ 0 qD cT) ?_;refine p1 (aJ aC) ?_;refine xc (vX _ _) Tryz.func100 (xa rfl) hfr ?_;refine xd rfl ((sP p (-e) B B (by omega) (by omega) hp).mono (fun _ _ _ _ h=>h) (dG h2)) Tryz.func38 (xb rfl rfl) hfr ?_;refine p1 (bI qG) ?_;refine p1 (bJ 0 qD cT) ?_;refine xd rfl (zC (aT p (-e)) q B hB (by omega) hq h4) Tryz.func134 (xb rfl rfl) hfr ?_;refine xm ?_;refine p1 (cL) ?_;refine p1 (cL) ?_;refine xn ?_;refine xn ?_;refine bQ (by kernel_rfl) ?_;refine sr rfl ?_;refine xm ?_;refine p1 (bI aMu) ?_;refine p1 (bJ 1 aMt aC) ?_;refine p1 (aJ aC) ?_;refine xd rfl ((oQ s e B B (by omega) (by omega)).mono (fun _ _ _ _ h=>h) (dR h3)) Tryz.func53 (xb rfl rfl) hfr ?_;refine xc (aBy R0 (s/e) B R T hB hr h5) Tryz.func95 (xb rfl rfl) hfr ?_;refine p1 (aP (iU).2) ?_;refine RV.done ?_;refine CV.ret ?_;exact aQ rfl (.inr rfl) ⟨_,_,_,_,_,rfl,rfl,rfl,iU⟩ cE
end
theorem aSa (p q R:List Rat) (s t T:Rat) (B:Nat) (hB:B<=300000) (hp:p.length<=1000000) (hq:q.length<=1000000) (hq0:q≠[]) (h0:aG [(1:Rat)] B=true) (h:oD B (p,s) (q,t)=some (R,T)) (hr:∀ U R0 f,dV B (aT p (-f)) q=some (U,R0)->R0.length<=1000000):aD Tryz.prog 97 [EL p B s B,EL q B t B] (.one (EL R B T B)):=by
 unfold oD at h;obtain⟨f,h1,h⟩:=Option.bind_eq_some_iff.1 h;split at h
 ·rename_i h2;rw[Bool.and_eq_true,Bool.and_eq_true] at h2;obtain⟨⟨U,R0⟩,h3,h⟩:=Option.bind_eq_some_iff.1 h;exact aQe p q U R0 R s t f T B hB hp hq (hr U R0 f h3) hq0 h0 h1 h2.1 h2.2.1 h2.2.2 h3 h
 ·cases h
section
variable (p:List Rat) (K B k:Nat) (hp:p.length<=100000) (hK:K<=1000000) (hk:k<p.length-1)
include hp hk hK
end
section
variable (p:List Rat) (K B:Nat) (hp:p.length<=100000) (hK:K<=1000000)
include hp hK
end
theorem aR5:Rat.divInt (-1) 1 = -1:=by decide +kernel
theorem aVf (p q:List Rat):kL p (aT q (Rat.divInt (-1) 1))=kX p q:=mF (cN _) (cN _) fun x=>by rw[qI,cP,qH,aR5]; grind
theorem aOq (q:List Rat) (a:Rat):(aT q a).length<=q.length:=mN q a
theorem aQ1 (p q:List Rat) (j K:Nat) (hj:j<=1000000) (hK:K<=300000) (hp:p.length<=1000000) (hq:q.length<=1000000):aD Tryz.prog 93 [PL p j,PL q K] (.one (PL (kX p q) (3*(j+(3*(K+6)+20))+20))):=by
 have hsl:=aOq q (Rat.divInt (-1) 1);refine aD.of (n:=10) Tryz.func93 rfl rfl rfl rfl rfl fun cx hfr=>?_;refine sr rfl ?_;refine xn ?_;refine RV.done (sr rfl ?_);refine xm ?_;refine xm ?_;refine xd rfl (iL (-1) 1 (by decide) (by decide) (by decide) (by decide)) Tryz.func32 (xb rfl rfl) hfr ?_;refine xd rfl (aBp q (Rat.divInt (-1) 1) K 6 (by omega) (by decide) hq) Tryz.func46 (xb rfl rfl) hfr ?_;refine xd rfl (aHt p (aT q (Rat.divInt (-1) 1)) j (3*(K+6)+20) hj (by omega) hp (by omega)) Tryz.func92 (xb rfl rfl) hfr ?_;refine xn ?_;refine RV.done ?_;refine CV.ret ?_;exact aQ rfl (.inr rfl) rfl (kF (by rw[aVf]))
theorem aF3 (p:List Rat) (K:Nat) (hK:K<=1000000) (hp:p.length<=1000000):aD Tryz.prog 44 [PL p K] (.one (PL (cJ p) (3*(K+6)+20))):=by
 refine aD.of (n:=23) Tryz.func44 rfl rfl rfl rfl rfl fun cx hfr=>?_;refine sr rfl ?_;refine xn ?_;refine RV.done (sr rfl ?_);refine xn ?_;refine RV.done ?_;refine CV.seq ?_;refine CV.seq ?_;refine mA 3 100 31 (some 4) rfl rfl rfl rfl ?_;refine CV.region rfl (fun h=>nomatch h) ?_;refine xn ?_;refine RV.done ?_;refine CV.block ?_;refine CV.loop (X:={k:Nat // k<=p.length-1}) (fun k=>[(.s 4,.av (.one (.v (.int .i64 ((k.1+1:Nat):Int))))),(.s 3,.av (.one (.sl 100 k.1))),(.b 100,.row 31 (some 4) (iE (fun i=>p.getD (i+1) 0*((i+1:Nat):Rat)) (3*(K+6)+20) k.1)),(.s 0,.av (.one (PL p K)))]) (fun k=>p.length-k.1) ⟨0,Nat.zero_le _⟩ (aZ.mk ⟨aB _,aB _,eE rfl,aB _,trivial⟩ rfl rfl) (fun k=>?_);obtain⟨k,hk⟩:=k;simp only;refine CV.seq ?_;refine sr rfl ?_;refine xm ?_;refine xm ?_;refine p1 (bH aV bC) ?_;refine p1 (cM) ?_;refine RV.done ?_;refine CV.cond rfl (fun hc=>?_) (fun hc=>?_)
 ·have hlt:k+1<p.length:=(by have:=of_decide_eq_true hc; omega)
  refine CV.skip ?_;refine CV.seq ?_;refine CV.block ?_;refine CV.region rfl (fun _=>by kernel_rfl) ?_;refine xm ?_;refine xm ?_;refine xm ?_;refine p1 (cH (k:=some 4) (i:=k+1) (dZ hlt) bC cF) ?_;refine p1 (bL aC) ?_;refine xm ?_;refine xd rfl ((iL ((k+1:Nat):Int) 1 (by omega) (by omega) (by decide) (by decide)).mono (fun _ _ _ _ h=>h) (by rw[aG9]; exact fun _ _ _ _ h=>h)) Tryz.func32 (xb rfl rfl) hfr ?_;refine xd rfl (vI (p.getD (k+1) 0) ((k+1:Nat):Rat) K 6 hK (by decide)) Tryz.func89 (xb rfl rfl) hfr ?_;refine p1 (dY (G:=Dm.gen (bO (some 4) [_])) (cG _ _) cA iS rfl rfl rfl (by intro s hs; obtain rfl:=List.mem_singleton.1 hs; rfl) rfl rfl rfl bd (xa rfl)) ?_;refine fX (aM.plain (iJ (r:=100) (r':=101) (fS (by decide) rfl) (by rw[fR]; show (k+1)*64<=_; omega) (by rw[fR]; show k+1<=_; omega) cA fZ rfl rfl rfl (by intro x hx; obtain rfl:=List.mem_singleton.1 hx; rfl) fR.symm rfl rfl bd rfl rfl rfl rfl rfl rfl rfl rfl) rfl) ?_;refine xn ?_;refine bQ (by kernel_rfl) ?_;refine CV.region rfl (fun h=>nomatch h) ?_;refine xm ?_;refine p1 (cC (c:=((k+1+1:Nat):Int)) (by rw[bF (by omega) (by omega)]; omega) rfl rfl bd rfl rfl) ?_;refine xn ?_;refine RV.done ?_;exact⟨⟨k+1,by omega⟩,jI (fun i=>if i=100 then 101 else i) ⟨eT,jV rfl rfl,eE (sT (f:=fun i=>p.getD (i+1) 0*((i+1:Nat):Rat))),eT,trivial⟩ rfl rfl rfl rfl,by show p.length-(k+1)<p.length-k; omega⟩
 ·refine CV.exit ?_;refine CV.seq ?_;have hk1:k=p.length-1:=(by have:=of_decide_eq_false hc; omega)
  subst hk1;rw[pR];refine iK (r:=100) (t:=3) (G:=Dm.gen (bO (some 4) (aW (tab (fun i=>p.getD (i+1) 0*((i+1:Nat):Rat)) (p.length-1)) (3*(K+6)+20)))) (cx.bw hfr) rfl rfl (by rw[aV,eW]) rfl rfl (cG _ _) (gR _ _) ?_;refine CV.region rfl (fun h=>nomatch h) ?_;refine xm ?_;refine xd rfl (iI _ _ (by rw[eW]; omega)) Tryz.func12 (xa rfl) hfr ?_;refine xn ?_;refine RV.done ?_;refine CV.ret ?_;exact aQ rfl (.inr rfl) rfl cE
theorem aNj (p:List Rat):aT p (Rat.divInt 1 1/p.getD (p.length-1) 0)=bA p:=by
 rw[bA,show (Rat.divInt 1 1)=1 by decide +kernel];rfl
theorem aOx (K B:Nat):aD Tryz.prog 91 [PL [] K] (.one (PL [] B)):=by
 refine aD.of (n:=16) Tryz.func91 rfl rfl rfl rfl rfl fun cx hfr=>?_;refine sr rfl ?_;refine xn ?_;refine RV.done ?_;refine CV.seq ?_;refine sr rfl ?_;refine xm ?_;refine p1 (bH aV bC) ?_;refine p1 (cQ) ?_;refine RV.done ?_;refine CV.cond rfl (fun hc=>?_) (fun hc=>False.elim (by exact absurd hc (by decide)));refine sr rfl ?_;refine xn ?_;refine RV.done ?_;refine CV.ret ?_;exact aQ rfl (.inr rfl) rfl (fun L ρ w v h=>nX L ρ w v h)
section
variable (p:List Rat) (K B:Nat) (hK:K<=100000) (hp:p.length<=1000000) (h0:p≠[]) (hs:aG (bA p) B=true)
include hK hp h0 hs
theorem aOw:aD Tryz.prog 91 [PL p K] (.one (PL (bA p) B)):=by
 have hpl:=List.length_pos_iff.2 h0;refine aD.of (n:=16) Tryz.func91 rfl rfl rfl rfl rfl fun cx hfr=>?_;refine sr rfl ?_;refine xn ?_;refine RV.done ?_;refine CV.seq ?_;refine sr rfl ?_;refine xm ?_;refine p1 (bH aV bC) ?_;refine p1 (cQ) ?_;refine RV.done ?_;refine CV.cond rfl (fun hc=>False.elim (by rw[beq_iff_eq] at hc; omega)) (fun hc=>?_);refine CV.skip ?_;refine CV.seq ?_;refine CV.region rfl (fun _=>by kernel_rfl) ?_;refine xm ?_;refine xd rfl (iL 1 1 (by decide) (by decide) (by decide) (by decide)) Tryz.func32 (xb rfl rfl) hfr ?_;refine xm ?_;refine xm ?_;refine p1 (bH aV bC) ?_;refine p1 (dM (c:=((p.length-1:Nat):Int)) (by rw[bF (by omega) (by omega)]; omega) rfl rfl bd rfl rfl) ?_;refine p1 (cH (k:=some 4) (i:=p.length-1) (dZ (by omega)) bC cF rfl rfl bd rfl rfl (by decide)) ?_;refine p1 (bL aC) ?_;refine xd rfl (aCh (Rat.divInt 1 1) (p.getD (p.length-1) 0) 6 K (by decide) (by omega)) Tryz.func58 (xb rfl rfl) hfr ?_;refine xd rfl ((aBp p (Rat.divInt 1 1/p.getD (p.length-1) 0) K (3*(6+K)+20) (by omega) (by omega) hp).mono (fun _ _ _ _ h=>h) (dG (B:=B) (by rw[aNj p]; exact hs))) Tryz.func46 (xb rfl rfl) hfr ?_;refine xn ?_;refine bQ (by kernel_rfl) ?_;refine CV.ret ?_;exact aQ rfl (.inr rfl) rfl (kF (by rw[aNj p]))
end
theorem xZ (p:List Rat) (K B:Nat) (hK:K<=100000) (hp:p.length<=1000000) (hs:aG (bA p) B=true):aD Tryz.prog 91 [PL p K] (.one (PL (bA p) B)):=by
 by_cases h0:p=[]
 ·subst h0;exact aOx K B
 ·exact aOw p K B hK hp h0 hs
theorem aWf {B:Nat}:∀ L ρ w cs,bV L ρ w [(some 4,SA.d (Dm.rt 0 0 0))] cs->bV L ρ w [(some 4,RT 0 B)] cs:=by
 rintro L ρ w cs ⟨p,r,v,e1,e2,e3,e4⟩;exact⟨p,r,v,e1,e2,dT rfl rfl (Nat.zero_le _) L ρ w v e3,e4⟩
section
variable (p:List Rat) (x:Rat) (K Kx B:Nat) (hK:K<=100000) (hKx:Kx<=100000) (hB:B<=100000) (hp:p.length<=1000000) (hs:∀ k,k<=p.length->aG [mL p x k] B=true) (hw:∀ k,k<=p.length->aG [pw x k] B=true)
include hK hKx hB hp hs hw
theorem aPq:aD Tryz.prog 40 [PL p K,RT x Kx] (.one (RT (ev p x) B)):=by
 refine aD.of (n:=28) Tryz.func40 rfl rfl rfl rfl rfl fun cx hfr=>?_;refine sr rfl ?_;refine p2 (bZ (i:=0)) ?_;refine p2 (aU (i:=1) bY) ?_;refine RV.done (sr rfl ?_);refine p1 (mO) ?_;refine p2 (aU (i:=2) bY) ?_;refine p1 (aP (aC).2) ?_;refine RV.done (sr rfl ?_);refine xd rfl ((iL 1 1 (by decide) (by decide) (by decide) (by decide)).mono (fun _ _ _ _ h=>h) (dR (hw 0 (Nat.zero_le _)))) Tryz.func32 (xb rfl rfl) hfr ?_;refine p2 (aU (i:=3) bY) ?_;refine p1 (aP (aC).2) ?_;refine RV.done ?_;refine CV.seq ?_;refine sr rfl ?_;refine xn ?_;refine RV.done ?_;refine CV.block ?_;refine CV.loop (X:={k:Nat // k<=p.length}) (fun k=>[(.s 7,.av (.one (.v (.int .i64 (k.1:Int))))),(.s 6,.av (.one (.ptr 3 0))),(.s 5,.av (.one (.ptr 2 0))),(.s 4,.av (.one (.ptr 1 0))),(.s 3,.av (.one (.ptr 0 0))),(.s 0,.av (.one (PL p K))),(.b 3,.blk 31 [(some 4,RT (pw x k.1) B)]),(.b 2,.blk 31 [(some 4,RT (mL p x k.1) B)]),(.b 1,.blk 31 [(some 4,.v dL)]),(.b 0,.blk 31 [(some 4,RT x Kx)])]) (fun k=>p.length-k.1) ⟨0,Nat.zero_le _⟩ (aZ.mk ⟨aB _,aB _,aB _,aB _,aB _,aB _,⟨rfl,fun _ _ _ _ h=>h⟩,⟨rfl,aWf⟩,aB _,aB _,trivial⟩ rfl rfl) (fun k=>?_);obtain⟨k,hk⟩:=k;simp only;refine CV.seq ?_;refine sr rfl ?_;refine xm ?_;refine xm ?_;refine p1 (bH aV bC) ?_;refine p1 (cM) ?_;refine RV.done ?_;refine CV.cond rfl (fun hc=>?_) (fun hc=>?_)
 ·have hlt:k<p.length:=(by have:=of_decide_eq_true hc; omega)
  refine CV.skip ?_;refine CV.seq ?_;refine CV.block ?_;refine CV.seq ?_;refine CV.region rfl (fun _=>by kernel_rfl) ?_;refine p1 (aJ aC) ?_;refine xm ?_;refine xm ?_;refine p1 (cH (k:=some 4) (i:=k) (dZ hlt) bC cF) ?_;refine p1 (bL aC) ?_;refine p1 (aJ aC) ?_;refine xd rfl (vI (p.getD k 0) (pw x k) K B (by omega) (by omega)) Tryz.func89 (xb rfl rfl) hfr ?_;refine xd rfl ((vJ (mL p x k) (p.getD k 0*pw x k) B (3*(K+B)+20) (by omega) (by omega)).mono (fun _ _ _ _ h=>h) (dR (hs (k+1) hlt))) Tryz.func31 (xb rfl rfl) hfr ?_;refine p1 (aP (aC).2) ?_;refine bQ (by kernel_rfl) ?_;refine CV.region rfl (fun h=>nomatch h) ?_;refine p1 (aJ aC) ?_;refine p1 (aJ aC) ?_;refine xd rfl ((vI (pw x k) x B Kx (by omega) (by omega)).mono (fun _ _ _ _ h=>h) (dR (hw (k+1) hlt))) Tryz.func89 (xb rfl rfl) hfr ?_;refine p1 (aP (aC).2) ?_;refine RV.done ?_;refine CV.region rfl (fun h=>nomatch h) ?_;refine xm ?_;refine p1 (cC (c:=((k+1:Nat):Int)) (by rw[bF (by omega) (by omega)]; omega) rfl rfl bd rfl rfl) ?_;refine xn ?_;refine RV.done ?_;exact⟨⟨k+1,hlt⟩,aZ.mk ⟨aB _,aB _,aB _,aB _,aB _,aB _,⟨rfl,fun _ _ _ _ h=>h⟩,⟨rfl,fun _ _ _ _ h=>h⟩,aB _,aB _,trivial⟩ rfl rfl,by show p.length-(k+1)<p.length-k; omega⟩
 ·refine CV.exit ?_;refine sr rfl ?_;refine p1 (aJ aC) ?_;refine p1 (aP (aC).2) ?_;refine RV.done ?_;refine CV.ret ?_;obtain rfl:k=p.length:=(by have:¬ k<p.length:=(by have:=of_decide_eq_false hc; omega); omega)
  exact aQ rfl (.inr rfl) ⟨_,_,_,_,_,rfl,rfl,rfl,aC⟩ (fun L ρ w v h=>by rw[<- aAc]; exact h)
end
section
variable (p:List Rat) (x:Rat) (K Kx B:Nat) (hK1:1<=K) (hKx1:1<=Kx) (hp:p.length<=1000) (hB:B<=300) (hK:K<=B) (hKx:Kx<=B) (hl:p.length<=20) (hpz:aG p K=true) (hxz:aG [x] Kx=true) (hs:∀ m,m<=p.length->aG (aWz p x (lR id m)) B=true)
include hK1 hKx1 hB hK hKx hl hpz hxz hs hp
end
/-! Div. -/
theorem aLp {u:List (Option Rat)} {B:Nat} (h:aG (dH u) B=true) {s:Nat} {a:Rat} (ha:aG [a] B=true):aG (dH (u.set s (some a))) B=true:=by
 unfold dH at *;rw[List.map_set];exact aL6 h ha
theorem aRe {k:Nat} {m:Rat} (h:m≠0):aI (eJ k [m])=eJ k [m]:=by
 unfold eJ;rw[qW,if_neg h]
theorem aC3 {k:Nat} {m:Rat}:(eJ k [m]).length=k+1:=by simp[eJ]
theorem aTm {k:Nat} {m:Rat} {B:Nat}:(List.replicate (k+1) (SA.v dL:SA Dm)).set k (RT m B)=List.replicate k (SA.v dL)++[RT m B]:=by
 rw[List.replicate_succ',List.set_append_right _ _ (by rw[List.length_replicate]; exact Nat.le_refl _),List.length_replicate,Nat.sub_self];rfl
theorem aVp {k:Nat} {m:Rat} {B:Nat}:∀ L ρ w v,(SA.d (Dm.gen (bO (some 4) (List.replicate k (SA.v dL)++[RT m B])))).is L ρ w v->(PL (eJ k [m]) B).is L ρ w v:=by
 refine aEt ?_;have:∀ k:Nat,fN (fun s s':SA Dm=>∀ w v,s.at w v->s'.at w v) (List.replicate k (SA.v dL)++[RT m B]) (aW (eJ k [m]) B):=by
  intro k
  induction k with
  | zero=>exact .cons (fun _ _ h=>h) .nil
  | succ k ih =>
   rw[List.replicate_succ,List.cons_append];show fN _ _ (aW (List.replicate (k+1) 0++[m]) B);rw[List.replicate_succ,List.cons_append];refine .cons (fun w v hv=>?_) ih;obtain rfl:v=dL:=hv;have h0:(aA (0:Int).natAbs).length<=B:=by rw[show (0:Int).natAbs=0 from rfl,fW]; exact Nat.zero_le _
   exact⟨_,_,rfl,aL.nil (by decide),aL.nil (by decide),h0,h0⟩
 exact this k
theorem aDa {p q:List Rat} {i:Nat} (hz:p.getD i 0=0):∀ (j:Nat) (l:List Rat),(∀ k,l.getD k 0=0)->∀ k,(gW p q i j l).getD k 0=0
 | 0,l,h,k=>h k
 | j+1,l,h,k=>by
  have ih:=aDa (q:=q) hz j l h;rw[gW,ih,hz,Rat.zero_mul,Rat.add_zero];rw[List.getD_eq_getElem?_getD,List.getElem?_set];have:=ih k;rw[List.getD_eq_getElem?_getD] at this;split
  ·split<;>rfl
  ·exact this
theorem aKq {l:List Rat} {B:Nat} (h:∀ k,aG [l.getD k 0] B=true):aG l B=true:=pT fun a ha=>by
 obtain⟨i,hi,rfl⟩:=List.getElem_of_mem ha;have:=h i;rw[List.getD_eq_getElem?_getD,List.getElem?_eq_getElem hi] at this;exact this
theorem aC2 {q:List Rat} {k:Nat} {m:Rat}:∀ i,i<=k->∀ j,(gM (eJ k [m]) q i).getD j 0=0
 | 0,_,j=>by
  rw[gM,List.getD_eq_getElem?_getD,List.getElem?_replicate];split<;>rfl
 | i+1,h,j=>by
  rw[gM];exact aDa (by rw[zJ,if_pos (by omega)]) _ _ (aC2 i (by omega)) j
theorem aJb {q:List Rat} {k:Nat} {m:Rat} {C:Nat} (hC:∀ j,aG [m*q.getD j 0] C=true) (l:List Rat) (hl:∀ j,l.getD j 0=0):∀ j,j<=q.length->(∀ i,aG [(gW (eJ k [m]) q k j l).getD i 0] C=true)/\∀ i,k+j<=i->(gW (eJ k [m]) q k j l).getD i 0=0
 | 0,_=>⟨fun i=>by rw[gW,hl]; exact oS,fun i _=>hl i⟩
 | j+1,h=>by
  obtain⟨h1,h2⟩:=aJb hC l hl j (by omega);have e:(eJ k [m]).getD k 0=m:=by rw[zJ,if_neg (by omega),Nat.sub_self]; rfl
  rw[gW,h2 (k+j) (Nat.le_refl _),Rat.zero_add,e];refine⟨fun i=>?_,fun i hi=>?_⟩
  ·rw[List.getD_eq_getElem?_getD,List.getElem?_set];split
   ·split
    ·exact hC j
    ·exact oS
   ·have:=h1 i;rw[List.getD_eq_getElem?_getD] at this;exact this
  ·rw[List.getD_eq_getElem?_getD,List.getElem?_set,if_neg (by omega),<- List.getD_eq_getElem?_getD];exact h2 i (by omega)
theorem aVq {q:List Rat} {k:Nat} {m:Rat} {C:Nat} (hC:∀ j,aG [m*q.getD j 0] C=true) (i j:Nat) (hi:i<(eJ k [m]).length) (hj:j<=q.length):aG (gW (eJ k [m]) q i j (gM (eJ k [m]) q i)) C=true:=by
 rw[aC3] at hi;refine aKq fun n=>?_;by_cases h:i=k
 ·subst h;exact(aJb hC _ (aC2 i (Nat.le_refl _)) j hj).1 n
 ·rw[aDa (by rw[zJ,if_pos (by omega)]) _ _ (aC2 i (by omega))];exact oS
theorem aYg {u:List (Option Rat)} {k:Nat} {m:Rat} (hk:k<u.length) (hn:u.getD k none=none):kL (aI (dH u)) (eJ k [m])=aI (dH (u.set k (some m))):=by
 refine mF (cN _) (cN _) fun x=>?_;rw[qI,pZ,pZ,aLm hk hn,wS,ev,ev];grind
theorem aYe {r q:List Rat} (hl:q.length<=r.length) (h0:0<q.length) (hq:aH q≠0):kX r (iM (eJ (r.length-q.length) [aH r/aH q]) q)=eB r q (aH r/aH q):=by
 refine mF (cN _) (cN _) fun x=>?_;rw[qH,aD9,wS,ev,ev,aEz hl h0 (by rw[Rat.div_def,Rat.mul_assoc,Rat.inv_mul_cancel _ hq,Rat.mul_one])];grind
theorem aS3 {p q:List Rat} (hp:p≠[]) (hq:q≠[]):aI (gM p q p.length)=iM p q:=by
 rw[iM,if_neg (by rintro(h | h); exact hp h; exact hq h)]
theorem aTo {u:List (Option Rat)}:(dH u).length=u.length:=by simp[dH]
theorem aS8 {r q:List Rat} (hr:aH r≠0) (hq:aH q≠0):aH r/aH q≠0:=by
 rw[Rat.div_def];intro h;rcases Rat.mul_eq_zero.1 h with h | h
 ·exact hr h
 ·exact hq (by rw[<- Rat.inv_inv (aH q),h,Rat.inv_zero])
theorem aOy (p:List Rat) (K B:Nat):aD Tryz.prog 45 [PL p K,PL [] B] (.tup [PL [] B,PL [] B]):=by
 refine aD.of (n:=56) Tryz.func45 rfl rfl rfl rfl rfl fun cx hfr=>?_;refine sr rfl ?_;refine xn ?_;refine xn ?_;refine RV.done ?_;refine CV.seq ?_;refine sr rfl ?_;refine xm ?_;refine p1 (bH aV bC) ?_;refine p1 (cQ) ?_;refine RV.done ?_;refine CV.cond rfl (fun hc=>?_) (fun hc=>False.elim (by exact absurd hc (by decide)));refine sr rfl ?_;refine xn ?_;refine xn ?_;refine RV.done ?_;refine CV.ret ?_;exact lK rfl (.inr rfl) rfl rfl (zP nX nX)
section
variable (p q:List Rat) (B:Nat) (U:List (Option Rat)) (R:List Rat) (hB1:1<=B) (hB:B<=100000) (hp:p.length<=1000) (hq:q.length<=1000) (hq0:q≠[]) (tp:aI p=p) (tq:aI q=q) (hqz:aG q B=true) (h:kJ B q (p.length+2) (List.replicate (p.length+1-q.length) none) p=some (U,R))
include hB1 hB hp hq hq0 tp tq hqz h
theorem aQ7:aD Tryz.prog 45 [PL p B,PL q B] (.tup [PL (aI (dH U)) B,PL R B]):=by
 have hql:0<q.length:=List.length_pos_iff.2 hq0;have hlq:=fE tq hq0;have hnone:∀ i,(List.replicate (p.length+1-q.length) (none:Option Rat)).getD i none=none:=(fun i=>by rw[List.getD_eq_getElem?_getD,List.getElem?_replicate]; split<;>rfl)
 have hz0:aG (dH (List.replicate (p.length+1-q.length) none)) B=true:=aKq fun k=>by rw[aCk]; exact oS
 have ht0:aI (dH (List.replicate (p.length+1-q.length) none))=[]:=aC6 (aCk _);refine aD.of (n:=56) Tryz.func45 rfl rfl rfl rfl rfl fun cx hfr=>?_;refine sr rfl ?_;refine xn ?_;refine xn ?_;refine RV.done ?_;refine CV.seq ?_;refine sr rfl ?_;refine xm ?_;refine p1 (bH aV bC) ?_;refine p1 (cQ) ?_;refine RV.done ?_;refine CV.cond rfl (fun hc=>False.elim (by rw[beq_iff_eq] at hc; omega)) (fun hc=>?_);refine CV.skip ?_;refine sr rfl ?_;refine xn ?_;refine RV.done (sr rfl ?_);refine xm ?_;refine xn ?_;refine RV.done ?_;refine CV.seq ?_;refine CV.block ?_;refine CV.loop (X:={s:Nat × List (Option Rat) × List Rat // kJ B q s.1 s.2.1 s.2.2=some (U,R)/\s.2.1.length=p.length+1-q.length/\s.2.2.length<=p.length/\aI s.2.2=s.2.2/\aG (dH s.2.1) B=true/\∀ i,i<=s.2.2.length-q.length->q.length<=s.2.2.length->s.2.1.getD i none=none}) (fun s=>[(.s 7,.av (.one (PL s.1.2.2 B))),(.s 6,.av (.one (PL (aI (dH s.1.2.1)) B))),(.s 1,.av (.one (PL q B)))]) (fun s=>s.1.2.2.length) ⟨(p.length+2,List.replicate (p.length+1-q.length) none,p),h,by rw[List.length_replicate],Nat.le_refl _,tp,hz0,fun i _ _=>hnone i⟩ (aZ.mk ⟨aB _,zA rfl (fun L ρ w v h=>by show (PL (aI (dH (List.replicate (p.length+1-q.length) none))) B).is L ρ w v; rw[ht0]; exact nX L ρ w v h),aB _,trivial⟩ rfl rfl) (fun s=>?_);obtain⟨⟨n,u,r⟩,hs,hu,hr,tr,hz,hn⟩:=s;simp only at hs hu hr tr hz hn |-;refine CV.seq ?_;refine sr rfl ?_;refine xm ?_;refine p1 (bH aV bC) ?_;refine xm ?_;refine p1 (bH aV bC) ?_;refine p1 (rT) ?_;refine RV.done ?_;refine CV.cond rfl (fun hc=>?_) (fun hc=>?_)
 ·have hle:q.length<=r.length:=(by have:=of_decide_eq_true hc; omega)
  obtain⟨m,hs1,hs2,hs3⟩:=aIi hs hle;have hrl:=aDy r q (aH r/aH q);have hr0:r≠[]:=(fun e=>by rw[e,List.length_nil] at hle; omega)
  have hlr:=fE tr hr0;have hm0:=aS8 hlr hlq;have hku:r.length-q.length<u.length:=(by omega)
  have hadd:=aYg (m:=aH r/aH q) hku (hn _ (Nat.le_refl _) hle);have hsub:=aYe hle hql hlq;have hpn:eJ (r.length-q.length) [aH r/aH q]≠[]:=(fun e=>by have:=congrArg List.length e; rw[aC3] at this; cases this)
  have hmul:=aS3 hpn hq0;have hrml:=aCf (eJ (r.length-q.length) [aH r/aH q]) q;have hpl:=aC3 (k:=r.length-q.length) (m:=aH r/aH q);refine CV.skip ?_;refine CV.block ?_;refine sr rfl ?_;refine xm ?_;refine p1 (bH aV bC) ?_;refine xm ?_;refine p1 (bH aV bC) ?_;refine p1 (dM (c:=((r.length-q.length:Nat):Int)) (by rw[bF (by omega) (by omega)]; omega) rfl rfl bd rfl rfl) ?_;refine xn ?_;refine RV.done (sr rfl ?_);refine xm ?_;refine p1 (cC (c:=((r.length-q.length+1:Nat):Int)) (by rw[bF (by omega) (by omega)]; omega) rfl rfl bd rfl rfl) ?_;refine p2 (wD (r:=27) (Nat.le_refl _) (by omega) (by omega) cA fZ rfl rfl rfl rfl bd rfl rfl rfl rfl rfl) ?_;refine xn ?_;refine RV.done ?_;refine CV.seq ?_;refine CV.region rfl (fun _=>by kernel_rfl) ?_;refine xm ?_;refine xm ?_;refine xm ?_;refine xm ?_;refine p1 (bH aV bC) ?_;refine p1 (dM (c:=((r.length-1:Nat):Int)) (by rw[bF (by omega) (by omega)]; omega) rfl rfl bd rfl rfl) ?_;refine p1 (cH (k:=some 4) (i:=r.length-1) (dZ (by omega)) bC cF rfl rfl bd rfl rfl (by decide)) ?_;refine p1 (bL aC) ?_;refine xm ?_;refine xm ?_;refine p1 (bH aV bC) ?_;refine p1 (dM (c:=((q.length-1:Nat):Int)) (by rw[bF (by omega) (by omega)]; omega) rfl rfl bd rfl rfl) ?_;refine p1 (cH (k:=some 4) (i:=q.length-1) (dZ (by omega)) bC cF rfl rfl bd rfl rfl (by decide)) ?_;refine p1 (bL aC) ?_;refine xd rfl ((aCh (aH r) (aH q) B B (by omega) (by omega)).mono (fun _ _ _ _ h=>h) (dR hs1)) Tryz.func58 (xb rfl rfl) hfr ?_;refine p1 (mR (i:=r.length-q.length) (by omega) (by rw[List.length_replicate]; omega) cA cF rfl rfl bd rfl rfl rfl) ?_;refine p1 (sX (i:=r.length-q.length) (by rw[List.length_replicate]; omega) (by show 0<4; decide) cF (.inl rfl) rfl rfl rfl rfl rfl rfl rfl rfl rfl) ?_;refine bQ (by kernel_rfl) ?_;refine CV.seq ?_;rw[aTm];refine iK (r:=27) (t:=9) (G:=Dm.gen (bO (some 4) (List.replicate (r.length-q.length) (SA.v dL)++[RT (aH r/aH q) B]))) (cx.bw hfr) rfl rfl (by rw[List.length_append,List.length_replicate]; rfl) rfl rfl (cG _ _) (gR _ _) ?_;refine CV.region rfl (fun h=>nomatch h) ?_;refine xm ?_;refine xd rfl ((iI (eJ (r.length-q.length) [aH r/aH q]) B (by omega)).mono (fun _ _ _ _ h=>h) (fun L ρ w v h=>by rw[aRe hm0] at h; exact h)) Tryz.func12 (.cons rfl ⟨rfl,aVp⟩ .nil) hfr ?_;refine xn ?_;refine RV.done (sr rfl ?_);refine xm ?_;refine xm ?_;refine xd rfl ((aHt (aI (dH u)) (eJ (r.length-q.length) [aH r/aH q]) B B (by omega) (by omega) (by have:=iH (dH u); rw[aTo] at this; omega) (by omega)).mono (fun _ _ _ _ h=>h) (dG (B:=B) (by rw[hadd]; exact tV (aLp hz hs1)))) Tryz.func92 (xb rfl rfl) hfr ?_;refine xn ?_;refine RV.done ?_;refine CV.region rfl (fun h=>nomatch h) ?_;refine xm ?_;refine xm ?_;refine xm ?_;refine xd rfl (aHs (eJ (r.length-q.length) [aH r/aH q]) q B B (2*B) (by omega) (by omega) hpn hq0 (by omega) (by omega) (by omega) (aVq (fun j=>by rw[Nat.two_mul]; exact wJ hB1 hB1 hs1 (tW hqz j)))) Tryz.func42 (xb rfl rfl) hfr ?_;refine xd rfl ((aQ1 r (aI (gM (eJ (r.length-q.length) [aH r/aH q]) q (eJ (r.length-q.length) [aH r/aH q]).length)) B (2*B) (by omega) (by omega) (by omega) (by rw[hmul]; omega)).mono (fun _ _ _ _ h=>h) (dG (B:=B) (by rw[hmul,hsub]; exact hs2))) Tryz.func93 (xb rfl rfl) hfr ?_;refine xn ?_;refine RV.done ?_;exact⟨⟨(m,u.set (r.length-q.length) (some (aH r/aH q)),eB r q (aH r/aH q)),hs3,by rw[List.length_set]; exact hu,by show (eB r q (aH r/aH q)).length<=p.length; omega,aCz _ _ _,aLp hz hs1,fun i hi hi2=>by have hi:i<=(eB r q (aH r/aH q)).length-q.length:=hi; have hi2:q.length<=(eB r q (aH r/aH q)).length:=hi2; rw[vZ hku,if_neg (by omega)]; exact hn i (by omega) hle⟩,aZ.mk ⟨by rw[hmul,hsub]; exact aB _,by rw[hadd]; exact aB _,aB _,trivial⟩ rfl rfl,by show (eB r q (aH r/aH q)).length<r.length; omega⟩
 ·refine CV.exit ?_;refine CV.seq ?_;have hX:=aJ1 hs (by have:=of_decide_eq_false hc; omega);obtain⟨rfl,rfl⟩:U=u/\R=r:=(Prod.mk.inj hX)
  refine CV.region rfl (fun h=>nomatch h) ?_;refine xm ?_;refine xm ?_;refine xn ?_;refine xn ?_;refine RV.done ?_;refine CV.ret ?_;exact lK rfl (.inr rfl) rfl rfl (zP (fun _ _ _ _ h=>h) (fun _ _ _ _ h=>h))
end
theorem aCi (p q:List Rat) (B:Nat) {U R:List Rat} (hB1:1<=B) (hB:B<=100000) (hp:p.length<=1000) (hq:q.length<=1000) (tp:aI p=p) (tq:aI q=q) (hqz:aG q B=true) (h:dV B p q=some (U,R)):aD Tryz.prog 45 [PL p B,PL q B] (.tup [PL (aI U) B,PL R B]):=by
 unfold dV at h;by_cases h0:q=[]
 ·rw[if_pos h0] at h;injection h with h;obtain⟨rfl,rfl⟩:=Prod.mk.inj h;subst h0;exact aOy p B B
 ·rw[if_neg h0] at h;obtain⟨⟨u,r⟩,h1,h2⟩:=Option.map_eq_some_iff.1 h;obtain⟨rfl,rfl⟩:=Prod.mk.inj h2;exact aQ7 p q B u r hB1 hB hp hq h0 tp tq hqz h1
theorem aPk {B n:Nat} {p q G:List Rat} (h:jZ B n p q=some G) (hl:0<q.length):∃ m U R,dV B p q=some (U,R)/\aG (bA R) B=true/\R.length<q.length/\jZ B m q (bA R)=some G:=by
 cases n with
 | zero=>cases h
 | succ n =>
  rw[jZ,if_pos hl] at h;obtain⟨⟨U,R⟩,h1,h⟩:=Option.bind_eq_some_iff.1 h;split at h
  ·rename_i h3;rw[Bool.and_eq_true] at h3;exact⟨n,U,R,h1,h3.1,of_decide_eq_true h3.2,h⟩
  ·cases h
theorem aQy {B n:Nat} {p q G:List Rat} (h:jZ B n p q=some G) (hl:¬ 0<q.length):G=p:=by
 cases n with
 | zero=>cases h
 | succ n =>
  rw[jZ,if_neg hl] at h;injection h with h;exact h.symm
theorem aS4 {B:Nat} {p q G:List Rat} (h:pD B p q=some G):aG (bA p) B=true/\aG (bA q) B=true/\jZ B (p.length+q.length+3) (bA p) (bA q)=some G:=by
 unfold pD at h;split at h
 ·rename_i h3;rw[Bool.and_eq_true] at h3;exact⟨h3.1,h3.2,h⟩
 ·cases h
theorem aB2 (p:List Rat):(bA p).length<=p.length:=mN _ _
theorem aBr (p:List Rat):aI (bA p)=bA p:=cN _
section
variable (p q G:List Rat) (B:Nat) (hB1:1<=B) (hB:B<=100000) (hp:p.length<=1000) (hq:q.length<=1000) (h:pD B p q=some G)
include hB1 hB hp hq h
theorem aQ6:aD Tryz.prog 90 [PL p B,PL q B] (.one (PL G B)):=by
 obtain⟨z1,z2,h3⟩:=aS4 h;have l1:=aB2 p;have l2:=aB2 q;refine aD.of (n:=26) Tryz.func90 rfl rfl rfl rfl rfl fun cx hfr=>?_;refine sr rfl ?_;refine xn ?_;refine RV.done (sr rfl ?_);refine xm ?_;refine xd rfl (xZ p B B hB (by omega) z1) Tryz.func91 (xa rfl) hfr ?_;refine xn ?_;refine RV.done (sr rfl ?_);refine xm ?_;refine xd rfl (xZ q B B hB (by omega) z2) Tryz.func91 (xa rfl) hfr ?_;refine xn ?_;refine RV.done ?_;refine CV.seq ?_;refine CV.block ?_;refine CV.loop (X:={s:Nat × List Rat × List Rat // jZ B s.1 s.2.1 s.2.2=some G/\s.2.1.length<=1000/\s.2.2.length<=1000/\aI s.2.1=s.2.1/\aI s.2.2=s.2.2/\aG s.2.2 B=true}) (fun s=>[(.s 6,.av (.one (PL s.1.2.2 B))),(.s 5,.av (.one (PL s.1.2.1 B)))]) (fun s=>s.1.2.2.length) ⟨(p.length+q.length+3,bA p,bA q),h3,by show (bA p).length<=_; omega,by show (bA q).length<=_; omega,aBr p,aBr q,z2⟩ (aZ.mk ⟨aB _,aB _,trivial⟩ rfl rfl) (fun s=>?_);obtain⟨⟨n,a,b⟩,hs,ha,hb,ta,tb,zb⟩:=s;simp only at hs ha hb ta tb zb |-;refine CV.seq ?_;refine sr rfl ?_;refine xm ?_;refine p1 (bH aV bC) ?_;refine p1 (gH) ?_;refine RV.done ?_;refine CV.cond rfl (fun hc=>?_) (fun hc=>?_)
 ·have hlt:0<b.length:=(by have:=of_decide_eq_true hc; omega)
  obtain⟨m,U,R,o1,o2,o3,o4⟩:=aPk hs hlt;have o5:=aB2 R;refine CV.skip ?_;refine CV.block ?_;refine sr rfl ?_;refine xm ?_;refine xm ?_;refine xc (aCi a b B hB1 hB ha hb ta tb zb o1) Tryz.func45 (xb rfl rfl) hfr ?_;refine xm ?_;refine p1 (cL) ?_;refine p1 (cL) ?_;refine xn ?_;refine xn ?_;refine RV.done (sr rfl ?_);refine xm ?_;refine xn ?_;refine RV.done ?_;refine CV.region rfl (fun h=>nomatch h) ?_;refine xm ?_;refine xd rfl (xZ R B B hB (by omega) o2) Tryz.func91 (xa rfl) hfr ?_;refine xn ?_;refine RV.done ?_;exact⟨⟨(m,b,bA R),o4,hb,by show (bA R).length<=_; omega,tb,aBr R,o2⟩,aZ.mk ⟨aB _,aB _,trivial⟩ rfl rfl,by show (bA R).length<b.length; omega⟩
 ·refine CV.exit ?_;refine CV.seq ?_;have hX:=aQy hs (by have:=of_decide_eq_false hc; omega);subst hX;refine CV.region rfl (fun h=>nomatch h) ?_;refine xm ?_;refine xn ?_;refine RV.done ?_;refine CV.ret ?_;exact aQ rfl (.inr rfl) rfl cE
end
section
variable (p G U R:List Rat) (B:Nat) (hB1:1<=B) (hB:B<=100000) (hp:p.length<=1000) (tp:aI p=p) (h0:aG (cJ p) B=true) (h1:pD B p (cJ p)=some G) (tG:aI G=G) (hG:G.length<=1000) (zG:aG G B=true) (h2:dV B p G=some (U,R)) (tU:aI U=U) (hU:U.length<=1000) (hm:aG (bA U) B=true)
include hB1 hB hp tp h0 h1 tG hG zG h2 tU hU hm
theorem aPp:aD Tryz.prog 43 [PL p B] (.one (PL (bA U) B)):=by
 have hdl:(cJ p).length<=p.length-1:=(by unfold cJ; exact Nat.le_trans (iH _) (by rw[eW]; exact Nat.le_refl _))
 refine aD.of (n:=16) Tryz.func43 rfl rfl rfl rfl rfl fun cx hfr=>?_;refine sr rfl ?_;refine xn ?_;refine RV.done (sr rfl ?_);refine xm ?_;refine xm ?_;refine xm ?_;refine xd rfl ((aF3 p B (by omega) (by omega)).mono (fun _ _ _ _ h=>h) (dG h0)) Tryz.func44 (xa rfl) hfr ?_;refine xd rfl (aQ6 p (cJ p) G B hB1 hB hp (by omega) h1) Tryz.func90 (xb rfl rfl) hfr ?_;refine xc (aCi p G B hB1 hB hp hG tp tG zG h2) Tryz.func45 (xb rfl rfl) hfr ?_;refine xm ?_;refine p1 (cL) ?_;refine p1 (cL) ?_;refine xn ?_;refine xn ?_;refine RV.done ?_;refine CV.seq ?_;rw[tU];refine CV.region rfl (fun h=>nomatch h) ?_;refine xm ?_;refine xd rfl (xZ U B B hB (by omega) hm) Tryz.func91 (xa rfl) hfr ?_;refine xn ?_;refine RV.done ?_;refine CV.ret ?_;exact aQ rfl (.inr rfl) rfl cE
end
end Vc
end Go.Proofs.YtjmbkipbmbnhjaaGreat

namespace Go.Proofs.YtjmbkipbmbnhjaaGreat
open Go.RowKit
open Dg Zn
namespace Vc
section
variable {cx:Cx Dm} {n:Nat} {σ:St Dm} {o:Oper} {d:Nat} {x:Operand}
end
end Vc
end Go.Proofs.YtjmbkipbmbnhjaaGreat

namespace Go.Proofs.YtjmbkipbmbnhjaaGreat
open Go.RowKit
open Go.Lib (hid)
open Dg Zn
namespace Vc
def aYj (p q:Int):Bool:=decide (q=0\/(0<=q/\q≠1/\Int.gcd p q=1))
section
variable (f g:Nat->Int) (K n m:Nat) (hK:K<=1000000) (hn:n<=1000000) (hm:m<n) (hbad:aYj (f m) (g m)=false)
include hK hn hm hbad
end
theorem aJp {zs:List Int}:∀ L ρ w v,(SA.d (Dm.ints zs)).is L ρ w v->(ZI .i64 zs).is L ρ w v:=by
 intro L ρ w v h w' hw;obtain⟨_,ao,cap,e,h1,h2,h3⟩:=h w' hw;refine⟨ao,cap,by rw[lF]; exact e,by rw[lF]; exact⟨h1,h2⟩,fun hl=>?_⟩;rw[lF] at hl;obtain⟨b,off,e2,h4⟩:=h3 hl;refine⟨b,off,e2,_,aKm,fun j u hj=>?_⟩;obtain⟨hj1,hj2⟩:=List.getElem?_eq_some_iff.1 hj;rw[List.length_map] at hj1;rw[h4 j hj1,<- hj2,List.getElem_map,List.getD_eq_getElem?_getD,List.getElem?_eq_getElem hj1];rfl
section
variable (zs:List Int) (hz:∀ z∈zs,-9223372036854775808<=z/\z<=9223372036854775807) (c:Int) (hc1 : -9223372036854775808<=c) (hc2:c<=9223372036854775807)
include hz hc1 hc2
end
end Vc
end Go.Proofs.YtjmbkipbmbnhjaaGreat

namespace Go.Proofs.YtjmbkipbmbnhjaaGreat
open Go.RowKit
open Dg Zn
namespace Vc
/-! The reference's polynomials are small. -/
theorem tI (z:Int):∃ y:Int,bW z*((12:Int):Rat)=(y:Rat)/\y.natAbs<=2^7:=by
 obtain⟨⟨a1,a2⟩,_,b1,b2⟩:=small_facts z;unfold bW;have ha:((eK z 105).tmod 15-7).natAbs<=8:=by omega
 generalize (eK z 105).tmod 15-7=a at ha |-;generalize ((eK z 105).tdiv 15).tmod 4=b at b1 b2 |-;have key:∀ d e:Int,d*e=12->d≠0->e.natAbs<=12->∃ y:Int,Rat.divInt a d*((12:Int):Rat)=(y:Rat)/\y.natAbs<=2^7:=fun d e h1 h2 h3=>by
  refine⟨a*e,?_,?_⟩
  ·rw[Rat.divInt_eq_div,Rat.div_def,<- h1,Rat.intCast_mul,Rat.intCast_mul];have:=Rat.mul_inv_cancel _ (oY h2);grind
  ·rw[Int.natAbs_mul];exact Nat.le_trans (Nat.mul_le_mul ha h3) (by decide)
 rcases (by omega:b=0\/b=1\/b=2\/b=3) with rfl | rfl | rfl | rfl
 ·exact key 1 12 rfl (by decide) (by decide)
 ·exact key 2 6 rfl (by decide) (by decide)
 ·exact key 3 4 rfl (by decide) (by decide)
 ·exact key 4 3 rfl (by decide) (by decide)
theorem aE1 {m:Int} {p:List Rat} {e:Nat} (h:∀ a∈p,∃ y:Int,a*(m:Rat)=(y:Rat)/\y.natAbs<=2^e):Cm m p e:=fun k=>by
 rcases Nat.lt_or_ge k p.length with hk | hk
 ·rw[List.getD_eq_getElem?_getD,List.getElem?_eq_getElem hk];exact h _ (List.getElem_mem hk)
 ·rw[dC hk];exact⟨0,by rw[Rat.zero_mul]; rfl,Nat.zero_le _⟩
theorem aEf {p:List Rat} {e:Nat} (h:Cb p e):Cb (aI p) e:=h.ext (yI p)
theorem aXj (zs:List Int) (i n:Nat):Cb (aI (eC zs i n)) 7:=by
 refine aEf ⟨12,by decide,by decide,aE1 fun a ha=>?_⟩;have h1:∃ y:Int,Rat.divInt 1 1*((12:Int):Rat)=(y:Rat)/\y.natAbs<=2^7:=⟨12,by rw[show Rat.divInt 1 1=1 by decide +kernel,Rat.one_mul],by decide⟩
 unfold eC at ha;split at ha
 ·simp only[List.mem_cons,List.not_mem_nil,or_false] at ha;rcases ha with rfl | rfl | rfl
  ·exact tI _
  ·exact tI _
  ·exact h1
 ·simp only[List.mem_cons,List.not_mem_nil,or_false] at ha;rcases ha with rfl | rfl
  ·obtain⟨y,y1,y2⟩:=tI (zs.getD i 0);exact⟨-y,by rw[Rat.intCast_neg,<- y1]; grind,by rw[Int.natAbs_neg]; exact y2⟩
  ·exact h1
theorem Cb.rmul {p q:List Rat} {c d t:Nat} (hp:Cb p c) (hq:Cb q d) (ht:p.length+q.length<=2^t):Cb (iM p q) (c+d+t):=(hp.mul hq ht).ext fun k=>wG (fun x=>by rw[aD9,nY]) k
theorem aI9 (zs:List Int):∀ m,m<=3->Cb (cK zs m) (3+10*m)
 | 0,_=>by
  refine aEf ⟨1,by decide,by decide,aE1 fun a ha=>?_⟩;obtain rfl:=List.mem_singleton.1 ha;obtain⟨h1,h2⟩:=aAi zs 1 5 (by decide);refine⟨1+iO zs 1 5,?_,by omega⟩;rw[lI];exact mW _
 | m+1,h=>by
  have h1:=aI9 zs m (by omega);have h2:=(nK zs m).1;have h3:=iH (eC zs (m+2) (cK zs m).length);have h4:=rG zs (m+2) (cK zs m).length;rw[cK];exact(h1.rmul (aXj zs (m+2) (cK zs m).length) (t:=3) (by omega)).mono (by omega)
theorem aTi (zs:List Int):Cb (kC zs) 33:=by
 unfold kC;split
 ·refine(aEf ⟨12,by decide,by decide,aE1 (e:=7) fun a ha=>?_⟩).mono (by decide);unfold tab at ha;obtain⟨k,_,rfl⟩:=List.mem_map.1 ha;exact tI _
 ·exact(aI9 zs _ (by omega)).mono (by omega)
theorem aRb (zs:List Int):(kC zs).length<=6:=by
 unfold kC;split
 ·refine Nat.le_trans (iH _) ?_;rw[eW];omega
 ·have h:∀ m,m<=3->(cK zs m).length<=6:=fun m hm=>by
   rcases (by omega:m<=2\/m=3) with h | h
   ·have:=(nK zs m).1;omega
   ·subst h;rw[cK];have h1:=aCf (cK zs 2) (aI (eC zs (2+2) (cK zs 2).length));have h2:=(nK zs 2).1;have h3:=iH (eC zs (2+2) (cK zs 2).length);have h4:(eC zs (2+2) (cK zs 2).length).length=2:=by
     unfold eC;rw[if_neg (by omega)];rfl
    omega
  exact h _ (by omega)
/-! Polynomials with the bits of their numbers and their length. -/
structure Pk (p:List Rat) (e n:Nat):Prop where
 cb:Cb p e
 tr:aI p=p
 len:p.length<=n
theorem aK3 (zs:List Int):Pk (kC zs) 33 6:=⟨aTi zs,aPs zs,aRb zs⟩
theorem Pk.nil:Pk [] 0 0:=⟨Cb.nil 0,rfl,Nat.le_refl _⟩
theorem Pk.sz {p:List Rat} {e n B:Nat} (h:Pk p e n) (hB:1<=B) (he:e<=29*B):aG p B=true:=h.cb.sz hB he
theorem Pk.mono {p:List Rat} {e n e' n':Nat} (h:Pk p e n) (he:e<=e') (hn:n<=n'):Pk p e' n':=⟨h.cb.mono he,h.tr,Nat.le_trans h.len hn⟩
theorem aXi:eD (-1) 0:=⟨-1,1,by decide,by rw[lI]; rfl,by decide,by decide⟩
theorem aTw (p q:List Rat):(cW p q).length<=p.length+q.length-1:=by
 unfold cW;refine Nat.le_trans (iH _) ?_;rw[eW];exact Nat.le_refl _
theorem Pk.mul {p q:List Rat} {c d n m:Nat} (t:Nat) (hp:Pk p c n) (hq:Pk q d m) (ht:n+m<=2^t):Pk (cW p q) (c+d+t) (n+m-1):=by
 have h1:=aTw p q;have h2:=hp.len;have h3:=hq.len;exact⟨hp.cb.mul hq.cb (by omega),cN _,by omega⟩
theorem uZ (p:List Rat):(cJ p).length<=p.length-1:=by
 unfold cJ;exact Nat.le_trans (iH _) (by rw[eW]; exact Nat.le_refl _)
theorem Pk.derive {p:List Rat} {c n:Nat} (t:Nat) (hp:Pk p c n) (ht:n<=2^t):Pk (cJ p) (c+t) (n-1):=by
 have h1:=uZ p;have h2:=hp.len;exact⟨hp.cb.derive (by omega),cN _,by omega⟩
theorem aVi (p q:List Rat):iM p q=cW p q:=mF (aGl p q) (cN _) fun x=>by rw[aD9,nY]
/-! Contracts. -/
section
variable {p q:List Rat} {c d n m:Nat}
theorem aW1 (zs:List Int) (hz:∀ z∈zs,-9223372036854775808<=z/\z<=9223372036854775807):aD Tryz.prog 9 [ZI .i64 zs] (.one (PL (kC zs) 10)):=(aQ3 zs hz).mono (fun _ _ _ _ h=>h) (dG ((aK3 zs).sz (by decide) (by decide)))
end
end Vc
end Go.Proofs.YtjmbkipbmbnhjaaGreat

namespace Go.Proofs.YtjmbkipbmbnhjaaGreat
open Go.RowKit
open Go.Lib (hid)
open Dg Zn
namespace Vc
set_option maxRecDepth 100000
theorem aIj {B:Nat} {q:List Rat}:∀ {n:Nat} {u:List (Option Rat)} {r:List Rat} {X:List (Option Rat) × List Rat},kJ B q n u r=some X->X.2.length<q.length
 | 0,_,_,_,h=>nomatch h
 | n+1,u,r,X,h=>by
  rw[kJ] at h;split at h
  ·split at h
   ·exact aIj h
   ·cases h
  ·rename_i hl;injection h with h;subst h;show r.length<q.length;omega
theorem aIh {B:Nat} {p q U R:List Rat} (h:dV B p q=some (U,R)) (h0:q≠[]):R.length<q.length:=by
 unfold dV at h;rw[if_neg h0] at h;obtain⟨X,h1,h2⟩:=Option.map_eq_some_iff.1 h;obtain⟨_,rfl⟩:=Prod.mk.inj h2;exact aIj h1
theorem aCy {B:Nat} {p R:List Rat} {t T:Rat} (h:gV B p t=some (R,T)):R.length<=p.length:=by
 unfold gV at h;split at h
 ·rename_i h0;injection h with h;obtain⟨rfl,_⟩:=Prod.mk.inj h;exact Nat.zero_le _
 ·obtain⟨D,_,h⟩:=Option.bind_eq_some_iff.1 h;split at h
  ·injection h with h;obtain⟨rfl,_⟩:=Prod.mk.inj h;exact mN _ _
  ·cases h
theorem aUr {B:Nat} {a b z:List Rat × Rat} (h:oD B a b=some z) (h0:b.1≠[]):z.1.length<b.1.length:=by
 unfold oD at h;obtain⟨f,_,h⟩:=Option.bind_eq_some_iff.1 h;split at h
 ·obtain⟨⟨U,R0⟩,h3,h⟩:=Option.bind_eq_some_iff.1 h;have h1:=aIh h3 h0;have h2:=aCy (R:=z.1) (T:=z.2) h;show z.1.length<_;exact Nat.lt_of_le_of_lt h2 h1
 ·cases h
theorem aSb {B:Nat} {a b z:List Rat × Rat} (hB:B<=300000) (hp:a.1.length<=1000000) (hq:b.1.length<=1000000) (hq0:b.1≠[]) (h0:aG [(1:Rat)] B=true) (h:oD B a b=some z):aD Tryz.prog 97 [EL a.1 B a.2 B,EL b.1 B b.2 B] (.one (EL z.1 B z.2 B)) :=
 aSa a.1 b.1 z.1 a.2 b.2 z.2 B hB hp hq hq0 h0 h fun U R0 f q=>by
  have:=aIh q hq0;omega
def lA (B:Nat):Nat->List (List Rat × Rat)->List Rat × Rat->Option (List (List Rat × Rat))
 | 0,_,_=>none
 | n+1,l,nx=>if 0<nx.1.length then (oD B (l.getD (l.length-1) ([],0)) nx).bind fun z=>lA B n (l++[nx]) z else some l
theorem aUg {B n:Nat} {l R:List (List Rat × Rat)} {nx:List Rat × Rat} (h:lA B n l nx=some R) (hl:0<nx.1.length):∃ m z,oD B (l.getD (l.length-1) ([],0)) nx=some z/\lA B m (l++[nx]) z=some R:=by
 cases n with
 | zero=>cases h
 | succ n =>
  rw[lA,if_pos hl] at h;obtain⟨z,h1,h2⟩:=Option.bind_eq_some_iff.1 h;exact⟨n,z,h1,h2⟩
theorem aWd {B n:Nat} {l R:List (List Rat × Rat)} {nx:List Rat × Rat} (h:lA B n l nx=some R) (hl:¬ 0<nx.1.length):R=l:=by
 cases n with
 | zero=>cases h
 | succ n =>
  rw[lA,if_neg hl] at h;injection h with h;exact h.symm
def gC (l:List (List Rat × Rat)) (B:Nat):List (SA Dm):=l.map fun e=>EL e.1 B e.2 B
abbrev uS (l:List (List Rat × Rat)) (B:Nat):SA Dm:=.d (Dm.gen (bO (some 5) (gC l B)))
theorem nL {l:List (List Rat × Rat)} {B:Nat}:(gC l B).length=l.length:=by simp[gC]
theorem aE0 {l:List (List Rat × Rat)} {B i:Nat} (h:i<l.length):(gC l B)[i]?=some (EL (l.getD i ([],0)).1 B (l.getD i ([],0)).2 B):=by
 simp[gC,List.getD_eq_getElem?_getD,List.getElem?_eq_getElem h]
theorem aDg {l:List (List Rat × Rat)} {B:Nat}:(gC l B).flatMap SA.ptrs=[]:=by
 rw[List.flatMap_eq_nil_iff];intro s hs;obtain⟨e,_,rfl⟩:=List.mem_map.1 hs;rfl
theorem aB8 {l m:List (List Rat × Rat)} {B:Nat}:gC (l++m) B=gC l B++gC m B:=by simp[gC]
theorem aIf {l:List (List Rat × Rat)} {B:Nat}:∀ s∈gC l B,s.plain=true:=by
 intro s hs;obtain⟨e,_,rfl⟩:=List.mem_map.1 hs;rfl
theorem aJx {l:List (List Rat × Rat)} {B:Nat}:∀ s∈gC l B,s.kind=some (some 5):=by
 intro s hs;obtain⟨e,_,rfl⟩:=List.mem_map.1 hs;rfl
theorem aM6:(Tryz.prog.info? 72).map (fun i=>(i.size,i.zero))=some (5,some (.agg #[.slice none 0 0,.bool false,.slice none 0 0,.bool false,.slice none 0 0])):=by kernel_rfl
theorem aXg:(Tryz.prog.info? 72).map (fun i=>(i.zero,i.size,i.bytes))=some (some (.agg #[.slice none 0 0,.bool false,.slice none 0 0,.bool false,.slice none 0 0]),5,88):=by kernel_rfl
def aA2 (l:List (List Rat × Rat)):Prop:=0<l.length/\∀ e∈l,e.1.length<=1000
theorem aR3 {l:List (List Rat × Rat)} (h:aA2 l):(l.getD (l.length-1) ([],0)).1.length<=1000:=by
 have h0:=h.1;refine h.2 _ ?_;rw[List.getD_eq_getElem?_getD,List.getElem?_eq_getElem (by omega)];exact List.getElem_mem _
theorem aR2 {l:List (List Rat × Rat)} {e:List Rat × Rat} (h:aA2 l) (he:e.1.length<=1000):aA2 (l++[e]):=by
 refine⟨by rw[List.length_append]; have:=h.1; omega,fun x hx=>?_⟩;rcases List.mem_append.1 hx with q | q
 ·exact h.2 x q
 ·rw[List.mem_singleton.1 q]; exact he
section
variable (p F:List Rat) (a b:List Rat × Rat) (L:List (List Rat × Rat)) (B n:Nat) (hB:B<=300000) (hp:p.length<=1000000) (hF:kW B p=some F) (hl:F.length<=1000) (hF0:F≠[]) (h0:aG [(1:Rat)] B=true) (h1:gV B F 1=some a) (h2:aG (cJ F) B=true) (h3:gV B (cJ F) 1=some b) (h4:lA B n [a] b=some L)
include hB hp hF hl hF0 h0 h1 h2 h3 h4
theorem aN8:aD Tryz.prog 48 [PL p B] (.one (uS L B)):=by
 have e11:Rat.divInt 1 1=1:=by decide
 have hFl:=List.length_pos_iff.2 hF0;have hdl:=uZ F;have hal:a.1.length<=1000:=(by have:=aCy (R:=a.1) (T:=a.2) h1; omega)
 have hbl:b.1.length<=1000:=(by have:=aCy (R:=b.1) (T:=b.2) h3; omega)
 refine aD.of (n:=39) Tryz.func48 rfl rfl rfl rfl rfl fun cx hfr=>?_;refine sr rfl ?_;refine xn ?_;refine RV.done (sr rfl ?_);refine xm ?_;refine xc (aCs p F B hB hp hF) Tryz.func94 (xa rfl) hfr ?_;refine xn ?_;refine RV.done ?_;refine CV.seq ?_;refine sr rfl ?_;refine xm ?_;refine p1 (bH aV bC) ?_;refine p1 (cQ) ?_;refine RV.done ?_;refine CV.cond rfl (fun hc=>False.elim (by have:=of_decide_eq_true hc; omega)) (fun hc=>?_);refine CV.skip ?_;refine sr rfl ?_;refine xd rfl ((oZ 1 1 (by decide) (by decide) (by decide) (by decide)).mono (fun _ _ _ _ h=>h) (fun L ρ w v h=>dR h0 L ρ w v (rW e11 L ρ w v h))) Tryz.func57 (xb rfl rfl) hfr ?_;refine p2 (aU (i:=0) bY) ?_;refine p1 (aP (aC).2) ?_;refine RV.done (sr rfl ?_);refine xm ?_;refine p1 (aJ aC) ?_;refine xd rfl (aBy F 1 B a.1 a.2 hB (by omega) h1) Tryz.func95 (xb rfl rfl) hfr ?_;refine p2 (aK6 (r:=200) (k:=some 5) (xs:=[.tmp 15]) (ss:=gC [a] B) pC aM6 rfl rfl rfl aJx aIf aDg rfl rfl bd (xa rfl) rfl rfl) ?_;refine xn ?_;refine RV.done ?_;refine CV.seq ?_;refine CV.seq ?_;refine CV.region rfl (fun _=>by kernel_rfl) ?_;refine xm ?_;refine xd rfl ((aGh F B (by omega) (by omega)).mono (fun _ _ _ _ h=>h) (dG h2)) Tryz.func96 (xa rfl) hfr ?_;refine p1 (aJ aC) ?_;refine xd rfl (aBy (cJ F) 1 B b.1 b.2 hB (by omega) h3) Tryz.func95 (xb rfl rfl) hfr ?_;refine p2 (aU (i:=1) rI) ?_;refine p1 (aP (iU).2) ?_;refine bQ (by kernel_rfl) ?_;refine CV.block ?_;refine CV.loop (X:={z:Nat × List (List Rat × Rat) × (List Rat × Rat) // lA B z.1 z.2.1 z.2.2=some L/\aA2 z.2.1/\z.2.2.1.length<=1000/\z.2.1.length+z.2.2.1.length<=1001}) (fun z=>[(.s 5,.av (.one (.sl 200 (gC z.1.2.1 B).length))),(.b 200,.row 72 (some 5) (gC z.1.2.1 B)),(.s 6,.av (.one (.ptr 1 0))),(.b 1,.blk 72 [(some 5,EL z.1.2.2.1 B z.1.2.2.2 B)])]) (fun z=>z.1.2.2.1.length) ⟨(n,[a],b),h4,⟨Nat.zero_lt_succ _,fun e he=>by rw[List.mem_singleton.1 he]; exact hal⟩,hbl,by show 1+b.1.length<=1001; omega⟩ (aZ.mk ⟨aB _,aB _,aB _,aB _,trivial⟩ rfl rfl) (fun z=>?_);obtain⟨⟨n,l,nx⟩,hs,hok,hnx,hln⟩:=z;simp only at hs hok hnx hln |-;refine CV.seq ?_;refine sr rfl ?_;refine p1 (bI qG) ?_;refine p1 (bJ 0 qD cT) ?_;refine p1 (bH aV bC) ?_;refine p1 (gH) ?_;refine RV.done ?_;refine CV.cond rfl (fun hc=>?_) (fun hc=>?_)
 ·have hlt:0<nx.1.length:=(by have:=of_decide_eq_true hc; omega)
  have hn0:=List.length_pos_iff.1 hlt;obtain⟨m,z,o1,o2⟩:=aUg hs hlt;have hzl:=aUr o1 hn0;have hok0:=hok.1;have hla:=aR3 hok;have eg:(l++[nx]).getD (l.length-1) ([],0)=l.getD (l.length-1) ([],0):=(by simp only[List.getD_eq_getElem?_getD]; rw[List.getElem?_append_left (by omega)])
  refine CV.skip ?_;refine CV.seq ?_;refine CV.block ?_;refine CV.region rfl (fun h=>nomatch h) ?_;refine xm ?_;refine p1 (aJ iU) ?_;refine p1 (dY (k:=some 5) (xs:=[.tmp 34]) (ss:=gC [nx] B) (G:=Dm.gen (bO (some 5) (gC [nx] B))) (cG _ _) pC aM6 rfl rfl rfl aJx aDg rfl rfl bd (xa rfl)) ?_;refine fX (aM.plain (iJ (r:=200) (r':=201) (k:=some 5) (fS (by decide) aDg) (by rw[nL,nL]; simp; omega) (by rw[nL,nL]; simp; omega) pC aXg rfl rfl rfl aIf rfl rfl rfl bd rfl rfl rfl rfl rfl rfl rfl rfl) rfl) ?_;refine xn ?_;refine RV.done ?_;refine CV.seq ?_;refine sr rfl ?_;refine p1 (aJ iU) ?_;refine RV.done ?_;refine CV.region rfl (fun h=>nomatch h) ?_;refine p2 (aU (i:=2) rI) ?_;refine p1 (aP (iU).2) ?_;refine RV.done ?_;refine CV.region rfl (fun _=>by kernel_rfl) ?_;refine xm ?_;refine xm ?_;refine p1 (mQ pC) ?_;refine p1 (dM (c:=((l.length-1:Nat):Int)) (by rw[nL,nL,List.length_singleton,bF (by omega) (by omega)]; omega) rfl rfl bd rfl rfl) ?_;refine p1 (mR (i:=l.length-1) (m:=(gC l B).length+(gC [nx] B).length) (l:=gC l B++gC [nx] B) (by rw[nL,nL]; omega) (by rw[List.length_append]; exact Nat.le_refl _) pC aFa rfl rfl bd rfl rfl rfl) ?_;refine p1 (tL (i:=l.length-1) (by rw[<- aB8]; exact aE0 (by rw[List.length_append]; omega)) rfl iU (by decide) rfl rfl bd rfl rfl) ?_;refine p1 (aJ iU) ?_;refine xd rfl (aSb (a:=(l++[nx]).getD (l.length-1) ([],0)) hB (by rw[eg]; omega) (by omega) hn0 h0 (by rw[eg]; exact o1)) Tryz.func97 (xb rfl rfl) hfr ?_;refine p1 (aP (iU).2) ?_;refine bQ (by kernel_rfl) ?_;exact⟨⟨(m,l++[nx],z),o2,aR2 hok hnx,by show z.1.length<=1000; omega,by show (l++[nx]).length+z.1.length<=1001; rw[List.length_append]; show l.length+1+z.1.length<=1001; omega⟩,jI (fun i=>if i=200 then 201 else if i=1 then 2 else i) ⟨jV rfl (by rw[aB8,List.length_append]),eE aB8.symm,fun _ _ _ _ h=>h,⟨rfl,fun _ _ _ _ h=>h⟩,trivial⟩ rfl rfl rfl rfl,hzl⟩
 ·refine CV.exit ?_;refine CV.seq ?_;have hL:=aWd hs (by have:=of_decide_eq_false hc; omega);subst hL;refine iK (r:=200) (t:=5) (G:=Dm.gen (bO (some 5) (gC L B))) (cx.bw hfr) rfl rfl rfl rfl rfl (cG _ _) (gR _ _) ?_;refine CV.region rfl (fun h=>nomatch h) ?_;refine xm ?_;refine xn ?_;refine RV.done ?_;refine CV.ret ?_;exact aQ rfl (.inr rfl) rfl cE
end
theorem aV0 {B:Nat}:∀ (L:Nat->Prop) (ρ:aR) (w:World) (v:Value),(SA.v (.slice none 0 0):SA Dm).is L ρ w v->(AV.one (uS [] B)).is L ρ w v:=by
 intro L ρ w v h w' _;obtain rfl:v=_:=h;exact⟨none,0,rfl,⟨Nat.le_refl _,by decide⟩,fun h=>absurd h (Nat.lt_irrefl 0)⟩
theorem aN9 (p:List Rat) (B:Nat) (hB:B<=300000) (hp:p.length<=1000000) (hF:kW B p=some []):aD Tryz.prog 48 [PL p B] (.one (uS [] B)):=by
 refine aD.of (n:=39) Tryz.func48 rfl rfl rfl rfl rfl fun cx hfr=>?_;refine sr rfl ?_;refine xn ?_;refine RV.done (sr rfl ?_);refine xm ?_;refine xc (aCs p [] B hB hp hF) Tryz.func94 (xa rfl) hfr ?_;refine xn ?_;refine RV.done ?_;refine CV.seq ?_;refine sr rfl ?_;refine xm ?_;refine p1 (bH (m:=0) rfl bC) ?_;refine p1 (cQ) ?_;refine RV.done ?_;refine CV.cond rfl (fun hc=>?_) (fun hc=>False.elim (by revert hc; decide));refine sr rfl ?_;refine xn ?_;refine RV.done ?_;refine CV.ret ?_;exact aQ rfl (.inr rfl) rfl aV0
def lQ (B:Nat) (p:List Rat):Option (List (List Rat × Rat)) :=
 (kW B p).bind fun F=>if F=[] then some [] else if (aG [(1:Rat)] B&&(aG (cJ F) B&&decide (F.length<=1000)))=true then (gV B F 1).bind fun a=>(gV B (cJ F) 1).bind fun b=>lA B (F.length+2) [a] b else none
theorem aF7 (p:List Rat) (L:List (List Rat × Rat)) (B:Nat) (hB:B<=300000) (hp:p.length<=1000000) (h:lQ B p=some L):aD Tryz.prog 48 [PL p B] (.one (uS L B)):=by
 unfold lQ at h;obtain⟨F,h1,h⟩:=Option.bind_eq_some_iff.1 h;split at h
 ·rename_i h0;injection h with h;subst h0; subst h;exact aN9 p B hB hp h1
 ·rename_i h0;split at h
  ·rename_i h2;rw[Bool.and_eq_true,Bool.and_eq_true,decide_eq_true_eq] at h2;obtain⟨a,h3,h⟩:=Option.bind_eq_some_iff.1 h;obtain⟨b,h4,h⟩:=Option.bind_eq_some_iff.1 h;exact aN8 p F a b L B (F.length+2) hB hp h1 h2.2.2 h0 h2.1 h3 h2.2.1 h4 h
  ·cases h
/-! Lists of polynomials. -/
def dU (l:List (List Rat)) (B:Nat):List (SA Dm):=l.map fun p=>PL p B
abbrev gD (l:List (List Rat)) (B:Nat):SA Dm:=.d (Dm.gen (bO none (dU l B)))
theorem iQ {l:List (List Rat)} {B:Nat}:(dU l B).length=l.length:=by simp[dU]
theorem pV {l:List (List Rat)} {B i:Nat} (h:i<l.length):(dU l B)[i]?=some (PL (l.getD i []) B):=by
 simp[dU,List.getD_eq_getElem?_getD,List.getElem?_eq_getElem h]
theorem oK {l:List (List Rat)} {B:Nat}:(dU l B).flatMap SA.ptrs=[]:=by
 rw[List.flatMap_eq_nil_iff];intro s hs;obtain⟨e,_,rfl⟩:=List.mem_map.1 hs;rfl
theorem sF {l m:List (List Rat)} {B:Nat}:dU (l++m) B=dU l B++dU m B:=by simp[dU]
theorem yF {l:List (List Rat)} {B:Nat}:∀ s∈dU l B,s.plain=true:=by
 intro s hs;obtain⟨e,_,rfl⟩:=List.mem_map.1 hs;rfl
theorem sV {l:List (List Rat)} {B:Nat}:∀ s∈dU l B,s.kind=some none:=by
 intro s hs;obtain⟨e,_,rfl⟩:=List.mem_map.1 hs;rfl
theorem fJ:Tryz.prog.underlying 34=some (.slice 24):=by kernel_rfl
theorem rH:(Tryz.prog.info? 24).map (fun i=>(i.size,i.zero))=some (1,some (.slice none 0 0)):=by kernel_rfl
theorem aDb:(Tryz.prog.info? 24).map (fun i=>(i.zero,i.size,i.bytes))=some (some (.slice none 0 0),1,24):=by kernel_rfl
theorem yC {α β:Type} (f:α -> β) (l:List α) {k:Nat} (h:k<l.length) (d:α):(l.take k).map f++[f (l.getD k d)]=(l.take (k+1)).map f:=by
 rw[List.take_add_one,List.map_append,List.getElem?_eq_getElem h,List.getD_eq_getElem?_getD,List.getElem?_eq_getElem h];rfl
theorem aHl (p:List Rat) (L:List (List Rat × Rat)) (B:Nat) (hB:B<=300000) (hp:p.length<=1000000) (h:lQ B p=some L) (hL:L.length<=1000000):aD Tryz.prog 64 [PL p B] (.one (gD (L.map (·.1)) B)):=by
 refine aD.of (n:=20) Tryz.func64 rfl rfl rfl rfl rfl fun cx hfr=>?_;refine sr rfl ?_;refine xn ?_;refine RV.done (sr rfl ?_);refine xn ?_;refine RV.done ?_;refine CV.seq ?_;refine CV.seq ?_;refine mA 3 100 24 none rfl rfl rfl rfl ?_;refine CV.region rfl (fun h=>nomatch h) ?_;refine xm ?_;refine xc (aF7 p L B hB hp h) Tryz.func48 (xa rfl) hfr ?_;refine p1 (bH nL pC) ?_;refine xm ?_;refine RV.done ?_;refine CV.block ?_;refine CV.loop (X:={k:Nat // k<=L.length}) (fun k=>[(.s 9,.av (.one (.v (.int .i64 (k.1:Int))))),(.s 8,.av (.one (.v (.int .i64 (L.length:Int))))),(.s 7,.av (.one (uS L B))),(.s 3,.av (.one (.sl 100 (dU ((L.take k.1).map (·.1)) B).length))),(.b 100,.row 24 none (dU ((L.take k.1).map (·.1)) B))]) (fun k=>L.length-k.1) ⟨0,Nat.zero_le _⟩ (aZ.mk ⟨aB _,aB _,aB _,aB _,aB _,trivial⟩ rfl rfl) (fun k=>?_);obtain⟨k,hk⟩:=k;simp only;refine sr rfl ?_;refine p1 (cM) ?_;refine RV.done ?_;refine CV.seq ?_;refine CV.cond rfl (fun hc=>?_) (fun hc=>?_)
 ·have hlt:k<L.length:=(by have:=of_decide_eq_true hc; omega)
  refine CV.skip ?_;refine CV.seq ?_;refine CV.block ?_;refine sr rfl ?_;refine p1 (cH (k:=some 5) (i:=k) (aE0 hlt) pC aFa) ?_;refine p1 (bL iU) ?_;refine p2 (aU (i:=0) rI) ?_;refine p1 (aP (iU).2) ?_;refine RV.done ?_;refine CV.region rfl (fun h=>nomatch h) ?_;refine xm ?_;refine p1 (bI qG) ?_;refine p1 (bJ 0 qD cT) ?_;refine p1 (dY (k:=none) (xs:=[.tmp 15]) (ss:=dU [(L.getD k ([],0)).1] B) (G:=Dm.gen (bO none (dU [(L.getD k ([],0)).1] B))) (cG _ _) fJ rH rfl rfl rfl sV oK rfl rfl bd (xa rfl)) ?_;refine fX (aM.plain (iJ (r:=100) (r':=101) (k:=none) (fS (by decide) oK) (by rw[iQ,iQ,List.length_map,List.length_take]; simp; omega) (by rw[iQ,iQ,List.length_map,List.length_take]; simp; omega) fJ aDb rfl rfl rfl yF rfl rfl rfl bd rfl rfl rfl rfl rfl rfl rfl rfl) rfl) ?_;refine xn ?_;refine RV.done ?_;refine CV.region rfl (fun h=>nomatch h) ?_;refine p1 (cC (c:=((k+1:Nat):Int)) (by rw[bF (by omega) (by omega)]; omega) rfl rfl bd rfl rfl) ?_;refine xm ?_;refine RV.done ?_;exact⟨⟨k+1,hlt⟩,jI (fun i=>if i=100 then 101 else i) ⟨eT,eT,fun _ _ _ _ h=>h,jV rfl (by rw[<- yC _ _ hlt ([],0),sF,List.length_append]),eE (by rw[<- yC _ _ hlt ([],0),sF]),trivial⟩ rfl rfl rfl rfl,by show L.length-(k+1)<L.length-k; omega⟩
 ·refine CV.exit ?_;refine CV.seq ?_;have hk2:k=L.length:=(by have:=of_decide_eq_false hc; omega)
  subst hk2;rw[List.take_length];refine iK (r:=100) (t:=3) (G:=Dm.gen (bO none (dU (L.map (·.1)) B))) (cx.bw hfr) rfl rfl rfl rfl rfl (cG _ _) (gR _ _) ?_;refine CV.region rfl (fun h=>nomatch h) ?_;refine xm ?_;refine xn ?_;refine RV.done ?_;refine CV.ret ?_;exact aQ rfl (.inr rfl) rfl cE
theorem aCt (p:List Rat) (L:List (List Rat × Rat)) (B:Nat) (hB:B<=300000) (hp:p.length<=1000000) (h:lQ B p=some L) (hL:L.length<=1000000) (hl:∀ e∈L,e.1.length<=1000000) (hz:∀ e∈L,aG (aT e.1 e.2) B=true):aD Tryz.prog 15 [PL p B] (.one (gD (L.map fun e=>aT e.1 e.2) B)):=by
 refine aD.of (n:=23) Tryz.func15 rfl rfl rfl rfl rfl fun cx hfr=>?_;refine sr rfl ?_;refine xn ?_;refine RV.done (sr rfl ?_);refine xn ?_;refine RV.done ?_;refine CV.seq ?_;refine CV.seq ?_;refine mA 3 100 24 none rfl rfl rfl rfl ?_;refine CV.region rfl (fun h=>nomatch h) ?_;refine xm ?_;refine xc (aF7 p L B hB hp h) Tryz.func48 (xa rfl) hfr ?_;refine p1 (bH nL pC) ?_;refine xm ?_;refine RV.done ?_;refine CV.block ?_;refine CV.loop (X:={k:Nat // k<=L.length}) (fun k=>[(.s 9,.av (.one (.v (.int .i64 (k.1:Int))))),(.s 8,.av (.one (.v (.int .i64 (L.length:Int))))),(.s 7,.av (.one (uS L B))),(.s 3,.av (.one (.sl 100 (dU ((L.take k.1).map fun e=>aT e.1 e.2) B).length))),(.b 100,.row 24 none (dU ((L.take k.1).map fun e=>aT e.1 e.2) B))]) (fun k=>L.length-k.1) ⟨0,Nat.zero_le _⟩ (aZ.mk ⟨aB _,aB _,aB _,aB _,aB _,trivial⟩ rfl rfl) (fun k=>?_);obtain⟨k,hk⟩:=k;simp only;refine sr rfl ?_;refine p1 (cM) ?_;refine RV.done ?_;refine CV.seq ?_;refine CV.cond rfl (fun hc=>?_) (fun hc=>?_)
 ·have hlt:k<L.length:=(by have:=of_decide_eq_true hc; omega)
  have hmem:L.getD k ([],0)∈L:=(by rw[List.getD_eq_getElem?_getD,List.getElem?_eq_getElem hlt]; exact List.getElem_mem _)
  refine CV.skip ?_;refine CV.seq ?_;refine CV.block ?_;refine sr rfl ?_;refine p1 (cH (k:=some 5) (i:=k) (aE0 hlt) pC aFa) ?_;refine p1 (bL iU) ?_;refine p2 (aU (i:=0) rI) ?_;refine p1 (aP (iU).2) ?_;refine RV.done ?_;refine CV.region rfl (fun h=>nomatch h) ?_;refine xm ?_;refine p1 (bI qG) ?_;refine p1 (bJ 0 qD cT) ?_;refine p1 (bI aMu) ?_;refine p1 (bJ 1 aMt aC) ?_;refine xd rfl ((sP (L.getD k ([],0)).1 (L.getD k ([],0)).2 B B (by omega) (by omega) (hl _ hmem)).mono (fun _ _ _ _ h=>h) (dG (hz _ hmem))) Tryz.func38 (xb rfl rfl) hfr ?_;refine p1 (dY (k:=none) (xs:=[.tmp 18]) (ss:=dU [aT (L.getD k ([],0)).1 (L.getD k ([],0)).2] B) (G:=Dm.gen (bO none (dU [aT (L.getD k ([],0)).1 (L.getD k ([],0)).2] B))) (cG _ _) fJ rH rfl rfl rfl sV oK rfl rfl bd (xa rfl)) ?_;refine fX (aM.plain (iJ (r:=100) (r':=101) (k:=none) (fS (by decide) oK) (by rw[iQ,iQ,List.length_map,List.length_take]; simp; omega) (by rw[iQ,iQ,List.length_map,List.length_take]; simp; omega) fJ aDb rfl rfl rfl yF rfl rfl rfl bd rfl rfl rfl rfl rfl rfl rfl rfl) rfl) ?_;refine xn ?_;refine RV.done ?_;refine CV.region rfl (fun h=>nomatch h) ?_;refine p1 (cC (c:=((k+1:Nat):Int)) (by rw[bF (by omega) (by omega)]; omega) rfl rfl bd rfl rfl) ?_;refine xm ?_;refine RV.done ?_;exact⟨⟨k+1,hlt⟩,jI (fun i=>if i=100 then 101 else i) ⟨eT,eT,fun _ _ _ _ h=>h,jV rfl (by rw[<- yC (fun e:List Rat × Rat=>aT e.1 e.2) _ hlt ([],0),sF,List.length_append]),eE (by rw[<- yC (fun e:List Rat × Rat=>aT e.1 e.2) _ hlt ([],0),sF]),trivial⟩ rfl rfl rfl rfl,by show L.length-(k+1)<L.length-k; omega⟩
 ·refine CV.exit ?_;refine CV.seq ?_;have hk2:k=L.length:=(by have:=of_decide_eq_false hc; omega)
  subst hk2;rw[List.take_length];refine iK (r:=100) (t:=3) (G:=Dm.gen (bO none (dU (L.map fun e=>aT e.1 e.2) B))) (cx.bw hfr) rfl rfl rfl rfl rfl (cG _ _) (gR _ _) ?_;refine CV.region rfl (fun h=>nomatch h) ?_;refine xm ?_;refine xn ?_;refine RV.done ?_;refine CV.ret ?_;exact aQ rfl (.inr rfl) rfl cE
end Vc
end Go.Proofs.YtjmbkipbmbnhjaaGreat
