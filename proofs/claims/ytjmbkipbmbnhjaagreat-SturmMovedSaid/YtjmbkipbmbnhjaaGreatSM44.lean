/-
  
-/
import Derived.Test.YtjmbkipbmbnhjaaGreatSM43
import Derived.Test.YtjmbkipbmbnhjaaGreatSM41
import Derived.Test.YtjmbkipbmbnhjaaGreatSM40
import Derived.Test.YtjmbkipbmbnhjaaGreatSM9
import Derived.Test.YtjmbkipbmbnhjaaGreatSM32
set_option linter.unusedVariables false
set_option linter.unusedSimpArgs false
set_option linter.unusedSectionVars false
namespace Go.Proofs.YtjmbkipbmbnhjaaGreat
open Go.RowKit Go.Shelf
open Dg Zn
namespace Vc
attribute [local go_sem] Oper.semAt_some
def iE (n B:Nat) (W W':World):Prop:=W.heap.size<=W'.heap.size/\∀ b,b<n->b≠B->W'.heap[b]?=W.heap[b]?
theorem iE.refl (n B:Nat) (W:World):iE n B W W:=⟨Nat.le_refl _,fun _ _ _=>rfl⟩
theorem iE.trans {n B:Nat} {X Y Z:World} (h:iE n B X Y) (k:iE n B Y Z):iE n B X Z:=⟨Nat.le_trans h.1 k.1,fun b hb hne=>(k.2 b hb hne).trans (h.2 b hb hne)⟩
theorem iE.put {n B:Nat} {w:World} (hn:n<=w.heap.size) (W:World) (l:Nat) (o o':Obj) (hl:w.heap.size<=l) (_:W.heap[l]?=some o) (_:o.isCells=false) (_:o.isWalk=false):iE n B W (W.putObj l o') :=
 ⟨by simp,fun b hb _=>World.putObj_heap_other (by omega)⟩
def qP (len:Nat) (V:Nat->Value) (k:Nat):Array Value:=#[.int .i64 ((len-1-k:Nat):Int),V (len-1-k)]
theorem aHv {len cap Bs b off B n:Nat} {ao:Option Addr} {C:Nat->Nat->Value} {w1:World} (hn:1<=n) (hao:0<len->ao=some ⟨b,off,none⟩) (hreach:len<=1000000) (hBs:w1.cell? ⟨Bs,0,none⟩=some (.slice ao len cap)) (hBB:Bs≠B)
  (hc:0<len->b≠B/\∀ j,j<len->w1.cell? ⟨b,off+j*4,none⟩=some (C j 0)/\w1.cell? ⟨b,off+j*4+1,none⟩=some (C j 1)/\w1.cell? ⟨b,off+j*4+2,none⟩=some (C j 2)/\w1.cell? ⟨b,off+j*4+3,none⟩=some (C j 3)) :
  SeqStopsK Fence.wide n Tryz.prog 130 #[.pointer (some ⟨Bs,0,none⟩)] (qP len fun j=>.agg #[C j 0,C j 1,C j 2,C j 3]) (iE w1.heap.size B) (fun ys=>ys=eL id len) (fun pre=>∃ k,k<=len/\pre=eL id k) len w1:=by
 intro l J Jx W hW _ _ hY h0;have hk:∀ wr,iE w1.heap.size B W wr->∀ c o u,c≠B->w1.cell? ⟨c,o,none⟩=some u->wr.cell? ⟨c,o,none⟩=some u:=by
  intro wr hwr c o u hcB hu;have hl:=uB hu;exact(World.cell?_of_block ((hwr.2 c hl hcB).trans (hW.block c hl))).trans hu
 exact aU4 Fence.wide n trivial rfl hn l Bs b off len cap ao hao (iE w1.heap.size B) iE.trans C hreach id (qP len fun j=>.agg #[C j 0,C j 1,C j 2,C j 3]) (fun _ _=>rfl) J Jx hY W (iE.refl _ _ _) (fun wr hwr=>hk wr hwr Bs 0 _ hBB hBs)
  (fun wr hwr j hj=>by
   obtain⟨hbB,hcs⟩:=hc (by omega);obtain⟨q0,q1,q2,q3⟩:=hcs j hj;exact⟨hk wr hwr _ _ _ hbB q0,hk wr hwr _ _ _ hbB q1,hk wr hwr _ _ _ hbB q2,hk wr hwr _ _ _ hbB q3⟩) h0
structure mK (w w1:World) (L:Nat->Prop) (B:Nat) (k:Option Nat) (T:TypeId) (s:SA Dm) (W:World):Prop where
 below:Below w.heap.size w W
 size:w1.heap.size<=W.heap.size
 same:∀ b,b<w1.heap.size->b≠B->W.heap[b]?=w1.heap[b]?
 var:∃ v,∃ cs:List Value,W.heap[B]?=some (.cells cs.toArray T (0,0))/\Shaped k v cs/\iI L W s v/\∀ c∈cs,cS c=true
theorem mK.own {w w1:World} {L:Nat->Prop} {B:Nat} {k:Option Nat} {T:TypeId} {f:List Nat->SA Dm} (hw:w.heap.size<=w1.heap.size):OwnFrom w1.heap.size (fun pre W=>mK w w1 L B k T (f pre) W):=by
 intro pre W W' row ⟨h1,h2,h3,v,cs,h4,h5,h6,h7⟩ hg hr;have hb:∀ b o,W.heap[b]?=some o->(b<w1.heap.size\/o.isCells=true)->W'.heap[b]?=W.heap[b]?:=by
  intro b o ho hc;refine hg.block b (Array.getElem?_eq_some_iff.1 ho).1 fun e=>?_;obtain⟨q1,o',q2,q3⟩:=hr b e.symm;rw[ho] at q2;obtain rfl:=Option.some.inj q2;rcases hc with hc | hc
  ·omega
  ·rw[hc] at q3; cases q3
 refine⟨⟨hg.os.trans h1.os,hg.tape.trans h1.tape,hg.output.trans h1.output,Nat.le_trans h1.size hg.size,fun b hb'=>?_⟩,Nat.le_trans h2 hg.size,fun b hb' hne=>?_,v,cs,?_,h5,?_,h7⟩
 ·have hl:b<W.heap.size:=by omega
  rw[hb b W.heap[b] (Array.getElem?_eq_getElem hl) (.inl (by omega))];exact h1.block b hb'
 ·have hl:b<W.heap.size:=by omega
  rw[hb b W.heap[b] (Array.getElem?_eq_getElem hl) (.inl hb')];exact h3 b hb' hne
 ·rw[hb B _ h4 (.inr rfl)]; exact h4
 ·exact h6.keep (aCi hg fun r e=>(hr r e).2)
end Vc
end Go.Proofs.YtjmbkipbmbnhjaaGreat

namespace Go.Proofs.YtjmbkipbmbnhjaaGreat
open Go.RowKit Go.Shelf
open Dg Zn
namespace Vc
attribute [local go_sem] Oper.semAt_some
def bA (cs:List Value) (j i:Nat):Value:=(cs[j*4+i]?).getD undef
theorem uO {w:World} {l:List (SA Dm)} {cs:List Value} {j:Nat} {s:SA Dm} (h:cT w (some 4) l cs) (hs:l[j]?=some s):(s.at w (.agg #[bA cs j 0,bA cs j 1,bA cs j 2,bA cs j 3])/\Shaped (some 4) (.agg #[bA cs j 0,bA cs j 1,bA cs j 2,bA cs j 3]) [bA cs j 0,bA cs j 1,bA cs j 2,bA cs j 3])/\∀ i,i<4->cs[j*4+i]?=some (bA cs j i):=by
 obtain⟨pre,p,post,v,q1,q2,q3,q4⟩:=h.at hs;have q2:pre.length=j*4:=q2;have hp:p.length=4:=q3.length;have hi:∀ i,i<4->cs[j*4+i]?=some (bA cs j i):=by
  intro i hi;have hl:j*4+i<cs.length:=by rw[q1]; simp only[List.length_append]; omega
  unfold bA;rw[List.getElem?_eq_getElem hl];rfl
 have hpi:∀ i,i<4->p[i]?=some (bA cs j i):=by
  intro i hi4;rw[<- hi i hi4,q1,List.append_assoc,List.getElem?_append_right (by omega),q2,Nat.add_sub_cancel_left,List.getElem?_append_left (by omega)]
 have he:p=[bA cs j 0,bA cs j 1,bA cs j 2,bA cs j 3]:=by
  match p,hp,hpi with
  | [a,b,c,d],_,hpi =>
   have h0:=hpi 0 (by decide);have h1:=hpi 1 (by decide);have h2:=hpi 2 (by decide);have h3:=hpi 3 (by decide);simp at h0 h1 h2 h3;rw[h0,h1,h2,h3]
 have hv:v=.agg p.toArray:=q3.1;subst he;rw[hv] at q4 q3;exact⟨⟨q4,q3⟩,hi⟩
theorem aHw {a:Act} {W:World} {u7 u11 id l n:Nat} {c0 c1 c2 c3:Value} {K:Act->World->Prop} {o1 o2:Oper} (hn:u7<a.tmps.size) (hne:u11≠u7) (h11:a.tmps.getD u11 undef=.agg #[c0,c1,c2,c3]) (hone:Shaped (some 4) (.agg #[c0,c1,c2,c3]) [c0,c1,c2,c3])
  (g1:o1.guard=none) (g2:o2.guard=none) (d1:o1.dst=some u7) (d2:o2.dst=none) (e1:o1.op=.alloc 31) (e2:o2.op=.store 31 (.tmp u7) (.tmp u11))
  (hK:∀ W2,Below W.heap.size W W2->W2.heap.size=W.heap.size+1->W2.heap[W.heap.size]?=some (.cells [c0,c1,c2,c3].toArray 31 (0,0))->K (a.put (some u7) (.pointer (some ⟨W.heap.size,0,none⟩))) W2) :
  (Code.region id #[o1,o2] false).wpIn (qM l) n Tryz.prog (Exit.then K (fun _ _ _=>False)) a W:=by
 refine wpIn_region_list (tZ (fun ⟨_,_,h⟩=>h) _ _ _ (by simp[mX,e1,e2]) ?_);refine wpList_step fun K1 hK1=>?_;rw[if_pos (by simp[Region.wanted,g1])];have hzr:(zeroValue 31).run Tryz.prog W=.ok dR W:=by
  cases hq:Tryz.prog.info? 31 with
  | none=>have:=iO; rw[hq] at this; cases this
  | some inf =>
   have hz:=iO;rw[hq] at hz;simp only[Option.map_some,Option.some.injEq,Prod.mk.injEq] at hz;simp[zeroValue,typeInfo,hq,hz.1]
 have r1:(execOp a.eval o1).run Tryz.prog W=.ok (.value (.pointer (some ⟨W.heap.size,0,none⟩))) (W.alloc (.cells dR.cells 31)):=by
  simp only[execOp,e1,Sem.run_bind,Instr.alloc,hzr,newVar,newRow,run_newObj_alloc,Sem.run_pure,Result.andThen_ok]
 unfold Oper.wp;rw[r1,Oper.upon_value,d1];refine hK1 _ _ ?_;clear hK1 K1 r1 hzr;have hw1:(W.alloc (.cells dR.cells 31)).heap[W.heap.size]?=some (.cells ([]++[Value.bool false,.slice none 0 0,.bool false,.slice none 0 0]++[]).toArray 31 (0,0)):=heap_alloc_new W _;have hs1:(W.alloc (.cells dR.cells 31)).heap.size=W.heap.size+1:=Array.size_push _;have hb1:Below W.heap.size W (W.alloc (.cells dR.cells 31)):=(Below.refl _ _).alloc (Nat.le_refl _) _;obtain⟨W1,hW1⟩:∃ W1,W1=W.alloc (.cells dR.cells 31):=⟨_,rfl⟩
 rw[<- hW1] at hw1 hs1 hb1 |-;clear hW1;have t7:(a.put (some u7) (.pointer (some ⟨W.heap.size,0,none⟩))).tmps.getD u7 undef=.pointer (some ⟨W.heap.size,0,none⟩):=by rw[jD hn rfl,if_pos rfl]
 have t11:(a.put (some u7) (.pointer (some ⟨W.heap.size,0,none⟩))).tmps.getD u11 undef=.agg #[c0,c1,c2,c3]:=by rw[jD hn rfl,if_neg hne]; exact h11
 refine wpList_step fun K1 hK1=>?_;rw[if_pos (by simp[Region.wanted,g2])];have hc:∀ j,j<4->∃ u,W1.cell? ⟨W.heap.size,j,none⟩=some u:=by
  intro j hj;simp only[World.cell?,hw1];have:j<([]++[Value.bool false,.slice none 0 0,.bool false,.slice none 0 0]++[]).toArray.size:=hj;exact⟨_,Array.getElem?_eq_getElem this⟩
 have r2:(execOp (a.put (some u7) (.pointer (some ⟨W.heap.size,0,none⟩))).eval o2).run Tryz.prog W1=.ok .skip (W1.setCells W.heap.size 0 [c0,c1,c2,c3]):=by
  have hst:=run_storeCells_cells (P:=Tryz.prog) W.heap.size 0 [c0,c1,c2,c3] 0 W1 (fun j hj=>by
   obtain⟨u,hu⟩:=hc j hj;rw[Nat.add_zero,Nat.zero_add,hu];rfl) (fun j hj=>by simp[World.frozen?,hw1]) hone.one
  rw[Nat.add_zero] at hst;have ev7:(a.put (some u7) (.pointer (some ⟨W.heap.size,0,none⟩))).eval (.tmp u7)=.pointer (some ⟨W.heap.size,0,none⟩):=t7;have ev11:(a.put (some u7) (.pointer (some ⟨W.heap.size,0,none⟩))).eval (.tmp u11)=.agg #[c0,c1,c2,c3]:=t11;have ec:(Value.agg #[c0,c1,c2,c3]).cells=#[c0,c1,c2,c3]:=hone.cells;have hsz:=yB W1;simp only[execOp,e2,ev7,ev11,Sem.run_bind,Sem.run_pure,Result.andThen_ok,Instr.storeAt,Instr.sureAddr,storeVar,hsz,ec];simp[hst]
 unfold Oper.wp;rw[r2,Oper.upon_skip,d2];refine hK1 _ _ ?_;clear hK1 K1 r2;show Exit.then _ _ .normal (a.put (some u7) (.pointer (some ⟨W.heap.size,0,none⟩))) _;refine hK _ ?_ (by rw[lA,hs1]) ?_
 ·refine⟨by rw[os_setCells]; exact hb1.os,by rw[nH]; exact hb1.tape,by rw[nI]; exact hb1.output,by rw[lA,hs1]; omega,fun j hj=>?_⟩;rw[lW _ _ _ _ j (by omega)];exact hb1.block j hj
 ·exact oJ W.heap.size 31 [c0,c1,c2,c3] [Value.bool false,.slice none 0 0,.bool false,.slice none 0 0] [] [] W1 rfl hw1
def gN (L:Nat->Prop) (B:Nat):Nat->Prop:=fun b=>L b\/b=B
section
variable {w w1 W:World} {L:Nat->Prop} {B:Nat} {k:Option Nat} {T:TypeId} {s:SA Dm}
theorem aM1 (hlt:∀ b,L b->b<w.heap.size) (hW:w.heap.size<=W.heap.size) (hB:B<W.heap.size):∀ b,gN L B b->b<W.heap.size:=by
 rintro b (h | rfl)
 ·have:=hlt b h; omega
 ·exact hB
theorem aM0 (hlt:∀ b,L b->b<w.heap.size) (hni:gI L w) (h:mK w w1 (gN L B) B k T s W):gI (gN L B) W:=by
 rintro b (hb | rfl) cs T' fr hc c hcm
 ·rw[h.below.block b (hlt b hb)] at hc;exact hni b hb cs T' fr hc c hcm
 ·obtain⟨v,cs',h1,_,_,h4⟩:=h.var;rw[h1] at hc;obtain⟨rfl,-,-⟩:=(Obj.cells.injEq _ _ _ _ _ _).mp (Option.some.inj hc);exact h4 c (by simpa using hcm)
theorem sO {x:SA Dm} {v:Value} (hB:w.heap.size<=B) (hb:Below w.heap.size w W) (h:iI L w x v):iI (gN L B) W x v:=by
 intro W' hk;refine h W' ⟨Nat.le_trans hb.size hk.1,fun b hnl off u hu=>?_⟩;have hl:=uB hu;refine hk.2 b (fun q=>?_) off u ((World.cell?_of_block (hb.block b hl)).trans hu);rcases q with q | q
 ·exact hnl q
 ·omega
theorem wN {L':Nat->Prop} {ρ:aS} {b:Nat} {v:Value} {cs:List Value} (hb:W.heap[b]?=some (.cells cs.toArray T (0,0))) (hnl:¬ L' b) (hsh:Shaped k v cs) (hs:iI L' W s v):(SA.d (Dm.gen (pG k s))).is L' ρ W (.pointer (some ⟨b,0,none⟩)):=by
 intro w' hag;refine⟨b,0,v,rfl,cs,hsh,hs w' (.agree hag),fun j c hj=>?_⟩;have hbl:b<W.heap.size:=by
  rcases Nat.lt_or_ge b W.heap.size with hl | hl
  ·exact hl
  ·rw[Array.getElem?_eq_none hl] at hb; cases hb
 have e:w'.heap[b]?=some (.cells cs.toArray T (0,0)):=(hag.2 b hbl hnl).trans hb;rw[Nat.zero_add];simpa[World.cell?,e] using hj
theorem aIu {x:Dm} {W':World} {m:Nat} (hwB:w.heap.size<=B) (hm:w1.heap.size<=m) (h:mK w w1 (gN L B) B k T s W) (hp:(SA.d x:SA Dm).plain=true) (hS:aNm W (gN L B) B k (.d x) W'):KeepsFrom m W W'/\iE w1.heap.size B W W'/\mK w w1 (gN L B) B k T (.d x) W':=by
 obtain⟨v0,cs0,h1,h2,_,_⟩:=h.var;obtain⟨w2,v,cs,k1,k2,k3,rfl⟩:=hS;have hBl:B<W.heap.size:=by
  rcases Nat.lt_or_ge B W.heap.size with hl | hl
  ·exact hl
  ·rw[Array.getElem?_eq_none hl] at h1; cases h1
 have hBw:w2.heap[B]?=some (.cells ([]++cs0++[]).toArray T (0,0)):=by
  rw[k1.block B hBl,h1,List.nil_append,List.append_nil]
 have hsz:(w2.setCells B 0 cs).heap.size=w2.heap.size:=lA ..;have hne:∀ j,j≠B->j<W.heap.size->(w2.setCells B 0 cs).heap[j]?=W.heap[j]?:=fun j hj hl=>(lW _ _ _ _ j hj).trans (k1.block j hl);have hnew:(w2.setCells B 0 cs).heap[B]?=some (.cells cs.toArray T (0,0)):=by
  have:=oJ B T cs cs0 [] [] w2 (by rw[k3.length,h2.length]) hBw;rw[List.nil_append,List.append_nil] at this;exact this
 refine⟨⟨by rw[hsz]; exact k1.size,fun j o _ ho hc=>?_⟩,⟨by rw[hsz]; exact k1.size,fun b hb hb'=>hne b hb' (by have:=h.size; omega)⟩,⟨?_,by rw[hsz]; exact Nat.le_trans h.size k1.size,fun b hb hb'=>(hne b hb' (by have:=h.size; omega)).trans (h.same b hb hb'),v,cs,hnew,k3,k2.keep (aKe (.inr rfl)),fun c hc=>?_⟩⟩
 ·have hjB:j≠B:=by
   rintro rfl;rw[h1] at ho;obtain rfl:=Option.some.inj ho;cases hc
  rw[hne j hjB (Array.getElem?_eq_some_iff.1 ho).1];exact ho
 ·refine⟨by rw[os_setCells]; exact k1.os.trans h.below.os,by rw[nH]; exact k1.tape.trans h.below.tape,by rw[nI]; exact k1.output.trans h.below.output,by rw[hsz]; exact Nat.le_trans h.below.size k1.size,fun j hj=>?_⟩;have:=h.below.size;rw[hne j (by omega) (by omega)];exact h.below.block j hj
 ·have:=bL.plain_ok x w2 v hp k2.at c (by rw[k3.cells]; simpa using hc);exact this
end
end Vc
end Go.Proofs.YtjmbkipbmbnhjaaGreat

namespace Go.Proofs.YtjmbkipbmbnhjaaGreat
open Go.RowKit
open Dg Zn
namespace Vc
theorem xX {p q:Int} {k:Nat} (hp:len p<=k) (hq:len q<=k):len (Rat.divInt p q).num<=k/\len (qd (Rat.divInt p q))<=k:=by
 have h0:len 0<=k:=by show (aA 0).length<=_; rw[fY]; exact Nat.zero_le _
 by_cases hq0:q=0
 ·subst hq0;obtain⟨e1,e2⟩:=vK p;rw[e1,e2];exact⟨h0,h0⟩
 ·obtain⟨e1,e2⟩:=wC p q hq0;rw[e1,e2];have h1:=Int.natAbs_ediv_le_natAbs p (Int.gcd p q:Nat);have h2:=Int.natAbs_ediv_le_natAbs q (Int.gcd p q:Nat);refine⟨Nat.le_trans (nS ?_) hp,?_⟩
  ·rw[Int.natAbs_mul];refine Nat.le_trans (Nat.mul_le_mul_right _ (?_:_<=1)) (by rw[Nat.one_mul]; exact h1);rw[Int.natAbs_sign];split<;>omega
  ·split
   ·exact h0
   ·exact Nat.le_trans (nS (by rw[Int.natAbs_natCast]; exact h2)) hq
theorem nY {a:Rat} {B:Nat} (h1:len a.num<=B) (h2:len (qd a)<=B):aG [a] B=true:=by
 simp[aG,h1,h2]
theorem tO {a:Rat} {k:Nat} (h1:1<=k) (h:len (qd a)<=k):len (a.den:Int)<=k:=by
 unfold qd at h;split at h
 ·rename_i hd;rw[hd];refine Nat.le_trans (?_:len ((1:Nat):Int)<=1) h1;rw[kW];decide
 ·exact h
theorem aAk {a b:Rat} {j k:Nat} (h1:1<=j) (h2:1<=k) (ha:aG [a] j=true) (hb:aG [b] k=true):aG [a*b] (j+k)=true:=by
 have e:a*b=Rat.divInt (a.num*b.num) ((a.den:Int)*b.den):=by
  conv=>lhs; rw[<- Rat.num_divInt_den a,<- Rat.num_divInt_den b]
  exact Rat.divInt_mul_divInt _ _
 obtain⟨a1,a2⟩:=pV ha;obtain⟨b1,b2⟩:=pV hb;rw[e];have h:=xX (Vc.pZ a1 b1) (Vc.pZ (tO h1 a2) (tO h2 b2));exact nY h.1 h.2
theorem aFa {a b:Rat} {j k:Nat} (h1:1<=j) (h2:1<=k) (ha:aG [a] j=true) (hb:aG [b] k=true):aG [a+b] (j+k+1)=true:=by
 have e:a+b=Rat.divInt (a.num*b.den+b.num*a.den) ((a.den:Int)*b.den):=by
  conv=>lhs; rw[<- Rat.num_divInt_den a,<- Rat.num_divInt_den b]
  exact Rat.divInt_add_divInt _ _ (by have:=a.den_nz; omega) (by have:=b.den_nz; omega)
 obtain⟨a1,a2⟩:=pV ha;obtain⟨b1,b2⟩:=pV hb;rw[e];have n1:len (a.num*b.den)<=j+k:=Vc.pZ a1 (tO h2 b2);have n2:len (b.num*a.den)<=j+k:=Nat.le_trans (Vc.pZ b1 (tO h1 a2)) (by omega);have n3:=Zn.zZ (a.num*b.den) (b.num*a.den);have h:=xX (k:=j+k+1) (p:=a.num*b.den+b.num*a.den) (q:=(a.den:Int)*b.den) (by omega) (Nat.le_trans (Vc.pZ (tO h1 a2) (tO h2 b2)) (Nat.le_succ _));exact nY h.1 h.2
theorem pU {a:Rat} {j k:Nat} (h:j<=k) (ha:aG [a] j=true):aG [a] k=true:=by
 obtain⟨a1,a2⟩:=pV ha;exact nY (Nat.le_trans a1 h) (Nat.le_trans a2 h)
theorem pS {B:Nat}:aG [(0:Rat)] B=true:=by
 have h:len 0<=B:=by show (aA 0).length<=_; rw[fY]; exact Nat.zero_le _
 exact nY h h
theorem pW {l:List Rat} {B:Nat} (h:∀ a∈l,aG [a] B=true):aG l B=true:=by
 unfold aG;rw[List.all_eq_true];intro a ha;have:=pV (h a ha);rw[Bool.and_eq_true];exact⟨decide_eq_true this.1,decide_eq_true this.2⟩
theorem wM {l:List Rat} {B:Nat} (h:aG l B=true) {a:Rat} (ha:a∈l):aG [a] B=true:=nY (zS h ha).1 (zS h ha).2
theorem oQ {l:List Rat} {B:Nat} (h:aG l B=true) (i:Nat):aG [l.getD i 0] B=true:=by
 rcases Nat.lt_or_ge i l.length with hl | hl
 ·rw[List.getD_eq_getElem?_getD,List.getElem?_eq_getElem hl];exact wM h (List.getElem_mem hl)
 ·rw[cP hl];exact pS
theorem pT {l:List Rat} {B:Nat} (h:aG l B=true):aG (aI l) B=true:=pW fun a ha=>by
 rw[aB4] at ha;exact wM h (List.mem_of_mem_take ha)
theorem aEc {g:Nat->Rat} {n B:Nat} (h:∀ k,k<n->aG [g k] B=true):aG (tab g n) B=true:=pW fun a ha=>by
 unfold tab at ha;obtain⟨k,hk,rfl⟩:=List.mem_map.1 ha;exact h k (List.mem_range.1 hk)
theorem aVu {p q:List Rat} {j k:Nat} (h1:1<=j) (h2:1<=k) (hp:aG p j=true) (hq:aG q k=true):aG (fC p q) (j+k+1)=true :=
 pT (aEc fun i _=>aFa h1 h2 (oQ hp i) (oQ hq i))
theorem aRc {p:List Rat} {a:Rat} {j k:Nat} (h1:1<=j) (h2:1<=k) (hp:aG p j=true) (ha:aG [a] k=true):aG (aN p a) (j+k)=true :=
 pT (aEc fun i _=>aAk h1 h2 (oQ hp i) ha)
theorem nQ {l:List Rat} {j k:Nat} (h:j<=k) (hl:aG l j=true):aG l k=true:=pW fun _ ha=>pU h (wM hl ha)
theorem zQ {a:Rat} {l:List Rat} {B:Nat} (ha:aG [a] B=true) (hl:aG l B=true):aG (a::l) B=true:=pW fun b hb=>by
 rcases List.mem_cons.1 hb with rfl | hb
 ·exact ha
 ·exact wM hl hb
end Vc
end Go.Proofs.YtjmbkipbmbnhjaaGreat

namespace Go.Proofs.YtjmbkipbmbnhjaaGreat
open Go.RowKit Go.Shelf
open Dg Zn
namespace Vc
attribute [local go_sem] Oper.semAt_some
theorem mK.later {w w1 W W':World} {L:Nat->Prop} {B:Nat} {k:Option Nat} {T:TypeId} {s:SA Dm} (h:mK w w1 L B k T s W) (hb:Below W.heap.size W W'):mK w w1 L B k T s W':=by
 obtain⟨h1,h2,h3,v,cs,h4,h5,h6,h7⟩:=h;have hBl:B<W.heap.size:=by
  rcases Nat.lt_or_ge B W.heap.size with hl | hl
  ·exact hl
  ·rw[Array.getElem?_eq_none hl] at h4; cases h4
 refine⟨⟨hb.os.trans h1.os,hb.tape.trans h1.tape,hb.output.trans h1.output,Nat.le_trans h1.size hb.size,fun b hb'=>?_⟩,Nat.le_trans h2 hb.size,fun b hb' hne=>(hb.block b (by omega)).trans (h3 b hb' hne),v,cs,(hb.block B hBl).trans h4,h5,h6.keep (aCj hb),h7⟩;have:=h1.size;rw[hb.block b (by omega)];exact h1.block b hb'
theorem aGv {B:Nat} {W W':World} (hb:Below W.heap.size W W'):KeepsFrom B W W':=⟨hb.size,fun k o _ hk _=>(hb.block k (Array.getElem?_eq_some_iff.1 hk).1).trans hk⟩
theorem aIq {n B:Nat} {W W':World} (hn:n<=W.heap.size) (hb:Below W.heap.size W W'):iE n B W W':=⟨hb.size,fun b hb' _=>hb.block b (by omega)⟩
def oA (p:List Rat) (x:Rat) (pre:List Nat):Rat:=pre.foldl (fun s k=>s*x+p.getD (p.length-1-k) 0) 0
theorem aHm (p:List Rat) (x:Rat) (pre:List Nat) (k:Nat):oA p x (pre++[k])=oA p x pre*x+p.getD (p.length-1-k) 0:=by simp[oA]
def aA2 (p:List Rat) (x:Rat):Rat:=oA p x (eL id p.length)
def iD (K Kx n:Nat):Nat:=n*(Kx+K+1)+1
theorem aK1 {K Kx i j:Nat} (h:i<=j):iD K Kx i<=iD K Kx j:=by
 have:=Nat.mul_le_mul_right (Kx+K+1) h;unfold iD;omega
theorem aTi {p:List Rat} {x:Rat} {K Kx:Nat} (h1:1<=K) (h2:1<=Kx) (hp:aG p K=true) (hx:aG [x] Kx=true):∀ pre:List Nat,aG [oA p x pre] (iD K Kx pre.length)=true:=by
 have hK:∀ i,aG [p.getD i 0] K=true:=by
  intro i;rcases Nat.lt_or_ge i p.length with hl | hl
  ·have:=zS hp (List.getElem_mem hl);rw[List.getD_eq_getElem?_getD,List.getElem?_eq_getElem hl];exact nY this.1 this.2
  ·rw[cP hl];exact pS
 have:∀ (pre:List Nat) (s:Rat) (m:Nat),1<=m->aG [s] m=true->aG [pre.foldl (fun s k=>s*x+p.getD (p.length-1-k) 0) s] (m+pre.length*(Kx+K+1))=true:=by
  intro pre
  induction pre with
  | nil=>intro s m _ hs; exact pU (by omega) hs
  | cons k pre ih =>
   intro s m hm hs;rw[List.foldl_cons];have h:=ih (s*x+p.getD (p.length-1-k) 0) (m+Kx+K+1) (by omega) (aFa (by omega) h1 (aAk hm h2 hs hx) (hK _));refine pU ?_ h;rw[List.length_cons,Nat.succ_mul];omega
 intro pre;refine pU ?_ (this pre 0 1 (Nat.le_refl _) pS);unfold iD;omega
theorem aX6 (w:World) (a b c d:Obj):∃ w1,(((w.alloc a).alloc b).alloc c).alloc d=w1/\w1.heap.size=w.heap.size+4/\w1.heap[w.heap.size]?=((w.alloc a).heap[w.heap.size]?)/\w1.heap[w.heap.size+1]?=((w.alloc a).alloc b).heap[w.heap.size+1]?/\w1.heap[w.heap.size+1+1]?=(((w.alloc a).alloc b).alloc c).heap[w.heap.size+1+1]?/\w1.heap[w.heap.size+1+1+1]?=((((w.alloc a).alloc b).alloc c).alloc d).heap[w.heap.size+1+1+1]?/\Below w.heap.size w w1/\∃ wA,wA.heap.size=w.heap.size+1+1/\Below w.heap.size w wA/\Below wA.heap.size wA w1/\wA.heap[w.heap.size+1]?=((w.alloc a).alloc b).heap[w.heap.size+1]?:=by
 have s1:(w.alloc a).heap.size=w.heap.size+1:=Array.size_push _;have s2:((w.alloc a).alloc b).heap.size=w.heap.size+1+1:=(Array.size_push _).trans (by rw[s1]);have s3:(((w.alloc a).alloc b).alloc c).heap.size=w.heap.size+1+1+1:=(Array.size_push _).trans (by rw[s2]);have s4:((((w.alloc a).alloc b).alloc c).alloc d).heap.size=w.heap.size+1+1+1+1:=(Array.size_push _).trans (by rw[s3]);have b4:∀ j,j<(((w.alloc a).alloc b).alloc c).heap.size->((((w.alloc a).alloc b).alloc c).alloc d).heap[j]?=(((w.alloc a).alloc b).alloc c).heap[j]?:=fun j hj=>Below.heap_alloc _ _ _ hj;have b3:∀ j,j<((w.alloc a).alloc b).heap.size->(((w.alloc a).alloc b).alloc c).heap[j]?=((w.alloc a).alloc b).heap[j]?:=fun j hj=>Below.heap_alloc _ _ _ hj;have b2:∀ j,j<(w.alloc a).heap.size->((w.alloc a).alloc b).heap[j]?=(w.alloc a).heap[j]?:=fun j hj=>Below.heap_alloc _ _ _ hj;refine⟨_,rfl,s4,?_,?_,?_,rfl,((((Below.refl _ w).alloc (Nat.le_refl _) _).alloc (by omega) _).alloc (by omega) _).alloc (by omega) _,(w.alloc a).alloc b,s2,((Below.refl _ w).alloc (Nat.le_refl _) _).alloc (by omega) _,((Below.refl _ _).alloc (Nat.le_refl _) _).alloc (by omega) _,rfl⟩
 ·rw[b4 _ (by omega),b3 _ (by omega),b2 _ (by omega)]
 ·rw[b4 _ (by omega),b3 _ (by omega)]
 ·rw[b4 _ (by omega)]
theorem alloc_at (w:World) (o:Obj) {n:Nat} (h:w.heap.size=n):(w.alloc o).heap[n]?=some o:=by subst h; exact heap_alloc_new w o
set_option maxRecDepth 100000 in
set_option maxHeartbeats 4000000 in
theorem aS5 (p:List Rat) (x:Rat) (K Kx:Nat) (hp:p.length<=1000000) (hK:K<=1000000) (hKx:Kx<=1000000) (hK1:1<=K) (hKx1:1<=Kx) (hpz:aG p K=true) (hxz:aG [x] Kx=true) (hbd:iD K Kx p.length<=1000000):aD Tryz.prog 99 [PL p K,RT x Kx] (.one (RT (aA2 p x) (iD K Kx p.length))):=by
 intro L ρ w vs hlt hni _ hall
 match vs,hall with
 | [v0,v1],⟨g0,g1,_⟩ =>
  obtain⟨ao,cap,rfl,hcap,hlst⟩:=rJ (by decide) g0;rw[bB] at hcap hlst |-;have hx:=aEg uE g1;obtain⟨sx,tx,rfl,n1,n2,_,_⟩:=g1 w (Agree.refl _ _);have hx1s:∀ c∈[Value.bool (decide (x.num<0)),sx,.bool (decide (qd x<0)),tx],c.oneCell'=true:=by
   obtain⟨_,_,rfl,_⟩:=n1;obtain⟨_,_,rfl,_⟩:=n2;simp[Value.oneCell']
  generalize hcx:(decide (x.num<0))=bx at *;generalize hcy:(decide (qd x<0))=bz at *;obtain⟨b,off,cs,hao,hsh,hel⟩:∃ b off,∃ cs:List Value,(0<p.length->ao=some ⟨b,off,none⟩/\b<w.heap.size)/\(∀ k,Shaped (some 4) (.agg #[bA cs (p.length-1-k) 0,bA cs (p.length-1-k) 1,bA cs (p.length-1-k) 2,bA cs (p.length-1-k) 3]) [bA cs (p.length-1-k) 0,bA cs (p.length-1-k) 1,bA cs (p.length-1-k) 2,bA cs (p.length-1-k) 3])/\∀ j,j<p.length->(w.cell? ⟨b,off+j*4,none⟩=some (bA cs j 0)/\w.cell? ⟨b,off+j*4+1,none⟩=some (bA cs j 1)/\w.cell? ⟨b,off+j*4+2,none⟩=some (bA cs j 2)/\w.cell? ⟨b,off+j*4+3,none⟩=some (bA cs j 3))/\iI L w (RT (p.getD j 0) K) (.agg #[bA cs j 0,bA cs j 1,bA cs j 2,bA cs j 3]):=by
   rcases Nat.eq_zero_or_pos p.length with h0 | h0
   ·exact⟨0,0,[.bool false,.slice none 0 0,.bool false,.slice none 0 0],fun h=>by omega,fun k=>by rw[show p.length-1-k=0 by omega]; exact⟨rfl,rfl,by simp[bA,Value.oneCell']⟩,fun j hj=>by omega⟩
   ·obtain⟨b,off,e,⟨_,hb⟩,cs,hats,hcs⟩:=hlst h0;refine⟨b,off,cs,fun _=>⟨e,hb⟩,fun k=>(uO (hats w (Agree.refl _ _)) (eA (K:=K) (by omega))).1.2,fun j hj=>?_⟩;have h4:=uO (hats w (Agree.refl _ _)) (eA (K:=K) hj);have hi:∀ i,i<4->w.cell? ⟨b,off+j*4+i,none⟩=some (bA cs j i):=fun i hi=>by
     rw[Nat.add_assoc];exact hcs _ _ (h4.2 i hi)
    exact⟨⟨hi 0 (by decide),hi 1 (by decide),hi 2 (by decide),hi 3 (by decide)⟩,aEf uE fun w' hw=>(uO (hats w' hw) (eA (K:=K) hj)).1.1⟩
  refine(callsIn_wide (n:=9)).1 ?_;refine callsIn_of_wp_marks Tryz.func99 rfl trivial ?_ rfl;simp only[Tryz.ntmps99,List.size_toArray,List.length_cons,List.length_nil,Nat.reduceAdd,Nat.reduceSub,Array.replicate_succ,Array.replicate_zero,List.push_toArray,List.append_toArray,List.nil_append,List.cons_append];have hs0:=(iI.at hx)
  gi_wp2_with (refine⟨trivial,?_⟩; gi_at_call 83; refine(aMe Fence.wide _ trivial rfl _ _ _ _).mono ?_; rintro e w' ⟨rfl,rfl⟩)
  have s3:(((w.alloc (.cells #[.bool bx,sx,.bool bz,tx] 31)).alloc (.cells #[.bool false,.slice none 0 0,.bool false,.slice none 0 0] 31)).alloc (.cells #[.bool false,.slice none 0 0,.bool false,.slice none 0 0] 31)).heap.size=w.heap.size+1+1+1:=by
   refine(Array.size_push _).trans (congrArg (·+1) ((Array.size_push _).trans (congrArg (·+1) (Array.size_push _))))
  obtain⟨w1,hw1,hs1,q3,q4,q5,q6,hb1,wA,hsA,hbA,hb1A,qA⟩:=aX6 w (.cells #[.bool bx,sx,.bool bz,tx] 31) (.cells #[.bool false,.slice none 0 0,.bool false,.slice none 0 0] 31) (.cells #[.bool false,.slice none 0 0,.bool false,.slice none 0 0] 31) (.cells #[.slice ao p.length cap] 24);rw[alloc_at _ _ rfl] at q3;rw[alloc_at _ _ (Array.size_push _)] at q4 qA;rw[alloc_at _ _ ((Array.size_push _).trans (congrArg (·+1) (Array.size_push _)))] at q5;rw[alloc_at _ _ s3] at q6;rw[hw1];clear hw1 s3;have hB5:w.heap.size+1+1<w1.heap.size:=by omega
  have hlt1:∀ b,gN L (w.heap.size+1) b->b<wA.heap.size:=by
   rintro b (q | q)
   ·have:=hlt b q; omega
   ·omega
  have hni1:gI (gN L (w.heap.size+1)) wA:=by
   rintro b (q | rfl) cs' T' fr hc c hcm
   ·rw[hbA.block b (hlt b q)] at hc;exact hni b q cs' T' fr hc c hcm
   ·rw[qA] at hc;obtain⟨rfl,-,-⟩:=(Obj.cells.injEq _ _ _ _ _ _).mp (Option.some.inj hc);have hall:∀ c∈[Value.bool false,.slice none 0 0,.bool false,.slice none 0 0],cS c=true:=by simp[cS]
    exact hall c (by simpa using hcm)
  have hx':=sO (Nat.le_succ _) hbA hx;have hel':=fun j hj=>sO (Nat.le_succ _) hbA (hel j hj).2;have hBs:w1.cell? ⟨w.heap.size+1+1+1,0,none⟩=some (.slice ao p.length cap):=by simp[World.cell?,q6]
  have hfold:∀ k,((#[10,11]:Array Tmp).zip (qP p.length (fun j=>.agg #[bA cs j 0,bA cs j 1,bA cs j 2,bA cs j 3]) k)).foldl (fun t (p,v)=>t.setIfInBounds p v) #[.slice ao p.length cap,.agg #[.bool bx,sx,.bool bz,tx],undef,.pointer (some ⟨w.heap.size,0,none⟩),.pointer (some ⟨w.heap.size+1,0,none⟩),.pointer (some ⟨w.heap.size+1+1,0,none⟩),undef,undef,.slice ao p.length cap,.func (.func 130) #[] #[.pointer (some ⟨w.heap.size+1+1+1,0,none⟩)],undef,undef,undef,undef,undef,undef,undef,undef]=#[.slice ao p.length cap,.agg #[.bool bx,sx,.bool bz,tx],undef,.pointer (some ⟨w.heap.size,0,none⟩),.pointer (some ⟨w.heap.size+1,0,none⟩),.pointer (some ⟨w.heap.size+1+1,0,none⟩),undef,undef,.slice ao p.length cap,.func (.func 130) #[] #[.pointer (some ⟨w.heap.size+1+1+1,0,none⟩)],.int .i64 ((p.length-1-k:Nat):Int),.agg #[bA cs (p.length-1-k) 0,bA cs (p.length-1-k) 1,bA cs (p.length-1-k) 2,bA cs (p.length-1-k) 3],undef,undef,undef,undef,undef,undef]:=by
   intro k;simp[qP]
  refine wpIn_rangeFunc_ownH (α:=Nat) rfl (by decide) (gf:=130) (lb:=#[.pointer (some ⟨w.heap.size+1+1+1,0,none⟩)]) rfl trivial (enters_of Tryz.func130 (by kernel_rfl) rfl)
   (aHv (C:=bA cs) (B:=w.heap.size+1+1) (b:=b) (off:=off) (by decide) (fun h=>(hao h).1) hp hBs (by omega) (fun h=>⟨by have:=(hao h).2; omega,fun j hj=>by
    obtain⟨⟨e0,e1,e2,e3⟩,_⟩:=hel j hj;have hk:=(aCj (L:=fun _=>False) hb1).2 b (fun q=>q);exact⟨hk _ _ e0,hk _ _ e1,hk _ _ e2,hk _ _ e3⟩⟩)) iE.trans (iE.put (Nat.le_refl _)) (Below.refl _ _) (fun _=>rfl)
   (fun pre W=>mK wA w1 (gN (gN L (w.heap.size+1)) (w.heap.size+1+1)) (w.heap.size+1+1) (some 4) 31 (RT (oA p x pre) (iD K Kx pre.length)) W)
   (fun _ _ _=>False) (mK.own (f:=fun pre=>RT (oA p x pre) (iD K Kx pre.length)) (by omega)) (fun _ _ _ _ _ hs _ _=>hs) ?start
   (fun k a' W=>∃ Bx,w1.heap.size<=Bx/\W.heap[Bx]?=some (.cells [bA cs (p.length-1-k) 0,bA cs (p.length-1-k) 1,bA cs (p.length-1-k) 2,bA cs (p.length-1-k) 3].toArray 31 (0,0))/\a'=Act.put { tmps:=#[.slice ao p.length cap,.agg #[.bool bx,sx,.bool bz,tx],undef,.pointer (some ⟨w.heap.size,0,none⟩),.pointer (some ⟨w.heap.size+1,0,none⟩),.pointer (some ⟨w.heap.size+1+1,0,none⟩),undef,undef,.slice ao p.length cap,.func (.func 130) #[] #[.pointer (some ⟨w.heap.size+1+1+1,0,none⟩)],.int .i64 ((p.length-1-k:Nat):Int),.agg #[bA cs (p.length-1-k) 0,bA cs (p.length-1-k) 1,bA cs (p.length-1-k) 2,bA cs (p.length-1-k) 3],undef,undef,undef,undef,undef,undef],defers:=[] } (some 7) (.pointer (some ⟨Bx,0,none⟩))) ?hAx ?assign ?body ?done ?stop
  case start =>
   refine⟨hb1A,Nat.le_refl _,fun _ _ _=>rfl,dR,[.bool false,.slice none 0 0,.bool false,.slice none 0 0],q5,⟨rfl,rfl,by simp[Value.oneCell']⟩,fun W' _=>?_,by simp[cS]⟩;have h0:(aA (0:Int).natAbs).length<=iD K Kx ([]:List Nat).length:=by rw[show (0:Int).natAbs=0 from rfl,fY]; exact Nat.zero_le _
   exact⟨_,_,rfl,aL.nil (by decide),aL.nil (by decide),h0,h0⟩
  case hAx =>
   rintro k a' _ W W' row ⟨Bx,h1,h2,h3⟩ hg hr;refine⟨Bx,h1,?_,h3⟩;rw[hg.block Bx (Array.getElem?_eq_some_iff.1 h2).1 (fun e=>by
    obtain⟨_,o',m2,m3⟩:=hr Bx e.symm;rw[h2] at m2;obtain rfl:=Option.some.inj m2;cases m3)]
   exact h2
  case assign =>
   intro l pre k W K' hi hK';show Code.wpIn _ _ _ _ _ (Act.mk (((#[10,11]:Array Tmp).zip (qP p.length (fun j=>.agg #[bA cs j 0,bA cs j 1,bA cs j 2,bA cs j 3]) k)).foldl (fun t (p,v)=>t.setIfInBounds p v) #[.slice ao p.length cap,.agg #[.bool bx,sx,.bool bz,tx],undef,.pointer (some ⟨w.heap.size,0,none⟩),.pointer (some ⟨w.heap.size+1,0,none⟩),.pointer (some ⟨w.heap.size+1+1,0,none⟩),undef,undef,.slice ao p.length cap,.func (.func 130) #[] #[.pointer (some ⟨w.heap.size+1+1+1,0,none⟩)],undef,undef,undef,undef,undef,undef,undef,undef]) []) W;rw[hfold k];exact aHw (u7:=7) (u11:=11) (Nat.le_of_ble_eq_true rfl) (by decide) rfl (hsh k) rfl rfl rfl rfl rfl rfl fun W2 hb _ hcell=>hK' _ W2 (aGv hb) (aIq hi.size hb) (hi.later hb) ⟨W.heap.size,hi.size,hcell,rfl⟩
  case stop =>
   rintro D c pre W _ _ h _;exact h.elim
  case done =>
   intro D ys W hD hys hI hKD;have hsame4:=hI.same (w.heap.size+1) (by omega) (by omega);obtain⟨v,cs5,c1,c2,c3,c4⟩:=hI.var;obtain⟨s5,t5,e5,⟨ao5,cap5,e6,_⟩,⟨ao7,cap7,e7,_⟩,_,_⟩:=c3.at;obtain⟨b5,a5,n5,k5,b6,a6,n6,k6,hv⟩:∃ b5 a5 n5 k5 b6 a6 n6 k6,v=.agg #[.bool b5,.slice a5 n5 k5,.bool b6,.slice a6 n6 k6]:=⟨_,_,_,_,_,_,_,_,by rw[e5,e6,e7]⟩
   have hcs:cs5=[.bool b5,.slice a5 n5 k5,.bool b6,.slice a6 n6 k6]:=by
    have h:=c2.1;rw[hv] at h;injection h with h;have h:=congrArg Array.toList h;simpa using h.symm
   subst hcs;clear e5 e6 e7;have f0:W.cell? ⟨w.heap.size+1+1,0,none⟩=some (.bool b5):=by simp[World.cell?,c1]
   have f1:W.cell? ⟨w.heap.size+1+1,1,none⟩=some (.slice a5 n5 k5):=by simp[World.cell?,c1]
   have f2:W.cell? ⟨w.heap.size+1+1,2,none⟩=some (.bool b6):=by simp[World.cell?,c1]
   have f3:W.cell? ⟨w.heap.size+1+1,3,none⟩=some (.slice a6 n6 k6):=by simp[World.cell?,c1]
   have e4:W.heap[w.heap.size+1]?=some (.cells #[.bool false,.slice none 0 0,.bool false,.slice none 0 0] 31 (0,0)):=hsame4.trans q4;have h0:W.cell? ⟨w.heap.size+1,0,none⟩=some (.bool false):=by simp[World.cell?,e4]
   have h1:W.cell? ⟨w.heap.size+1,1,none⟩=some (.slice none 0 0):=by simp[World.cell?,e4]
   have h2:W.cell? ⟨w.heap.size+1,2,none⟩=some (.bool false):=by simp[World.cell?,e4]
   have h3:W.cell? ⟨w.heap.size+1,3,none⟩=some (.slice none 0 0):=by simp[World.cell?,e4]
   have z0:∀ i,W.frozen? ⟨w.heap.size+1,i,none⟩=false:=fun i=>by simp[World.frozen?,e4]
   have y0:=z0 0;have y1:=z0 1;have y2:=z0 2;have y3:=z0 3
   gi_wp2
   have hbl:Below W.heap.size W W:=Below.refl _ _;obtain⟨W4,hW4⟩:∃ W4,W4=W.setCells (w.heap.size+1) 0 [.bool b5,.slice a5 n5 k5,.bool b6,.slice a6 n6 k6]:=⟨_,rfl⟩
   have hW4':((((W.setCell ⟨w.heap.size+1,0,none⟩ (.bool b5)).setCell ⟨w.heap.size+1,1,none⟩ (.slice a5 n5 k5)).setCell ⟨w.heap.size+1,2,none⟩ (.bool b6)).setCell ⟨w.heap.size+1,3,none⟩ (.slice a6 n6 k6))=W4:=by
    rw[hW4];rfl
   rw[hW4'];have hD4:W4.heap[D]?=some (.deferred (some [])):=by
    rw[hW4,lW _ _ _ _ D (by omega)];exact hKD
   have g4:W4.heap[w.heap.size+1]?=some (.cells [.bool b5,.slice a5 n5 k5,.bool b6,.slice a6 n6 k6].toArray 31 (0,0)):=by
    rw[hW4];exact oJ (w.heap.size+1) 31 [.bool b5,.slice a5 n5 k5,.bool b6,.slice a6 n6 k6] [.bool false,.slice none 0 0,.bool false,.slice none 0 0] [] [] W rfl e4
   refine⟨by simp,.inl ⟨_,_,rfl,run_takeDeferred hD4,?_⟩⟩;have hDl:D<W4.heap.size:=(Array.getElem?_eq_some_iff.1 hD4).1;have hn4:w.heap.size+1≠D:=by omega
   have g5:(W4.putObj D (.deferred none)).heap[w.heap.size+1]?=some (.cells [.bool b5,.slice a5 n5 k5,.bool b6,.slice a6 n6 k6].toArray 31 (0,0)):=(World.putObj_heap_other hn4).trans g4;refine⟨v,?_,v,rfl,?_,?_⟩
   ·have e:∀ tm:Array Value,tm.getD 4 undef=.pointer (some ⟨w.heap.size+1,0,none⟩)->(results Tryz.f99 tm).run Tryz.prog (W4.putObj D (.deferred none))=.ok v (W4.putObj D (.deferred none)):=by
     intro tm htm;have h1:(jG tm (.cell 4 31)).run Tryz.prog (W4.putObj D (.deferred none))=.ok v (W4.putObj D (.deferred none)):=by
      have hl:=vD (P:=Tryz.prog) (w:=W4.putObj D (.deferred none)) (b:=w.heap.size+1) (off:=0) (cs:=[.bool b5,.slice a5 n5 k5,.bool b6,.slice a6 n6 k6]) (ty:=31) (k:=some 4) (v:=v) (fun j c hj=>by rw[Nat.zero_add]; simpa[World.cell?,g5] using hj) c2 aB;simp only[jG,htm,asAddr,Sem.run_bind,Sem.run_pure,Result.andThen_ok,hl]
     have h2:(results Tryz.f99 tm).run Tryz.prog (W4.putObj D (.deferred none))=((jG tm (.cell 4 31)).run Tryz.prog (W4.putObj D (.deferred none))).andThen fun v w=>.ok v w:=by
      simp[results,show Tryz.f99.results=#[.cell 4 31] from rfl,jG,andThen_assoc,aG0]
     rw[h2,h1];rfl
    exact e _ rfl
   ·refine⟨?_,?_,?_,?_,fun j hj=>?_⟩
    ·show W4.os=_;rw[hW4,os_setCells]; exact(hbA.os ▸ hI.below.os)
    ·show W4.tape=_;rw[hW4,nH]; exact(hbA.tape ▸ hI.below.tape)
    ·show W4.output=_;rw[hW4,nI]; exact(hbA.output ▸ hI.below.output)
    ·have h1:=hI.below.size;have h2:W4.heap.size=W.heap.size:=by rw[hW4]; exact lA ..
     simp;omega
    ·have h1:=hI.below.size;rw[World.putObj_heap_other (by omega),hW4,lW _ _ _ _ j (by omega),hI.below.block j (by omega)];exact hbA.block j hj
   ·have hev:aA2 p x=oA p x ys:=by rw[hys]; rfl
    have hyl:ys.length=p.length:=by rw[hys,yE]
    rw[hev,<- hyl];refine uP (ρ:=ρ) fun w'' hag=>c3 w'' ?_;refine iM.trans ?_ (iM.trans (aCi (grownBy_putObj' W4 D (.deferred none)) (fun r e=>by cases e; exact⟨_,hD4,rfl⟩)) ?_)
    ·rw[hW4];exact aKe (.inl (.inr rfl))
    ·have:=iM.agree hag;exact⟨this.1,fun b hb=>this.2 b fun q=>hb (.inl (.inl q))⟩
  case body =>
   rintro l pre k a' W hl _ hi ⟨Bx,hx1,hx2,rfl⟩ hlen;have hbW:=hi.below.size;obtain⟨vc,csv,c1,c2,c3,c4⟩:=hi.var;have hkl:p.length-1-k<p.length:=by omega
   have hpre:iD K Kx pre.length<=1000000:=Nat.le_trans (aK1 (Nat.le_of_lt hlen)) hbd;have hnew:=aTi hK1 hKx1 hpz hxz (pre++[k]);have h3W:W.heap[w.heap.size]?=some (.cells [Value.bool bx,sx,.bool bz,tx].toArray 31 (0,0)):=(hi.same _ (by omega) (by omega)).trans q3;have hxp:(SA.d (Dm.gen (pG (some 4) (RT x Kx)))).is (gN (gN L (w.heap.size+1)) (w.heap.size+1+1)) ρ W (.pointer (some ⟨w.heap.size,0,none⟩)):=wN h3W (by rintro((q | q) | q); exact absurd (hlt _ q) (by omega); omega; omega) ⟨rfl,rfl,hx1s⟩ (sO (by omega) hi.below hx');have hap:(SA.d (Dm.gen (pG (some 4) (RT (p.getD (p.length-1-k) 0) K)))).is (gN (gN L (w.heap.size+1)) (w.heap.size+1+1)) ρ W (.pointer (some ⟨Bx,0,none⟩)):=wN hx2 (by rintro((q | q) | q); exact absurd (hlt _ q) (by omega); omega; omega) (hsh k) (sO (by omega) hi.below (hel' _ hkl));have hBlW:w.heap.size+1+1<W.heap.size:=by have:=hi.size; omega
   refine wpIn_block (wpIn_mono (RV.wpIn (x0:=.no) (C:=CS W (gN (gN L (w.heap.size+1)) (w.heap.size+1+1)) (aM1 hlt1 hbW hBlW) (aM0 hlt1 hni1 hi) 18 (w.heap.size+1+1) (some 4) (RT (oA p x (pre++[k])) (iD K Kx (pre++[k]).length))) (K:=fun l=>aF .no l FK=.dead)
    (l:=[(.s 3,.av (.one (.d (Dm.gen (pG (some 4) (RT x Kx)))))),(.s 5,.av (.one (.v (.pointer (some ⟨w.heap.size+1+1,0,none⟩))))),(.s 7,.av (.one (.d (Dm.gen (pG (some 4) (RT (p.getD (p.length-1-k) 0) K))))))]) (fun a w h=>CS.drew rfl h) (by kernel_rfl) (fun _=>by kernel_rfl) (by kernel_rfl) ?walk ?begin) ?after)
   case begin =>
    refine .inl ⟨rfl,ρ,aCo (Eq.refl 18) rfl (fun i=>rfl) fun t=>?_⟩;by_cases e3:t=3
    ·subst e3; exact .inr ⟨_,rfl,rfl,hxp⟩
    ·by_cases e5:t=5
     ·subst e5; exact .inr ⟨_,rfl,rfl,rfl⟩
     ·by_cases e7:t=7
      ·subst e7; exact .inr ⟨_,rfl,rfl,hap⟩
      ·refine .inl ?_;show (bif Key.beq (.s 3) (.s t) then _ else bif Key.beq (.s 5) (.s t) then _ else bif Key.beq (.s 7) (.s t) then _ else _)=_;rw[fV (by simpa using Ne.symm e3),fV (by simpa using Ne.symm e5),fV (by simpa using Ne.symm e7)];rfl
   case walk =>
    rw[aHm] at hnew |-;refine eJ (lF (aDi c1 c2 c3 rfl aB rfl rfl (by decide) rfl) rfl rfl rfl) ?_;refine eJ (lF (bO aB) rfl rfl rfl) ?_;refine eJ (lF (bR (nT _ _ _ _ (by omega) (by omega)) rfl rfl (by decide) Tryz.func87 rfl rfl (.cons rfl cI.any (.cons rfl cI.any .nil)) rfl rfl rfl) rfl rfl rfl) ?_;refine eJ (lF (bO aB) rfl rfl rfl) ?_;refine eJ (lF (bR ((tV _ _ (3*(iD K Kx pre.length+Kx)+20) K (by omega) (by omega)).mono (fun _ _ _ _ h=>h) (dT hnew)) rfl rfl (by decide) Tryz.func56 rfl rfl (.cons rfl cI.any (.cons rfl cI.any .nil)) rfl rfl rfl) rfl rfl rfl) ?_;refine eJ (aGp c1 c2.length uE rfl cG rfl rfl rfl rfl rfl rfl) ?_;exact bV (by kernel_rfl) rfl
   case after =>
    intro e a'' W'' he;cases e with
    | normal =>
     obtain⟨l',h1,h2⟩:=he;rcases h2 with ⟨h3,_⟩ | ⟨_,h3⟩
     ·rw[h1] at h3; cases h3
     ·exact aIu (by omega) (Nat.le_refl _) hi rfl h3
    | ret=>exact he.elim
    | exit id=>exact he.elim
    | goto t=>exact he.elim
    | panic c=>exact he.elim
    | outgrown=>exact he.elim
end Vc
end Go.Proofs.YtjmbkipbmbnhjaaGreat

namespace Go.Proofs.YtjmbkipbmbnhjaaGreat
open Go.RowKit Go.Shelf
open Dg Zn
namespace Vc
attribute [local go_sem] Oper.semAt_some
theorem aX7 (w:World) (a b c:Obj):∃ w1,((w.alloc a).alloc b).alloc c=w1/\w1.heap.size=w.heap.size+3/\w1.heap[w.heap.size]?=((w.alloc a).heap[w.heap.size]?)/\w1.heap[w.heap.size+1]?=((w.alloc a).alloc b).heap[w.heap.size+1]?/\w1.heap[w.heap.size+1+1]?=(((w.alloc a).alloc b).alloc c).heap[w.heap.size+1+1]?/\Below w.heap.size w w1:=by
 have s1:(w.alloc a).heap.size=w.heap.size+1:=Array.size_push _;have s2:((w.alloc a).alloc b).heap.size=w.heap.size+1+1:=(Array.size_push _).trans (by rw[s1]);have s3:(((w.alloc a).alloc b).alloc c).heap.size=w.heap.size+1+1+1:=(Array.size_push _).trans (by rw[s2]);have b3:∀ j,j<((w.alloc a).alloc b).heap.size->(((w.alloc a).alloc b).alloc c).heap[j]?=((w.alloc a).alloc b).heap[j]?:=fun j hj=>Below.heap_alloc _ _ _ hj;have b2:∀ j,j<(w.alloc a).heap.size->((w.alloc a).alloc b).heap[j]?=(w.alloc a).heap[j]?:=fun j hj=>Below.heap_alloc _ _ _ hj;refine⟨_,rfl,s3,?_,?_,rfl,(((Below.refl _ w).alloc (Nat.le_refl _) _).alloc (by omega) _).alloc (by omega) _⟩
 ·rw[b3 _ (by omega),b2 _ (by omega)]
 ·rw[b3 _ (by omega)]
def eR (p:List Rat) (x:Rat) (pre:List Nat):List Rat:=pre.foldl (fun s k=>fC (p.getD (p.length-1-k) 0::s) (aN s x)) []
theorem pH (p:List Rat) (x:Rat) (pre:List Nat) (k:Nat):eR p x (pre++[k])=fC (p.getD (p.length-1-k) 0::eR p x pre) (aN (eR p x pre) x):=by simp[eR]
def cY (p:List Rat) (x:Rat):List Rat:=eR p x (eL id p.length)
theorem aD4 (p q:List Rat):(fC p q).length<=max p.length q.length:=by
 unfold fC;refine Nat.le_trans (iL _) ?_;rw[eX];exact Nat.le_refl _
theorem aB7 (p:List Rat) (x:Rat) (pre:List Nat):(eR p x pre).length<=pre.length:=by
 unfold eR;have:∀ (pre:List Nat) (s:List Rat),(pre.foldl (fun s k=>fC (p.getD (p.length-1-k) 0::s) (aN s x)) s).length<=s.length+pre.length:=by
  intro pre
  induction pre with
  | nil=>intro s; exact Nat.le_refl _
  | cons k pre ih =>
   intro s;rw[List.foldl_cons];refine Nat.le_trans (ih _) ?_;have h1:=aD4 (p.getD (p.length-1-k) 0::s) (aN s x);have h2:=kS s x;rw[List.length_cons] at h1 |-;omega
 have:=this pre [];rw[List.length_nil] at this;omega
def fI (K Kx:Nat):Nat->Nat
 | 0=>1
 | n+1=>max K (fI K Kx n)+(fI K Kx n+Kx)+1
theorem aMd {K Kx:Nat}:∀ {n:Nat},1<=fI K Kx n
 | 0=>Nat.le_refl _
 | n+1=>by rw[fI]; omega
theorem aH3 {p:List Rat} {x:Rat} {K Kx:Nat} (h1:1<=K) (h2:1<=Kx) (hp:aG p K=true) (hx:aG [x] Kx=true) (pre:List Nat):aG (eR p x pre) (fI K Kx pre.length)=true:=by
 have:∀ (n:Nat) (pre:List Nat),pre.length=n->aG (eR p x pre) (fI K Kx n)=true:=by
  intro n
  induction n with
  | zero =>
   intro pre h;obtain rfl:=List.eq_nil_of_length_eq_zero h;rfl
  | succ n ih =>
   intro pre h;obtain⟨pre',k,rfl⟩:∃ pre' k,pre=pre'++[k]:=⟨pre.dropLast,pre.getLast (by intro e; rw[e] at h; cases h),(List.dropLast_concat_getLast _).symm⟩
   have hl:pre'.length=n:=by simpa using h
   have hs:=ih pre' hl;rw[pH,fI];exact aVu (Nat.le_trans h1 (Nat.le_max_left _ _)) (by have:=aMd (K:=K) (Kx:=Kx) (n:=n); omega) (zQ (pU (Nat.le_max_left _ _) (oQ hp _)) (nQ (Nat.le_max_right _ _) hs)) (aRc aMd h2 hs hx)
 exact this _ pre rfl
theorem aD2 {K Kx i j:Nat} (h:i<=j):fI K Kx i<=fI K Kx j:=by
 induction h with
 | refl=>exact Nat.le_refl _
 | step _ ih=>rw[fI]; omega
theorem aV7 {a:Rat} {s:List Rat} {K j:Nat}:∀ L ρ w v,(SA.d (Dm.gen (bY (some 4) ([RT a K]++bN s j)))).is L ρ w v->(PL (a::s) (max K j)).is L ρ w v:=by
 have le:∀ (a:Rat) (i j:Nat),i<=j->∀ w v,(RT a i).at w v->(RT a j).at w v:=fun a i j h w v ⟨s,t,h1,h2,h3,h4,h5⟩=>⟨s,t,h1,h2,h3,Nat.le_trans h4 h,Nat.le_trans h5 h⟩
 refine aAm (.cons (le a _ _ (Nat.le_max_left _ _)) ?_)
 induction s with
 | nil=>exact .nil
 | cons b s ih=>exact .cons (le b _ _ (Nat.le_max_right _ _)) ih
set_option maxRecDepth 100000 in
set_option maxHeartbeats 4000000 in
theorem aQz (p:List Rat) (x:Rat) (K Kx:Nat) (hp:p.length<=100000) (hK:K<=1000000) (hKx:Kx<=1000000) (hK1:1<=K) (hKx1:1<=Kx) (hpz:aG p K=true) (hxz:aG [x] Kx=true) (hbd:fI K Kx p.length<=1000000):aD Tryz.prog 35 [PL p K,RT x Kx] (.one (PL (cY p x) (fI K Kx p.length))):=by
 intro L ρ w vs hlt hni _ hall
 match vs,hall with
 | [v0,v1],⟨g0,g1,_⟩ =>
  obtain⟨ao,cap,rfl,hcap,hlst⟩:=rJ (by decide) g0;rw[bB] at hcap hlst |-;have hx:=aEg uE g1;obtain⟨sx,tx,rfl,n1,n2,_,_⟩:=g1 w (Agree.refl _ _);have hx1s:∀ c∈[Value.bool (decide (x.num<0)),sx,.bool (decide (qd x<0)),tx],c.oneCell'=true:=by
   obtain⟨_,_,rfl,_⟩:=n1;obtain⟨_,_,rfl,_⟩:=n2;simp[Value.oneCell']
  generalize hcx:(decide (x.num<0))=bx at *;generalize hcy:(decide (qd x<0))=bz at *;obtain⟨b,off,cs,hao,hsh,hel⟩:∃ b off,∃ cs:List Value,(0<p.length->ao=some ⟨b,off,none⟩/\b<w.heap.size)/\(∀ k,Shaped (some 4) (.agg #[bA cs (p.length-1-k) 0,bA cs (p.length-1-k) 1,bA cs (p.length-1-k) 2,bA cs (p.length-1-k) 3]) [bA cs (p.length-1-k) 0,bA cs (p.length-1-k) 1,bA cs (p.length-1-k) 2,bA cs (p.length-1-k) 3])/\∀ j,j<p.length->(w.cell? ⟨b,off+j*4,none⟩=some (bA cs j 0)/\w.cell? ⟨b,off+j*4+1,none⟩=some (bA cs j 1)/\w.cell? ⟨b,off+j*4+2,none⟩=some (bA cs j 2)/\w.cell? ⟨b,off+j*4+3,none⟩=some (bA cs j 3))/\iI L w (RT (p.getD j 0) K) (.agg #[bA cs j 0,bA cs j 1,bA cs j 2,bA cs j 3]):=by
   rcases Nat.eq_zero_or_pos p.length with h0 | h0
   ·exact⟨0,0,[.bool false,.slice none 0 0,.bool false,.slice none 0 0],fun h=>by omega,fun k=>by rw[show p.length-1-k=0 by omega]; exact⟨rfl,rfl,by simp[bA,Value.oneCell']⟩,fun j hj=>by omega⟩
   ·obtain⟨b,off,e,⟨_,hb⟩,cs,hats,hcs⟩:=hlst h0;refine⟨b,off,cs,fun _=>⟨e,hb⟩,fun k=>(uO (hats w (Agree.refl _ _)) (eA (K:=K) (by omega))).1.2,fun j hj=>?_⟩;have h4:=uO (hats w (Agree.refl _ _)) (eA (K:=K) hj);have hi:∀ i,i<4->w.cell? ⟨b,off+j*4+i,none⟩=some (bA cs j i):=fun i hi=>by
     rw[Nat.add_assoc];exact hcs _ _ (h4.2 i hi)
    exact⟨⟨hi 0 (by decide),hi 1 (by decide),hi 2 (by decide),hi 3 (by decide)⟩,aEf uE fun w' hw=>(uO (hats w' hw) (eA (K:=K) hj)).1.1⟩
  refine(callsIn_wide (n:=9)).1 ?_;refine callsIn_of_wp_marks Tryz.func35 rfl trivial ?_ rfl;simp only[Tryz.ntmps35,List.size_toArray,List.length_cons,List.length_nil,Nat.reduceAdd,Nat.reduceSub,Array.replicate_succ,Array.replicate_zero,List.push_toArray,List.append_toArray,List.nil_append,List.cons_append]
  gi_wp2_with (refine⟨trivial,?_⟩; gi_at_call 83; refine(aMe Fence.wide _ trivial rfl _ _ _ _).mono ?_; rintro e w' ⟨rfl,rfl⟩)
  obtain⟨w1,hw1,hs1,q3,q5,q6,hb1⟩:=aX7 w (.cells #[.bool bx,sx,.bool bz,tx] 31) (.cells #[.slice none 0 0] 24) (.cells #[.slice ao p.length cap] 24);rw[alloc_at _ _ rfl] at q3;rw[alloc_at _ _ (Array.size_push _)] at q5;rw[alloc_at _ _ ((Array.size_push _).trans (congrArg (·+1) (Array.size_push _)))] at q6;rw[hw1];clear hw1;have hB5:w.heap.size+1<w1.heap.size:=by omega
  have hBs:w1.cell? ⟨w.heap.size+1+1,0,none⟩=some (.slice ao p.length cap):=by simp[World.cell?,q6]
  have hfold:∀ k,((#[10,11]:Array Tmp).zip (qP p.length (fun j=>.agg #[bA cs j 0,bA cs j 1,bA cs j 2,bA cs j 3]) k)).foldl (fun t (p,v)=>t.setIfInBounds p v) #[.slice ao p.length cap,.agg #[.bool bx,sx,.bool bz,tx],undef,.pointer (some ⟨w.heap.size,0,none⟩),.slice none 0 0,.pointer (some ⟨w.heap.size+1,0,none⟩),undef,undef,.slice ao p.length cap,.func (.func 130) #[] #[.pointer (some ⟨w.heap.size+1+1,0,none⟩)],undef,undef,undef,undef,undef,undef,undef,undef,undef,undef,undef]=#[.slice ao p.length cap,.agg #[.bool bx,sx,.bool bz,tx],undef,.pointer (some ⟨w.heap.size,0,none⟩),.slice none 0 0,.pointer (some ⟨w.heap.size+1,0,none⟩),undef,undef,.slice ao p.length cap,.func (.func 130) #[] #[.pointer (some ⟨w.heap.size+1+1,0,none⟩)],.int .i64 ((p.length-1-k:Nat):Int),.agg #[bA cs (p.length-1-k) 0,bA cs (p.length-1-k) 1,bA cs (p.length-1-k) 2,bA cs (p.length-1-k) 3],undef,undef,undef,undef,undef,undef,undef,undef,undef]:=by
   intro k;simp[qP]
  refine wpIn_rangeFunc_ownH (α:=Nat) rfl (by decide) (gf:=130) (lb:=#[.pointer (some ⟨w.heap.size+1+1,0,none⟩)]) rfl trivial (enters_of Tryz.func130 (by kernel_rfl) rfl)
   (aHv (C:=bA cs) (B:=w.heap.size+1) (b:=b) (off:=off) (by decide) (fun h=>(hao h).1) (by omega) hBs (by omega) (fun h=>⟨by have:=(hao h).2; omega,fun j hj=>by
    obtain⟨⟨e0,e1,e2,e3⟩,_⟩:=hel j hj;have hk:=(aCj (L:=fun _=>False) hb1).2 b (fun q=>q);exact⟨hk _ _ e0,hk _ _ e1,hk _ _ e2,hk _ _ e3⟩⟩)) iE.trans (iE.put (Nat.le_refl _)) (Below.refl _ _) (fun _=>rfl)
   (fun pre W=>mK w w1 (gN L (w.heap.size+1)) (w.heap.size+1) none 24 (PL (eR p x pre) (fI K Kx pre.length)) W)
   (fun _ _ _=>False) (mK.own (f:=fun pre=>PL (eR p x pre) (fI K Kx pre.length)) (by omega)) (fun _ _ _ _ _ hs _ _=>hs) ?start
   (fun k a' W=>∃ Bx,w1.heap.size<=Bx/\W.heap[Bx]?=some (.cells [bA cs (p.length-1-k) 0,bA cs (p.length-1-k) 1,bA cs (p.length-1-k) 2,bA cs (p.length-1-k) 3].toArray 31 (0,0))/\a'=Act.put { tmps:=#[.slice ao p.length cap,.agg #[.bool bx,sx,.bool bz,tx],undef,.pointer (some ⟨w.heap.size,0,none⟩),.slice none 0 0,.pointer (some ⟨w.heap.size+1,0,none⟩),undef,undef,.slice ao p.length cap,.func (.func 130) #[] #[.pointer (some ⟨w.heap.size+1+1,0,none⟩)],.int .i64 ((p.length-1-k:Nat):Int),.agg #[bA cs (p.length-1-k) 0,bA cs (p.length-1-k) 1,bA cs (p.length-1-k) 2,bA cs (p.length-1-k) 3],undef,undef,undef,undef,undef,undef,undef,undef,undef],defers:=[] } (some 7) (.pointer (some ⟨Bx,0,none⟩))) ?hAx ?assign ?body ?done ?stop
  case start =>
   exact⟨hb1,Nat.le_refl _,fun _ _ _=>rfl,.slice none 0 0,[.slice none 0 0],q5,⟨rfl,rfl⟩,fun W' _=>⟨none,0,rfl,⟨Nat.le_refl _,by decide⟩,fun h=>absurd h (Nat.lt_irrefl 0)⟩,by simp[cS]⟩
  case hAx =>
   rintro k a' _ W W' row ⟨Bx,h1,h2,h3⟩ hg hr;refine⟨Bx,h1,?_,h3⟩;rw[hg.block Bx (Array.getElem?_eq_some_iff.1 h2).1 (fun e=>by
    obtain⟨_,o',m2,m3⟩:=hr Bx e.symm;rw[h2] at m2;obtain rfl:=Option.some.inj m2;cases m3)]
   exact h2
  case assign =>
   intro l pre k W K' hi hK';show Code.wpIn _ _ _ _ _ (Act.mk (((#[10,11]:Array Tmp).zip (qP p.length (fun j=>.agg #[bA cs j 0,bA cs j 1,bA cs j 2,bA cs j 3]) k)).foldl (fun t (p,v)=>t.setIfInBounds p v) #[.slice ao p.length cap,.agg #[.bool bx,sx,.bool bz,tx],undef,.pointer (some ⟨w.heap.size,0,none⟩),.slice none 0 0,.pointer (some ⟨w.heap.size+1,0,none⟩),undef,undef,.slice ao p.length cap,.func (.func 130) #[] #[.pointer (some ⟨w.heap.size+1+1,0,none⟩)],undef,undef,undef,undef,undef,undef,undef,undef,undef,undef,undef]) []) W;rw[hfold k];exact aHw (u7:=7) (u11:=11) (Nat.le_of_ble_eq_true rfl) (by decide) rfl (hsh k) rfl rfl rfl rfl rfl rfl fun W2 hb _ hcell=>hK' _ W2 (aGv hb) (aIq hi.size hb) (hi.later hb) ⟨W.heap.size,hi.size,hcell,rfl⟩
  case stop =>
   rintro D c pre W _ _ h _;exact h.elim
  case done =>
   intro D ys W hD hys hI hKD;obtain rfl:ys=eL id p.length:=hys;simp only[yE] at hI;obtain⟨v,cs5,c1,c2,c3,c4⟩:=hI.var;obtain⟨a5,k5,hv,_⟩:=c3.at;obtain⟨n5,hv⟩:∃ n5,v=.slice a5 n5 k5:=⟨_,hv⟩
   subst hv;have hcs:cs5=[.slice a5 n5 k5]:=c2.1;subst hcs;have f0:W.cell? ⟨w.heap.size+1,0,none⟩=some (.slice a5 n5 k5):=by simp[World.cell?,c1]
   gi_wp2
   refine⟨by simp,.inl ⟨_,_,rfl,run_takeDeferred hKD,?_⟩⟩;refine⟨_,results_tmp rfl _ _ _,_,rfl,?_,?_⟩
   ·refine⟨hI.below.os,hI.below.tape,hI.below.output,?_,fun j hj=>?_⟩
    ·have h1:=hI.below.size;simp;omega
    ·rw[World.putObj_heap_other (by omega)];exact hI.below.block j hj
   ·show AV.is L ρ _ (AV.one (PL (eR p x (eL id p.length)) (fI K Kx p.length))) _;refine uP (s:=PL (eR p x (eL id p.length)) (fI K Kx p.length)) (ρ:=ρ) fun w'' hag=>c3 w'' (iM.trans (aCi (grownBy_putObj' W D (.deferred none)) (fun r e=>by cases e; exact⟨_,hKD,rfl⟩)) ?_);have:=iM.agree hag;exact⟨this.1,fun b hb=>this.2 b fun q=>hb (.inl q)⟩
  case body =>
   rintro l pre k a' W hl _ hi ⟨Bx,hx1,hx2,rfl⟩ hlen;have hbW:=hi.below.size;obtain⟨vc,csv,c1,c2,c3,c4⟩:=hi.var;have hkl:p.length-1-k<p.length:=by omega
   have hpre:fI K Kx pre.length<=1000000:=Nat.le_trans (aD2 (Nat.le_of_lt hlen)) hbd;have hnew:=aH3 hK1 hKx1 hpz hxz (pre++[k]);have hsl:=aB7 p x pre;have hsl2:=kS (eR p x pre) x;have h3W:W.heap[w.heap.size]?=some (.cells [Value.bool bx,sx,.bool bz,tx].toArray 31 (0,0)):=(hi.same _ (by omega) (by omega)).trans q3;have hxp:(SA.d (Dm.gen (pG (some 4) (RT x Kx)))).is (gN L (w.heap.size+1)) ρ W (.pointer (some ⟨w.heap.size,0,none⟩)):=wN h3W (by rintro(q | q); exact absurd (hlt _ q) (by omega); omega) ⟨rfl,rfl,hx1s⟩ (sO (by omega) hi.below hx);have hap:(SA.d (Dm.gen (pG (some 4) (RT (p.getD (p.length-1-k) 0) K)))).is (gN L (w.heap.size+1)) ρ W (.pointer (some ⟨Bx,0,none⟩)):=wN hx2 (by rintro(q | q); exact absurd (hlt _ q) (by omega); omega) (hsh k) (sO (by omega) hi.below (hel _ hkl).2);have hBlW:w.heap.size+1<W.heap.size:=by have:=hi.size; omega
   refine wpIn_block (wpIn_mono (RV.wpIn (x0:=.no) (C:=CS W (gN L (w.heap.size+1)) (aM1 hlt hbW hBlW) (aM0 hlt hni hi) 21 (w.heap.size+1) none (PL (eR p x (pre++[k])) (fI K Kx (pre++[k]).length))) (K:=fun l=>aF .no l FK=.dead)
    (l:=[(.s 3,.av (.one (.d (Dm.gen (pG (some 4) (RT x Kx)))))),(.s 5,.av (.one (.v (.pointer (some ⟨w.heap.size+1,0,none⟩))))),(.s 7,.av (.one (.d (Dm.gen (pG (some 4) (RT (p.getD (p.length-1-k) 0) K))))))]) (fun a w h=>CS.drew rfl h) (by kernel_rfl) (fun _=>by kernel_rfl) (by kernel_rfl) ?walk ?begin) ?after)
   case begin =>
    refine .inl ⟨rfl,ρ,aCo (Eq.refl 21) rfl (fun i=>rfl) fun t=>?_⟩;by_cases e3:t=3
    ·subst e3; exact .inr ⟨_,rfl,rfl,hxp⟩
    ·by_cases e5:t=5
     ·subst e5; exact .inr ⟨_,rfl,rfl,rfl⟩
     ·by_cases e7:t=7
      ·subst e7; exact .inr ⟨_,rfl,rfl,hap⟩
      ·refine .inl ?_;show (bif Key.beq (.s 3) (.s t) then _ else bif Key.beq (.s 5) (.s t) then _ else bif Key.beq (.s 7) (.s t) then _ else _)=_;rw[fV (by simpa using Ne.symm e3),fV (by simpa using Ne.symm e5),fV (by simpa using Ne.symm e7)];rfl
   case walk =>
    rw[pH] at hnew |-;refine eJ (lF (bO aB) rfl rfl rfl) ?_;refine aD8 (lF (aEm (r:=113) (k:=some 4) aZ mU rfl rfl rfl (by intro s hs; obtain rfl:=List.mem_singleton.1 hs; rfl) (by intro s hs; obtain rfl:=List.mem_singleton.1 hs; rfl) rfl rfl rfl (by decide) (.cons rfl cI.any .nil) rfl rfl) rfl rfl rfl) ?_;refine eJ (lF (aDi c1 c2 c3 rfl cQ rfl rfl (by decide) rfl) rfl rfl rfl) ?_;refine iN (lF (aCc (r:=113) (r':=115) (k:=some 4) (G:=Dm.gen (bY (some 4) ([RT (p.getD (p.length-1-k) 0) K]++bN (eR p x pre) (fI K Kx pre.length)))) (fun _ h=>h) (iZ (by decide) zA) (cM _ _) (iF _ _) (by rw[bB]; show (1+_)*64<=_; omega) (by rw[bB]; show 1+_<=_; omega) aZ iO rfl rfl rfl aCy rfl rfl rfl (by decide) rfl rfl rfl rfl rfl rfl rfl rfl) rfl rfl rfl) ?_;refine eJ (lF (aDi c1 c2 c3 rfl cQ rfl rfl (by decide) rfl) rfl rfl rfl) ?_;refine eJ (lF (bO aB) rfl rfl rfl) ?_;refine eJ (lF (bR (pN (eR p x pre) x (fI K Kx pre.length) Kx (by omega) (by omega) (by omega)) rfl rfl (by decide) Tryz.func38 rfl rfl (.cons rfl cI.any (.cons rfl cI.any .nil)) rfl rfl rfl) rfl rfl rfl) ?_;refine eJ (lF (bR ((aVf (p.getD (p.length-1-k) 0::eR p x pre) (aN (eR p x pre) x) (max K (fI K Kx pre.length)) (3*(fI K Kx pre.length+Kx)+20) (by omega) (by omega) (by rw[List.length_cons]; omega) (by omega)).mono (fun _ _ _ _ h=>h) (dJ hnew)) rfl rfl (by decide) Tryz.func84 rfl rfl (.cons rfl ⟨rfl,aV7⟩ (.cons rfl cI.any .nil)) rfl rfl rfl) rfl rfl rfl) ?_;refine eJ (aGp c1 c2.length aXu rfl tJ rfl rfl rfl rfl rfl rfl) ?_;exact bV (by kernel_rfl) rfl
   case after =>
    intro e a'' W'' he;cases e with
    | normal =>
     obtain⟨l',h1,h2⟩:=he;rcases h2 with ⟨h3,_⟩ | ⟨_,h3⟩
     ·rw[h1] at h3; cases h3
     ·exact aIu (by omega) (Nat.le_refl _) hi rfl h3
    | ret=>exact he.elim
    | exit id=>exact he.elim
    | goto t=>exact he.elim
    | panic c=>exact he.elim
    | outgrown=>exact he.elim
end Vc
end Go.Proofs.YtjmbkipbmbnhjaaGreat

namespace Go.Proofs.YtjmbkipbmbnhjaaGreat
open Go.RowKit
open Go.Lib (hid)
open Dg Zn
namespace Vc
theorem yF {k:IntKind} {zs:List Int}:∀ s∈jP k zs,s.kind=some none:=by
 intro s hs;obtain⟨z,_,rfl⟩:=List.mem_map.1 hs;rfl
theorem yV (zs:List Int) (h:(zs.all fun z=>decide (-9223372036854775808<=z)&&decide (z<=9223372036854775807))=true) (i:Nat) : -9223372036854775808<=zs.getD i 0/\zs.getD i 0<=9223372036854775807:=by
 rcases Nat.lt_or_ge i zs.length with hl | hl
 ·have:=List.all_eq_true.1 h zs[i] (List.getElem_mem hl);rw[Bool.and_eq_true] at this;rw[List.getD_eq_getElem?_getD,List.getElem?_eq_getElem hl];exact⟨of_decide_eq_true this.1,of_decide_eq_true this.2⟩
 ·rw[List.getD_eq_getElem?_getD,List.getElem?_eq_none hl];exact⟨by decide,by decide⟩
theorem aV0 {a b:Rat} (h:a=b) {j k:Nat}:aD Tryz.prog 18 [RT a j,RT b k] (.one (.v (.bool true))):=by
 have:=aG7 a b j k;rw[decide_eq_true h] at this;exact this
theorem aW9 (p:List Rat) (K:Nat) (hK:K<=1000000) (hp:p.length<=1000000) (h:¬ (p≠[]/\aH p=0)):aD Tryz.prog 65 [PL p K] (.one (.v (.bool true))):=by
 have:=aQy p K hK hp;rw[decide_eq_true h] at this;exact this
set_option maxRecDepth 100000
theorem aQs (z:Int):0<=dS z 105/\dS z 105<105:=by
 unfold dS;exact⟨Int.emod_nonneg _ (by decide),Int.emod_lt_of_pos _ (by decide)⟩
def bZ (z:Int):Rat:=Rat.divInt ((dS z 105).tmod 15-7) (1+((dS z 105).tdiv 15).tmod 4)
theorem small_facts (z:Int):(0<=(dS z 105).tmod 15/\(dS z 105).tmod 15<15)/\(0<=(dS z 105).tdiv 15/\(dS z 105).tdiv 15<=7)/\(0<=((dS z 105).tdiv 15).tmod 4/\((dS z 105).tdiv 15).tmod 4<4):=by
 obtain⟨h1,h2⟩:=aQs z;generalize dS z 105=m at *;have d0:0<=m.tdiv 15:=Int.tdiv_nonneg h1 (by decide);refine⟨⟨Int.tmod_nonneg _ h1,Int.tmod_lt_of_pos _ (by decide)⟩,⟨d0,?_⟩,⟨Int.tmod_nonneg _ d0,Int.tmod_lt_of_pos _ (by decide)⟩⟩;rw[Int.tdiv_eq_ediv_of_nonneg h1];omega
theorem lH (z:Int):aG [bZ z] 1=true:=by
 obtain⟨⟨a1,a2⟩,_,b1,b2⟩:=small_facts z;have h:=xX (p:=(dS z 105).tmod 15-7) (q:=1+((dS z 105).tdiv 15).tmod 4) (k:=1) (by rw[kW]; omega) (by rw[kW]; omega);exact nY h.1 h.2
theorem lY (z:Int) (h1 : -9223372036854775808<=z) (h2:z<=9223372036854775807):aD (D:=Dm) Tryz.prog 11 [.v (.int .i64 z)] (.one (RT (bZ z) 1)):=by
 have hf:=small_facts z;refine aD.of (n:=14) Tryz.func11 rfl rfl rfl rfl rfl fun cx hfr=>?_;refine sr rfl ?_;refine p2 (aU (i:=0) bX) ?_;refine RV.done (sr rfl ?_);refine xm ?_;refine xd rfl (aQ2 z 105 h1 h2 (by decide) (by decide)) Tryz.func22 (xb rfl rfl) hfr ?_;refine xn ?_;refine RV.done (sr rfl ?_);refine xm ?_;refine p1 (aFc (by decide) rfl rfl bd rfl rfl) ?_;refine p1 (eB (c:=(dS z 105).tmod 15-7) (by rw[bU (by omega) (by omega)]) rfl rfl bd rfl rfl) ?_;refine xm ?_;refine p1 (aFd (c:=(dS z 105).tdiv 15) (by decide) (bU (by omega) (by omega)) rfl rfl bd rfl rfl) ?_;refine p1 (aFc (by decide) rfl rfl bd rfl rfl) ?_;refine p1 (cJ (c:=1+((dS z 105).tdiv 15).tmod 4) (by rw[bU (by omega) (by omega)]) rfl rfl bd rfl rfl) ?_;refine xd rfl ((nR ((dS z 105).tmod 15-7) (1+((dS z 105).tdiv 15).tmod 4) (by omega) (by omega) (by omega) (by omega)).mono (fun _ _ _ _ h=>h) (dT (lH z))) Tryz.func32 (xb rfl rfl) hfr ?_;refine p1 (aQ (aB).2) ?_;refine RV.done ?_;refine CV.ret ?_;exact aR rfl (.inr rfl) ⟨_,_,_,_,_,rfl,rfl,rfl,aB⟩ cC
theorem aIc (p q:List Rat) (j K:Nat) (hj:j<=1000000) (hK:K<=1000000) (hp:p.length<=1000000) (hq:q.length<=1000000):aD Tryz.prog 92 [PL p j,PL q K] (.one (PL (fC p q) (3*(j+K)+20))):=by
 refine aD.of (n:=31) Tryz.func92 rfl rfl rfl rfl rfl fun cx hfr=>?_;refine sr rfl ?_;refine xn ?_;refine RV.done (sr rfl ?_);refine xn ?_;refine RV.done ?_;refine CV.seq ?_;refine CV.seq ?_;refine oL 5 100 31 (some 4) rfl rfl rfl rfl ?_;refine CV.region rfl (fun h=>nomatch h) ?_;refine xn ?_;refine RV.done ?_;refine CV.block ?_;refine CV.loop (X:={k:Nat // k<=max p.length q.length}) (fun k=>[(.s 6,.av (.one (.v (.int .i64 (k.1:Int))))),(.s 5,.av (.one (.sl 100 k.1))),(.b 100,.row 31 (some 4) (iB (fun i=>p.getD i 0+q.getD i 0) (3*(j+K)+20) k.1)),(.s 0,.av (.one (PL p j))),(.s 1,.av (.one (PL q K)))]) (fun k=>max p.length q.length-k.1) ⟨0,Nat.zero_le _⟩ (bF.mk ⟨aC _,aC _,eO rfl,aC _,aC _,trivial⟩ rfl rfl) (fun k=>?_);obtain⟨k,hk⟩:=k;simp only;refine CV.seq ?_;refine sr rfl ?_;refine xm ?_;refine xm ?_;refine p1 (bJ bB aZ) ?_;refine p1 (dU) ?_;refine xm ?_;refine RV.bool (fun h0=>?_) (fun h0=>?_)
 ·have hlt:k<max p.length q.length:=(by have:=of_decide_eq_true h0; omega)
  refine xk ?_;refine xk ?_;refine xk ?_;refine xk ?_;refine p1 (cZ) ?_;refine RV.done ?_;refine CV.yes rfl ?_;refine CV.skip ?_;refine CV.seq ?_;refine CV.block ?_;refine CV.region rfl (fun h=>nomatch h) ?_;refine xm ?_;refine xm ?_;refine xm ?_;refine xc (zV _ _ _) Tryz.func135 (xb rfl rfl) hfr ?_;refine xm ?_;refine xm ?_;refine xc (zV _ _ _) Tryz.func135 (xb rfl rfl) hfr ?_;refine xc (yJ _ _ _ _ hj hK) Tryz.func31 (xb rfl rfl) hfr ?_;refine p1 (fZ (G:=Dm.gen (bY (some 4) [_])) (cM _ _) dC mU rfl rfl rfl (by intro s hs; obtain rfl:=List.mem_singleton.1 hs; rfl) rfl rfl rfl bd (xa rfl)) ?_;refine iN (aM.plain (mA (r:=100) (r':=101) (iZ (by decide) rfl) (by rw[fU]; show (k+1)*64<=_; omega) (by rw[fU]; show k+1<=_; omega) dC iO rfl rfl rfl (by intro x hx; obtain rfl:=List.mem_singleton.1 hx; rfl) fU.symm rfl rfl bd rfl rfl rfl rfl rfl rfl rfl rfl) rfl) ?_;refine xn ?_;refine RV.done ?_;refine CV.region rfl (fun h=>nomatch h) ?_;refine xm ?_;refine p1 (cJ (c:=((k+1:Nat):Int)) (by rw[bU (by omega) (by omega)]; omega) rfl rfl bd rfl rfl) ?_;refine xn ?_;refine RV.done ?_;exact⟨⟨k+1,hlt⟩,jX (fun i=>if i=100 then 101 else i) ⟨fK,lJ rfl rfl,eO (by rw[nW,nW]; exact sX (f:=fun i=>p.getD i 0+q.getD i 0)),fK,fK,trivial⟩ rfl rfl rfl rfl,by show max p.length q.length-(k+1)<max p.length q.length-k; omega⟩
 ·refine y1 (cE (.inl rfl)) ?_;refine y1 (cE (.inl rfl)) ?_;refine y1 (bJ bB aZ) ?_;refine y1 (dU) ?_;refine p1 (eI) ?_;refine RV.done ?_;refine CV.cond rfl (fun hc=>?_) (fun hc=>?_)
  ·have hlt:k<max p.length q.length:=(by have:=of_decide_eq_true hc; omega)
   refine CV.skip ?_;refine CV.seq ?_;refine CV.block ?_;refine CV.region rfl (fun h=>nomatch h) ?_;refine xm ?_;refine xm ?_;refine xm ?_;refine xc (zV _ _ _) Tryz.func135 (xb rfl rfl) hfr ?_;refine xm ?_;refine xm ?_;refine xc (zV _ _ _) Tryz.func135 (xb rfl rfl) hfr ?_;refine xc (yJ _ _ _ _ hj hK) Tryz.func31 (xb rfl rfl) hfr ?_;refine p1 (fZ (G:=Dm.gen (bY (some 4) [_])) (cM _ _) dC mU rfl rfl rfl (by intro s hs; obtain rfl:=List.mem_singleton.1 hs; rfl) rfl rfl rfl bd (xa rfl)) ?_;refine iN (aM.plain (mA (r:=100) (r':=101) (iZ (by decide) rfl) (by rw[fU]; show (k+1)*64<=_; omega) (by rw[fU]; show k+1<=_; omega) dC iO rfl rfl rfl (by intro x hx; obtain rfl:=List.mem_singleton.1 hx; rfl) fU.symm rfl rfl bd rfl rfl rfl rfl rfl rfl rfl rfl) rfl) ?_;refine xn ?_;refine RV.done ?_;refine CV.region rfl (fun h=>nomatch h) ?_;refine xm ?_;refine p1 (cJ (c:=((k+1:Nat):Int)) (by rw[bU (by omega) (by omega)]; omega) rfl rfl bd rfl rfl) ?_;refine xn ?_;refine RV.done ?_;exact⟨⟨k+1,hlt⟩,jX (fun i=>if i=100 then 101 else i) ⟨fK,lJ rfl rfl,eO (by rw[nW,nW]; exact sX (f:=fun i=>p.getD i 0+q.getD i 0)),fK,fK,trivial⟩ rfl rfl rfl rfl,by show max p.length q.length-(k+1)<max p.length q.length-k; omega⟩
  ·refine CV.exit ?_;refine CV.seq ?_;have hk1:k=max p.length q.length:=(by have h1:=of_decide_eq_false h0; have h2:=of_decide_eq_false hc; omega)
   subst hk1;rw[pR];refine jU (r:=100) (t:=5) (G:=Dm.gen (bY (some 4) (bN (tab (fun i=>p.getD i 0+q.getD i 0) (max p.length q.length)) (3*(j+K)+20)))) (cx.bw hfr) rfl rfl (by rw[bB,eX]) rfl rfl (cM _ _) (iF _ _) ?_;refine CV.region rfl (fun h=>nomatch h) ?_;refine xm ?_;refine xd rfl (lD _ _ (by rw[eX]; omega)) Tryz.func12 (xa rfl) hfr ?_;refine xn ?_;refine RV.done ?_;refine CV.ret ?_;exact aR rfl (.inr rfl) rfl cC
theorem aBx (p:List Rat) (a:Rat) (j K:Nat) (hj:j<=1000000) (hK:K<=1000000) (hp:p.length<=1000000):aD Tryz.prog 46 [PL p j,RT a K] (.one (PL (aN p a) (3*(j+K)+20))):=by
 refine aD.of (n:=24) Tryz.func46 rfl rfl rfl rfl rfl fun cx hfr=>?_;refine sr rfl ?_;refine p2 (cA (i:=0)) ?_;refine xn ?_;refine RV.done (sr rfl ?_);refine xn ?_;refine RV.done ?_;refine CV.seq ?_;refine CV.seq ?_;refine oL 5 100 31 (some 4) rfl rfl rfl rfl ?_;refine CV.region rfl (fun h=>nomatch h) ?_;refine xn ?_;refine RV.done ?_;refine CV.block ?_;refine CV.loop (X:={k:Nat // k<=p.length}) (fun k=>[(.s 6,.av (.one (.v (.int .i64 (k.1:Int))))),(.s 5,.av (.one (.sl 100 k.1))),(.b 100,.row 31 (some 4) (iB (fun i=>p.getD i 0*a) (3*(j+K)+20) k.1)),(.s 0,.av (.one (PL p j))),(.s 3,.av (.one (.ptr 0 0))),(.b 0,.blk 31 [(some 4,RT a K)])]) (fun k=>p.length-k.1) ⟨0,Nat.zero_le _⟩ (bF.mk ⟨aC _,aC _,eO rfl,aC _,aC _,aC _,trivial⟩ rfl rfl) (fun k=>?_);obtain⟨k,hk⟩:=k;simp only;refine CV.seq ?_;refine sr rfl ?_;refine xm ?_;refine xm ?_;refine p1 (bJ bB aZ) ?_;refine p1 (dU) ?_;refine RV.done ?_;refine CV.cond rfl (fun hc=>?_) (fun hc=>?_)
 ·have hlt:k<p.length:=(by have:=of_decide_eq_true hc; omega)
  refine CV.skip ?_;refine CV.seq ?_;refine CV.block ?_;refine CV.region rfl (fun _=>by kernel_rfl) ?_;refine xm ?_;refine xm ?_;refine xm ?_;refine p1 (dB (k:=some 4) (i:=k) (eA hlt) aZ cG) ?_;refine p1 (bO aB) ?_;refine p1 (aJ aB) ?_;refine xc (aCu _ _ _ _ hj hK) Tryz.func89 (xb rfl rfl) hfr ?_;refine p1 (fZ (G:=Dm.gen (bY (some 4) [_])) (cM _ _) dC mU rfl rfl rfl (by intro s hs; obtain rfl:=List.mem_singleton.1 hs; rfl) rfl rfl rfl bd (xa rfl)) ?_;refine iN (aM.plain (mA (r:=100) (r':=101) (iZ (by decide) rfl) (by rw[fU]; show (k+1)*64<=_; omega) (by rw[fU]; show k+1<=_; omega) dC iO rfl rfl rfl (by intro x hx; obtain rfl:=List.mem_singleton.1 hx; rfl) fU.symm rfl rfl bd rfl rfl rfl rfl rfl rfl rfl rfl) rfl) ?_;refine xn ?_;refine bV (by kernel_rfl) ?_;refine CV.region rfl (fun h=>nomatch h) ?_;refine xm ?_;refine p1 (cJ (c:=((k+1:Nat):Int)) (by rw[bU (by omega) (by omega)]; omega) rfl rfl bd rfl rfl) ?_;refine xn ?_;refine RV.done ?_;exact⟨⟨k+1,hlt⟩,jX (fun i=>if i=100 then 101 else i) ⟨fK,lJ rfl rfl,eO (sX (f:=fun i=>p.getD i 0*a)),fK,fun _ _ _ _ h=>h,⟨rfl,fun _ _ _ _ h=>h⟩,trivial⟩ rfl rfl rfl rfl,by show p.length-(k+1)<p.length-k; omega⟩
 ·refine CV.exit ?_;refine CV.seq ?_;have hk1:k=p.length:=(by have:=of_decide_eq_false hc; omega)
  subst hk1;rw[pR];refine jU (r:=100) (t:=5) (G:=Dm.gen (bY (some 4) (bN (tab (fun i=>p.getD i 0*a) p.length) (3*(j+K)+20)))) (cx.bw hfr) rfl rfl (by rw[bB,eX]) rfl rfl (cM _ _) (iF _ _) ?_;refine CV.region rfl (fun h=>nomatch h) ?_;refine xm ?_;refine xd rfl (lD _ _ (by rw[eX]; omega)) Tryz.func12 (xa rfl) hfr ?_;refine xn ?_;refine RV.done ?_;refine CV.ret ?_;exact aR rfl (.inr rfl) rfl cC
theorem aVz {k:Option Nat} {l l':List (SA Dm)} (h:fQ (fun s s':SA Dm=>∀ L ρ w v,s.is L ρ w v->s'.is L ρ w v) l l'):∀ L ρ w cs,bW L ρ w (cW k l) cs->bW L ρ w (cW k l') cs:=by
 induction h with
 | nil=>intro L ρ w cs h; exact h
 | cons h1 _ ih =>
  rintro L ρ w cs ⟨p,r,v,e1,e2,e3,e4⟩;exact⟨p,r,v,e1,e2,h1 L ρ w v e3,ih L ρ w r e4⟩
theorem aS9 {B:Nat}:∀ L ρ w v,(SA.v dR:SA Dm).is L ρ w v->(RT 0 B).is L ρ w v:=by
 intro L ρ w v hv w' _;obtain rfl:v=dR:=hv;have h0:(aA (0:Int).natAbs).length<=B:=by rw[show (0:Int).natAbs=0 from rfl,fY]; exact Nat.zero_le _
 exact⟨_,_,rfl,aL.nil (by decide),aL.nil (by decide),h0,h0⟩
theorem aUf {T:TypeId} {n B:Nat} {f:Nat->Nat}:(XV.row T (some 4) (List.replicate n (SA.v dR)):XV Dm).leR f (.row T (some 4) (bN (List.replicate n 0) B)):=by
 have h:fQ (fun s s':SA Dm=>∀ L ρ w v,s.is L ρ w v->s'.is L ρ w v) (List.replicate n (SA.v dR)) (bN (List.replicate n 0) B):=by
  unfold bN;rw[List.map_replicate]
  induction n with
  | zero=>exact .nil
  | succ n ih=>rw[List.replicate_succ,List.replicate_succ]; exact .cons aS9 ih
 exact⟨rfl,rfl,h.length_eq,fun _=>zA,aVz h⟩
theorem aV8 {l:List Rat} {B i:Nat} {a:Rat}:(bN l B).set i (RT a B)=bN (l.set i a) B:=by simp[bN,List.map_set]
def gS (p q:List Rat) (i:Nat):Nat->List Rat->List Rat
 | 0,l=>l
 | j+1,l=>(gS p q i j l).set (i+j) ((gS p q i j l).getD (i+j) 0+p.getD i 0*q.getD j 0)
def gJ (p q:List Rat):Nat->List Rat
 | 0=>List.replicate (p.length+q.length-1) 0
 | i+1=>gS p q i q.length (gJ p q i)
def iS (p q:List Rat):List Rat:=if p=[]\/q=[] then [] else aI (gJ p q p.length)
theorem zD {p q:List Rat} {i:Nat}:∀ {j:Nat} {l:List Rat},(gS p q i j l).length=l.length
 | 0,_=>rfl
 | j+1,l=>by rw[gS,List.length_set,zD]
theorem tL {p q:List Rat}:∀ {i:Nat},(gJ p q i).length=p.length+q.length-1
 | 0=>List.length_replicate
 | i+1=>by rw[gJ,zD,tL]
theorem aMq {l:List Rat} {B i:Nat} {a:Rat} (hl:aG l B=true) (ha:aG [a] B=true):aG (l.set i a) B=true:=pW fun b hb=>by
 rcases List.mem_or_eq_of_mem_set hb with hb | rfl
 ·exact wM hl hb
 ·exact ha
theorem aEe {p q:List Rat} {K J:Nat} (h1:1<=K) (h2:1<=J) (hp:aG p K=true) (hq:aG q J=true) {i:Nat}:∀ {j m:Nat} {l:List Rat},1<=m->aG l m=true->aG (gS p q i j l) (m+j*(K+J+1))=true
 | 0,m,l,_,hl=>nQ (Nat.le_add_right _ _) hl
 | j+1,m,l,hm,hl=>by
  have ih:=aEe h1 h2 hp hq (i:=i) (j:=j) hm hl;rw[gS,Nat.succ_mul];refine aMq (nQ (by omega) ih) (pU ?_ (aFa (by omega) (by omega) (oQ ih (i+j)) (aAk h1 h2 (oQ hp i) (oQ hq j))));omega
theorem aEd {p q:List Rat} {K J:Nat} (h1:1<=K) (h2:1<=J) (hp:aG p K=true) (hq:aG q J=true):∀ {i:Nat},aG (gJ p q i) (1+i*(q.length*(K+J+1)))=true
 | 0=>pW fun a ha=>by rw[List.eq_of_mem_replicate ha]; exact pS
 | i+1=>by
  rw[gJ,Nat.succ_mul,<- Nat.add_assoc];exact aEe h1 h2 hp hq (by omega) (aEd h1 h2 hp hq)
theorem aRq (p q:List Rat) (K J B:Nat) (hp:p.length<=1000000) (hq:q.length<=1000000) (h:p=[]\/q=[]):aD Tryz.prog 42 [PL p K,PL q J] (.one (PL [] B)):=by
 refine aD.of (n:=58) Tryz.func42 rfl rfl rfl rfl rfl fun cx hfr=>?_;refine sr rfl ?_;refine xn ?_;refine RV.done ?_;refine CV.seq ?_;refine sr rfl ?_;refine xm ?_;refine p1 (bJ bB aZ) ?_;refine p1 (cR) ?_;refine xm ?_;refine RV.bool (fun h0=>?_) (fun h0=>?_)
 ·refine xk ?_;refine xk ?_;refine xk ?_;refine p1 (cZ) ?_;refine RV.done ?_;refine CV.yes rfl ?_;refine sr rfl ?_;refine xn ?_;refine RV.done ?_;refine CV.ret ?_;exact aR rfl (.inr rfl) rfl (fun L ρ w v h=>qC L ρ w v h)
 ·refine y1 (cE (.inl rfl)) ?_;refine y1 (bJ bB aZ) ?_;refine y1 (cR) ?_;refine p1 (eI) ?_;refine RV.done ?_;refine CV.cond rfl (fun hc=>?_) (fun hc=>False.elim (h.elim (fun e=>by rw[e] at h0; simp at h0) (fun e=>by rw[e] at hc; simp at hc)));refine sr rfl ?_;refine xn ?_;refine RV.done ?_;refine CV.ret ?_;exact aR rfl (.inr rfl) rfl (fun L ρ w v h=>qC L ρ w v h)
section
variable (p q:List Rat) (K J B:Nat) (hp:p.length<=100000) (hq:q.length<=100000) (hp0:p≠[]) (hq0:q≠[]) (hK:K<=150000) (hJ:J<=150000) (hB:B<=1000000) (hz:∀ i j,i<p.length->j<=q.length->aG (gS p q i j (gJ p q i)) B=true)
include hp hq hp0 hq0 hK hJ hB hz
theorem aIb:aD Tryz.prog 42 [PL p K,PL q J] (.one (PL (aI (gJ p q p.length)) B)):=by
 have hpl:=List.length_pos_iff.2 hp0;have hql:=List.length_pos_iff.2 hq0;refine aD.of (n:=58) Tryz.func42 rfl rfl rfl rfl rfl fun cx hfr=>?_;refine sr rfl ?_;refine xn ?_;refine RV.done ?_;refine CV.seq ?_;refine sr rfl ?_;refine xm ?_;refine p1 (bJ bB aZ) ?_;refine p1 (cR) ?_;refine xm ?_;refine RV.bool (fun hb=>False.elim (by simp at hb; exact hp0 hb)) (fun hb=>?_);refine y1 (cE (.inl rfl)) ?_;refine y1 (bJ bB aZ) ?_;refine y1 (cR) ?_;refine p1 (eI) ?_;refine RV.done ?_;refine CV.cond rfl (fun hc=>False.elim (by simp at hc; exact hq0 hc)) (fun hc=>?_);refine CV.skip ?_;refine sr rfl ?_;refine xm ?_;refine p1 (bJ bB aZ) ?_;refine xm ?_;refine p1 (bJ bB aZ) ?_;refine p1 (cJ (c:=((p.length+q.length:Nat):Int)) (by rw[bU (by omega) (by omega)]; omega) rfl rfl bd rfl rfl) ?_;refine p1 (eB (c:=((p.length+q.length-1:Nat):Int)) (by rw[bU (by omega) (by omega)]; omega) rfl rfl bd rfl rfl) ?_;refine p2 (wH (r:=22) (Nat.le_refl _) (by omega) (by omega) dC iO rfl rfl rfl rfl bd rfl rfl rfl rfl rfl) ?_;refine xn ?_;refine RV.done ?_;refine CV.seq ?_;refine sr rfl ?_;refine xn ?_;refine RV.done ?_;refine CV.block ?_;refine CV.loop (X:={i:Nat // i<=p.length}) (fun i=>[(.s 6,.av (.one (.v (.int .i64 (i.1:Int))))),(.s 5,.av (.one (.sl 22 (p.length+q.length-1)))),(.b 22,.row 31 (some 4) (bN (gJ p q i.1) B)),(.s 0,.av (.one (PL p K))),(.s 1,.av (.one (PL q J)))]) (fun i=>p.length-i.1) ⟨0,Nat.zero_le _⟩ (bF.mk ⟨aC _,aC _,aUf,aC _,aC _,trivial⟩ rfl rfl) (fun i=>?_);obtain⟨i,hi⟩:=i;simp only;refine CV.seq ?_;refine sr rfl ?_;refine xm ?_;refine xm ?_;refine p1 (bJ bB aZ) ?_;refine p1 (dU) ?_;refine RV.done ?_;refine CV.cond rfl (fun hc=>?_) (fun hc=>?_)
 ·have hlt:i<p.length:=(by have:=of_decide_eq_true hc; omega)
  refine CV.skip ?_;refine CV.seq ?_;refine CV.block ?_;refine sr rfl ?_;refine xn ?_;refine RV.done ?_;refine CV.block ?_;refine CV.loop (X:={j:Nat // j<=q.length}) (fun j=>[(.s 7,.av (.one (.v (.int .i64 (j.1:Int))))),(.s 6,.av (.one (.v (.int .i64 (i:Int))))),(.s 5,.av (.one (.sl 22 (p.length+q.length-1)))),(.b 22,.row 31 (some 4) (bN (gS p q i j.1 (gJ p q i)) B)),(.s 0,.av (.one (PL p K))),(.s 1,.av (.one (PL q J)))]) (fun j=>q.length-j.1) ⟨0,Nat.zero_le _⟩ (bF.mk ⟨aC _,aC _,aC _,aC _,aC _,aC _,trivial⟩ rfl rfl) (fun j=>?_);obtain⟨j,hj⟩:=j;simp only;refine CV.seq ?_;refine sr rfl ?_;refine xm ?_;refine xm ?_;refine p1 (bJ bB aZ) ?_;refine p1 (dU) ?_;refine RV.done ?_;refine CV.cond rfl (fun hd=>?_) (fun hd=>?_)
  ·have hlj:j<q.length:=(by have:=of_decide_eq_true hd; omega)
   have hlen:(gS p q i j (gJ p q i)).length=p.length+q.length-1:=(by rw[zD,tL])
   have hnew:=hz i (j+1) hlt hlj;have hel:=oQ hnew (i+j);rw[gS,List.getD_eq_getElem?_getD,List.getElem?_set_self (by omega),Option.getD_some] at hel;refine CV.skip ?_;refine CV.seq ?_;refine CV.block ?_;refine CV.region rfl (fun _=>by kernel_rfl) ?_;refine xm ?_;refine xm ?_;refine xm ?_;refine p1 (cJ (c:=((i+j:Nat):Int)) (by rw[bU (by omega) (by omega)]; omega) rfl rfl bd rfl rfl) ?_;refine xm ?_;refine xm ?_;refine xm ?_;refine p1 (cJ (c:=((i+j:Nat):Int)) (by rw[bU (by omega) (by omega)]; omega) rfl rfl bd rfl rfl) ?_;refine p1 (mP (i:=i+j) (by omega) (by rw[bB]; omega) dC cG rfl rfl bd rfl rfl rfl) ?_;refine p1 (tM (i:=i+j) (eA (by omega)) rfl aB (by show 0<4; decide) rfl rfl bd rfl rfl) ?_;refine xm ?_;refine xm ?_;refine p1 (dB (k:=some 4) (i:=i) (eA hlt) aZ cG) ?_;refine p1 (bO aB) ?_;refine xm ?_;refine xm ?_;refine p1 (dB (k:=some 4) (i:=j) (eA hlj) aZ cG) ?_;refine p1 (bO aB) ?_;refine xd rfl (aCu _ _ _ _ (by omega) (by omega)) Tryz.func89 (xb rfl rfl) hfr ?_;refine xd rfl ((yJ _ _ B (3*(K+J)+20) (by omega) (by omega)).mono (fun _ _ _ _ h=>h) (dT hel)) Tryz.func31 (xb rfl rfl) hfr ?_;refine p1 (mP (i:=i+j) (by omega) (by rw[bB]; omega) dC cG rfl rfl bd rfl rfl rfl) ?_;refine p1 (sZ (i:=i+j) (by rw[bB]; omega) (by show 0<4; decide) cG (.inl rfl) rfl rfl rfl rfl rfl rfl rfl rfl rfl) ?_;refine bV (by kernel_rfl) ?_;refine CV.region rfl (fun h=>nomatch h) ?_;refine xm ?_;refine p1 (cJ (c:=((j+1:Nat):Int)) (by rw[bU (by omega) (by omega)]; omega) rfl rfl bd rfl rfl) ?_;refine xn ?_;refine RV.done ?_;exact⟨⟨j+1,hlj⟩,bF.mk ⟨aC _,aC _,aC _,eO aV8,aC _,aC _,trivial⟩ rfl rfl,by show q.length-(j+1)<q.length-j; omega⟩
  ·refine CV.exit ?_;have hjq:j=q.length:=(by have:=of_decide_eq_false hd; omega)
   subst hjq;refine CV.region rfl (fun h=>nomatch h) ?_;refine xm ?_;refine p1 (cJ (c:=((i+1:Nat):Int)) (by rw[bU (by omega) (by omega)]; omega) rfl rfl bd rfl rfl) ?_;refine xn ?_;refine RV.done ?_;exact⟨⟨i+1,hlt⟩,bF.mk ⟨aC _,aC _,eO rfl,aC _,aC _,trivial⟩ rfl rfl,by show p.length-(i+1)<p.length-i; omega⟩
 ·refine CV.exit ?_;refine CV.seq ?_;have hip:i=p.length:=(by have:=of_decide_eq_false hc; omega)
  subst hip;refine jU (r:=22) (t:=5) (G:=Dm.gen (bY (some 4) (bN (gJ p q p.length) B))) (cx.bw hfr) rfl rfl (by rw[bB,tL]) rfl rfl (cM _ _) (iF _ _) ?_;refine CV.region rfl (fun h=>nomatch h) ?_;refine xm ?_;refine xd rfl (lD _ _ (by rw[tL]; omega)) Tryz.func12 (xa rfl) hfr ?_;refine xn ?_;refine RV.done ?_;refine CV.ret ?_;exact aR rfl (.inr rfl) rfl cC
end
theorem aK8 {zs:List Int} (hz:∀ z∈zs,-9223372036854775808<=z/\z<=9223372036854775807):∀ L ρ w v,(ZI .i64 zs).is L ρ w v->(SA.d (Dm.ints zs)).is L ρ w v:=by
 intro L ρ w v h w' hw;obtain⟨ao,cap,e,hle,hc⟩:=h w' hw;rw[qW] at e hle hc;refine⟨hz,ao,cap,e,hle.1,hle.2,fun hl=>?_⟩;obtain⟨b,off,e2,cs,h3,h4⟩:=hc hl;obtain rfl:=aJh h3;refine⟨b,off,e2,fun i hi=>h4 i _ ?_⟩;rw[List.getElem?_map,List.getElem?_eq_getElem hi,List.getD_eq_getElem?_getD,List.getElem?_eq_getElem hi];rfl
theorem aCt (p q:List Rat):(iS p q).length<=p.length+q.length-1:=by
 unfold iS;split
 ·exact Nat.zero_le _
 ·refine Nat.le_trans (iL _) ?_;rw[tL];exact Nat.le_refl _
theorem aTh {p q:List Rat} {K J:Nat} (h1:1<=K) (h2:1<=J) (hp:aG p K=true) (hq:aG q J=true):aG (iS p q) (1+p.length*(q.length*(K+J+1)))=true:=by
 unfold iS;split
 ·rfl
 ·exact pT (aEd h1 h2 hp hq)
theorem aRp (p q:List Rat) (K J B:Nat) (h1:1<=K) (h2:1<=J) (hzp:aG p K=true) (hzq:aG q J=true) (hp:p.length<=100000) (hq:q.length<=100000) (hK:K<=100000) (hJ:J<=100000) (hB:B<=100000) (hle:1+(p.length+1)*(q.length*(K+J+1))<=B):aD Tryz.prog 42 [PL p K,PL q J] (.one (PL (iS p q) B)):=by
 by_cases h:p=[]\/q=[]
 ·rw[iS,if_pos h];exact aRq p q K J B (by omega) (by omega) h
 ·rw[iS,if_neg h];refine aIb p q K J B hp hq (fun e=>h (.inl e)) (fun e=>h (.inr e)) (by omega) (by omega) (by omega) fun i j hi hj=>?_;refine nQ ?_ (aEe h1 h2 hzp hzq (by omega) (aEd h1 h2 hzp hzq));have e1:i*(q.length*(K+J+1))+q.length*(K+J+1)<=(p.length+1)*(q.length*(K+J+1)):=by
   rw[<- Nat.succ_mul];exact Nat.mul_le_mul_right _ (by omega)
  have e2:=Nat.mul_le_mul_right (K+J+1) hj;omega
theorem aE9 {a:Rat} {k:Nat} (h:aG [a] k=true):aG [-a] k=true:=by
 obtain⟨h1,h2⟩:=pV h;refine nY ?_ h2;rw[show (-a).num = -a.num from rfl];exact Vc.zY h1
theorem zP:aG [Rat.divInt 1 1] 1=true:=by decide +kernel
theorem xL (a b:Int):aG [bZ a,bZ b,Rat.divInt 1 1] 1=true:=zQ (lH a) (zQ (lH b) zP)
theorem uV (a:Int):aG [-(bZ a),Rat.divInt 1 1] 1=true:=zQ (aE9 (lH a)) zP
def dZ (zs:List Int) (i n:Nat):List Rat:=if (zs.getD i 0).tmod 7=3/\i<4/\n<4 then [bZ ((zs.getD i 0).tdiv 7),bZ ((zs.getD i 0).tdiv 3),Rat.divInt 1 1] else [-(bZ (zs.getD i 0)),Rat.divInt 1 1]
def cH (zs:List Int):Nat->List Rat
 | 0=>aI [Rat.divInt (1+iJ zs 1 5) 1]
 | m+1=>iS (cH zs m) (aI (dZ zs (m+2) (cH zs m).length))
def aNu (zs:List Int):List Rat:=aI (tab (fun i=>bZ (zs.getD (i+1) 0)) (min (zs.length-1) 5))
def iA (zs:List Int):List Rat:=if iJ zs 0 3=0 then aNu zs else cH zs (min (zs.length-2) 3)
theorem aJz (zs:List Int):aG (aNu zs) 1=true:=pT (aEc fun _ _=>lH _)
theorem aLx (zs:List Int) (i n:Nat):aG (dZ zs i n) 1=true:=by
 unfold dZ;split
 ·exact xL _ _
 ·exact uV _
theorem rL (zs:List Int) (i n:Nat):(dZ zs i n).length<=3:=by
 unfold dZ;split<;>simp
def kB:Nat->Nat
 | 0=>1
 | m+1=>1+(2*m+2)*(3*(kB m+2))
theorem aNa:∀ {m:Nat},1<=kB m
 | 0=>Nat.le_refl _
 | m+1=>by rw[kB]; omega
theorem nK (zs:List Int):∀ m,(cH zs m).length<=2*m+1/\aG (cH zs m) (kB m)=true
 | 0=>by
  refine⟨iL _,pT ?_⟩;obtain⟨h1,h2⟩:=aAt zs 1 5 (by decide);have h:=xX (p:=1+iJ zs 1 5) (q:=1) (k:=1) (by rw[kW]; omega) (by rw[kW]; decide);exact nY h.1 h.2
 | m+1=>by
  obtain⟨h1,h2⟩:=nK zs m;have hl:=iL (dZ zs (m+2) (cH zs m).length);have hl2:=rL zs (m+2) (cH zs m).length;have hr:=aCt (cH zs m) (aI (dZ zs (m+2) (cH zs m).length));refine⟨by rw[cH]; omega,nQ ?_ (aTh aNa (Nat.le_refl 1) h2 (pT (aLx zs (m+2) (cH zs m).length)))⟩;rw[kB];have e1:(cH zs m).length*((aI (dZ zs (m+2) (cH zs m).length)).length*(kB m+1+1))<=(2*m+2)*(3*(kB m+2)):=Nat.mul_le_mul (by omega) (Nat.mul_le_mul (by omega) (Nat.le_refl _));omega
theorem yZ (zs:List Int) (m:Nat) (hm:m<=2):aD Tryz.prog 42 [PL (cH zs m) (kB m),PL (aI (dZ zs (m+2) (cH zs m).length)) 1] (.one (PL (cH zs (m+1)) (kB (m+1)))):=by
 obtain⟨h1,h2⟩:=nK zs m;have hk:kB m<=253:=by
  match m,hm with
  | 0,_=>decide
  | 1,_=>decide
  | 2,_=>decide
 have hl:=iL (dZ zs (m+2) (cH zs m).length);have hl2:=rL zs (m+2) (cH zs m).length;have e1:((cH zs m).length+1)*((aI (dZ zs (m+2) (cH zs m).length)).length*(kB m+1+1))<=(2*m+2)*(3*(kB m+2)):=Nat.mul_le_mul (by omega) (Nat.mul_le_mul (by omega) (Nat.le_refl _));have e2:(2*m+2)*(3*(kB m+2))<=6*(3*255):=Nat.mul_le_mul (by omega) (by omega);rw[cH];refine aRp _ _ (kB m) 1 (kB (m+1)) aNa (Nat.le_refl _) h2 (pT (aLx zs (m+2) (cH zs m).length)) (by omega) (by omega) (by omega) (by decide) (by rw[kB]; omega) (by rw[kB]; omega)
theorem aAy {z:Int} (h1 : -9223372036854775808<=z) (h2:z<=9223372036854775807) : -9223372036854775808<=z.tdiv 7/\z.tdiv 7<=9223372036854775807:=by
 rcases Int.le_total 0 z with h | h
 ·rw[Int.tdiv_eq_ediv_of_nonneg h];omega
 ·obtain⟨y,rfl⟩:∃ y,z = -y:=⟨-z,by omega⟩
  rw[Int.neg_tdiv,Int.tdiv_eq_ediv_of_nonneg (by omega)];omega
theorem aAz {z:Int} (h1 : -9223372036854775808<=z) (h2:z<=9223372036854775807) : -9223372036854775808<=z.tdiv 3/\z.tdiv 3<=9223372036854775807:=by
 rcases Int.le_total 0 z with h | h
 ·rw[Int.tdiv_eq_ediv_of_nonneg h];omega
 ·obtain⟨y,rfl⟩:∃ y,z = -y:=⟨-z,by omega⟩
  rw[Int.neg_tdiv,Int.tdiv_eq_ediv_of_nonneg (by omega)];omega
theorem aA0 {m:Nat} (h:m<=3):kB m<=5000:=by
 match m,h with
 | 0,_=>decide
 | 1,_=>decide
 | 2,_=>decide
 | 3,_=>decide
section
variable (zs:List Int) (hz:∀ z∈zs,-9223372036854775808<=z/\z<=9223372036854775807)
include hz
theorem aFt (i:Nat) : -9223372036854775808<=zs.getD i 0/\zs.getD i 0<=9223372036854775807:=by
 rcases Nat.lt_or_ge i zs.length with h | h
 ·rw[List.getD_eq_getElem?_getD,List.getElem?_eq_getElem h];exact hz _ (List.getElem_mem h)
 ·rw[List.getD_eq_getElem?_getD,List.getElem?_eq_none h];exact⟨by decide,by decide⟩
theorem aRo:aD Tryz.prog 9 [ZI .i64 zs] (.one (PL (iA zs) 5000)):=by
 have h03:=aAt zs 0 3 (by decide);have h15:=aAt zs 1 5 (by decide);refine aD.of (n:=89) Tryz.func9 rfl rfl rfl rfl rfl fun cx hfr=>?_;refine sr rfl ?_;refine xn ?_;refine RV.done ?_;refine CV.seq ?_;refine sr rfl ?_;refine xm ?_;refine xd rfl (aN7 zs 0 3 (by decide) (by decide)) Tryz.func41 (.cons rfl ⟨rfl,aK8 hz⟩ (xb rfl rfl)) hfr ?_;refine p1 (cR) ?_;refine RV.done ?_;refine CV.cond rfl (fun h0=>?_) (fun h0=>?_)
 ·have e0:iJ zs 0 3=0:=beq_iff_eq.1 h0;refine sr rfl ?_;refine xn ?_;refine RV.done ?_;refine CV.seq ?_;refine CV.seq ?_;refine oL 3 100 31 (some 4) rfl rfl rfl rfl ?_;refine CV.region rfl (fun h=>nomatch h) ?_;refine xn ?_;refine RV.done ?_;refine CV.block ?_;refine CV.loop (X:={k:Nat // k<=min (zs.length-1) 5}) (fun k=>[(.s 4,.av (.one (.v (.int .i64 ((k.1+1:Nat):Int))))),(.s 3,.av (.one (.sl 100 k.1))),(.b 100,.row 31 (some 4) (iB (fun i=>bZ (zs.getD (i+1) 0)) 1 k.1)),(.s 0,.av (.one (ZI .i64 zs)))]) (fun k=>zs.length-k.1) ⟨0,Nat.zero_le _⟩ (bF.mk ⟨aC _,aC _,eO rfl,aC _,trivial⟩ rfl rfl) (fun k=>?_);obtain⟨k,hk⟩:=k;simp only;refine CV.seq ?_;refine sr rfl ?_;refine xm ?_;refine xm ?_;refine p1 (bJ (qW _) lK) ?_;refine p1 (dU) ?_;refine xm ?_;refine RV.bool (fun g1=>?_) (fun g1=>?_)
  ·refine y1 (cE (.inl rfl)) ?_;refine y1 (dU) ?_;refine p1 (cZ) ?_;refine RV.done ?_;refine CV.cond rfl (fun hc=>?_) (fun hc=>?_)
   ·have hlt:k+1<zs.length:=(by have:=of_decide_eq_true g1; omega)
    have hlt6:k<5:=(by have:=of_decide_eq_true hc; omega)
    refine CV.skip ?_;refine CV.seq ?_;refine CV.block ?_;refine CV.region rfl (fun h=>nomatch h) ?_;refine xm ?_;refine xm ?_;refine xm ?_;refine p1 (dB (k:=none) (i:=k+1) (uC hlt) lK rW) ?_;refine p1 (bO iG) ?_;refine xc (lY _ (aFt zs hz (k+1)).1 (aFt zs hz (k+1)).2) Tryz.func11 (xa rfl) hfr ?_;refine p1 (fZ (G:=Dm.gen (bY (some 4) [_])) (cM _ _) dC mU rfl rfl rfl (by intro s hs; obtain rfl:=List.mem_singleton.1 hs; rfl) rfl rfl rfl bd (xa rfl)) ?_;refine iN (aM.plain (mA (r:=100) (r':=101) (iZ (by decide) rfl) (by rw[fU]; show (k+1)*64<=_; omega) (by rw[fU]; show k+1<=_; omega) dC iO rfl rfl rfl (by intro x hx; obtain rfl:=List.mem_singleton.1 hx; rfl) fU.symm rfl rfl bd rfl rfl rfl rfl rfl rfl rfl rfl) rfl) ?_;refine xn ?_;refine RV.done ?_;refine CV.region rfl (fun h=>nomatch h) ?_;refine xm ?_;refine p1 (cJ (c:=((k+1+1:Nat):Int)) (by rw[bU (by omega) (by omega)]; omega) rfl rfl bd rfl rfl) ?_;refine xn ?_;refine RV.done ?_;exact⟨⟨k+1,by omega⟩,jX (fun i=>if i=100 then 101 else i) ⟨fK,lJ rfl rfl,eO (sX (f:=fun i=>bZ (zs.getD (i+1) 0))),fK,trivial⟩ rfl rfl rfl rfl,by show zs.length-(k+1)<zs.length-k; omega⟩
   ·refine CV.exit ?_;refine CV.seq ?_;have hk1:k=min (zs.length-1) 5:=(by have h2:=of_decide_eq_false hc; omega)
    subst hk1;rw[pR];refine jU (r:=100) (t:=3) (G:=Dm.gen (bY (some 4) (bN (tab (fun i=>bZ (zs.getD (i+1) 0)) (min (zs.length-1) 5)) 1))) (cx.bw hfr) rfl rfl (by rw[bB,eX]) rfl rfl (cM _ _) (iF _ _) ?_;refine CV.region rfl (fun h=>nomatch h) ?_;refine xm ?_;refine xd rfl ((lD _ _ (by rw[eX]; omega)).mono (fun _ _ _ _ h=>h) (dJ (B:=5000) (nQ (by decide) (aJz zs)))) Tryz.func12 (xa rfl) hfr ?_;refine xn ?_;refine RV.done ?_;refine CV.ret ?_;exact aR rfl (.inr rfl) rfl (jI (by rw[iA,if_pos e0]; rfl))
  ·refine xk ?_;refine xk ?_;refine p1 (eI) ?_;refine RV.done ?_;refine CV.no rfl ?_;refine CV.exit ?_;refine CV.seq ?_;have hk1:k=min (zs.length-1) 5:=(by have h2:=of_decide_eq_false g1; omega)
   subst hk1;rw[pR];refine jU (r:=100) (t:=3) (G:=Dm.gen (bY (some 4) (bN (tab (fun i=>bZ (zs.getD (i+1) 0)) (min (zs.length-1) 5)) 1))) (cx.bw hfr) rfl rfl (by rw[bB,eX]) rfl rfl (cM _ _) (iF _ _) ?_;refine CV.region rfl (fun h=>nomatch h) ?_;refine xm ?_;refine xd rfl ((lD _ _ (by rw[eX]; omega)).mono (fun _ _ _ _ h=>h) (dJ (B:=5000) (nQ (by decide) (aJz zs)))) Tryz.func12 (xa rfl) hfr ?_;refine xn ?_;refine RV.done ?_;refine CV.ret ?_;exact aR rfl (.inr rfl) rfl (jI (by rw[iA,if_pos e0]; rfl))
 ·have e0:¬ iJ zs 0 3=0:=beq_eq_false_iff_ne.1 h0;refine CV.skip ?_;refine sr rfl ?_;refine xm ?_;refine xd rfl (aN7 zs 1 5 (by decide) (by decide)) Tryz.func41 (.cons rfl ⟨rfl,aK8 hz⟩ (xb rfl rfl)) hfr ?_;refine p1 (cJ (c:=1+iJ zs 1 5) (by rw[bU (by omega) (by omega)]) rfl rfl bd rfl rfl) ?_;refine xd rfl (nR (1+iJ zs 1 5) 1 (by omega) (by omega) (by decide) (by decide)) Tryz.func32 (xb rfl rfl) hfr ?_;refine p1 (fZ (G:=Dm.gen (bY (some 4) (bN [Rat.divInt (1+iJ zs 1 5) 1] 6))) (ss:=bN [Rat.divInt (1+iJ zs 1 5) 1] 6) (cM _ _) dC mU rfl rfl rfl aDf rfl rfl rfl bd (xa rfl)) ?_;refine xc ((lD [Rat.divInt (1+iJ zs 1 5) 1] 6 (Nat.le_of_ble_eq_true rfl)).mono (fun _ _ _ _ h=>h) (dJ (nK zs 0).2)) Tryz.func12 (xa rfl) hfr ?_;refine xn ?_;refine RV.done ?_;refine CV.seq ?_;refine sr rfl ?_;refine xn ?_;refine RV.done ?_;refine CV.block ?_;refine CV.loop (X:={m:Nat // m<=min (zs.length-2) 3}) (fun m=>[(.s 6,.av (.one (.v (.int .i64 ((m.1+2:Nat):Int))))),(.s 5,.av (.one (PL (cH zs m.1) (kB m.1)))),(.s 0,.av (.one (ZI .i64 zs)))]) (fun m=>zs.length-m.1) ⟨0,Nat.zero_le _⟩ (bF.mk ⟨aC _,aC _,aC _,trivial⟩ rfl rfl) (fun m=>?_);obtain⟨m,hm⟩:=m;simp only;refine CV.seq ?_;refine sr rfl ?_;refine xm ?_;refine xm ?_;refine p1 (bJ (qW _) lK) ?_;refine p1 (dU) ?_;refine xm ?_;refine RV.bool (fun g1=>?_) (fun g1=>?_)
  ·refine y1 (cE (.inl rfl)) ?_;refine y1 (dU) ?_;refine p1 (cZ) ?_;refine RV.done ?_;refine CV.cond rfl (fun hc=>?_) (fun hc=>?_)
   ·have hlt:m+2<zs.length:=(by have:=of_decide_eq_true g1; omega)
    have hm3:m<3:=(by have:=of_decide_eq_true hc; omega)
    have hzm:=aFt zs hz (m+2);have hpf:=nK zs m;have hpf1:=nK zs (m+1);have hk1:=aA0 (m:=m) (by omega);have hk2:=aA0 (m:=m+1) (by omega);refine CV.skip ?_;refine CV.seq ?_;refine CV.block ?_;refine sr rfl ?_;refine xm ?_;refine xm ?_;refine p1 (dB (k:=none) (i:=m+2) (uC hlt) lK rW) ?_;refine p1 (bO iG) ?_;refine xc (lY _ hzm.1 hzm.2) Tryz.func11 (xa rfl) hfr ?_;refine xc (aH7 _ _) Tryz.func24 (xa rfl) hfr ?_;refine xd rfl ((nR 1 1 (by decide) (by decide) (by decide) (by decide)).mono (fun _ _ _ _ h=>h) (dT zP)) Tryz.func32 (xb rfl rfl) hfr ?_;refine p1 (fZ (G:=Dm.gen (bY (some 4) (bN [-(bZ (zs.getD (m+2) 0)),Rat.divInt 1 1] 1))) (ss:=bN [-(bZ (zs.getD (m+2) 0)),Rat.divInt 1 1] 1) (cM _ _) dC mU rfl rfl rfl aDf rfl rfl rfl bd (xb rfl rfl)) ?_;refine xn ?_;refine RV.done ?_;refine CV.seq ?_;refine sr rfl ?_;refine xm ?_;refine xm ?_;refine p1 (dB (k:=none) (i:=m+2) (uC hlt) lK rW) ?_;refine p1 (bO iG) ?_;refine p1 (aFc (by decide) rfl rfl bd rfl rfl) ?_;refine p1 (cR) ?_;refine xm ?_;refine RV.bool (fun n1=>?_) (fun n1=>?_)
    ·refine y1 (cE (.inl rfl)) ?_;refine y1 (dU) ?_;refine p1 (cZ) ?_;refine xm ?_;refine RV.bool (fun n2=>?_) (fun n2=>?_)
     ·refine y1 (cE (.inl rfl)) ?_;refine y1 (bJ bB aZ) ?_;refine y1 (dU) ?_;refine p1 (cZ) ?_;refine RV.done ?_;refine CV.cond rfl (fun n3=>?_) (fun n3=>?_)
      ·refine CV.region rfl (fun _=>by kernel_rfl) ?_;refine xm ?_;refine xm ?_;refine p1 (dB (k:=none) (i:=m+2) (uC hlt) lK rW) ?_;refine p1 (bO iG) ?_;refine p1 (aFd (c:=(zs.getD (m+2) 0).tdiv 7) (by decide) (bU (aAy hzm.1 hzm.2).1 (aAy hzm.1 hzm.2).2) rfl rfl bd rfl rfl) ?_;refine xc (lY _ (aAy hzm.1 hzm.2).1 (aAy hzm.1 hzm.2).2) Tryz.func11 (xa rfl) hfr ?_;refine xm ?_;refine xm ?_;refine p1 (dB (k:=none) (i:=m+2) (uC hlt) lK rW) ?_;refine p1 (bO iG) ?_;refine p1 (aFd (c:=(zs.getD (m+2) 0).tdiv 3) (by decide) (bU (aAz hzm.1 hzm.2).1 (aAz hzm.1 hzm.2).2) rfl rfl bd rfl rfl) ?_;refine xc (lY _ (aAz hzm.1 hzm.2).1 (aAz hzm.1 hzm.2).2) Tryz.func11 (xa rfl) hfr ?_;refine xd rfl ((nR 1 1 (by decide) (by decide) (by decide) (by decide)).mono (fun _ _ _ _ h=>h) (dT zP)) Tryz.func32 (xb rfl rfl) hfr ?_;refine p1 (fZ (G:=Dm.gen (bY (some 4) (bN [bZ ((zs.getD (m+2) 0).tdiv 7),bZ ((zs.getD (m+2) 0).tdiv 3),Rat.divInt 1 1] 1))) (ss:=bN [bZ ((zs.getD (m+2) 0).tdiv 7),bZ ((zs.getD (m+2) 0).tdiv 3),Rat.divInt 1 1] 1) (cM _ _) dC mU rfl rfl rfl aDf rfl rfl rfl bd (.cons rfl cI.any (xb rfl rfl))) ?_;refine xn ?_;refine bV (by kernel_rfl) ?_;have hf:dZ zs (m+2) (cH zs m).length=[bZ ((zs.getD (m+2) 0).tdiv 7),bZ ((zs.getD (m+2) 0).tdiv 3),Rat.divInt 1 1]:=(by unfold dZ; rw[if_pos ⟨beq_iff_eq.1 n1,by have:=of_decide_eq_true n2; omega,by have:=of_decide_eq_true n3; omega⟩])
       rw[<- hf];refine CV.region rfl (fun h=>nomatch h) ?_;refine xm ?_;refine xm ?_;refine xd rfl (lD (dZ zs (m+2) (cH zs m).length) 1 (by have:=rL zs (m+2) (cH zs m).length; omega)) Tryz.func12 (xa rfl) hfr ?_;refine xd rfl (yZ zs m (by omega)) Tryz.func42 (xb rfl rfl) hfr ?_;refine xn ?_;refine RV.done ?_;refine CV.region rfl (fun h=>nomatch h) ?_;refine xm ?_;refine p1 (cJ (c:=((m+1+2:Nat):Int)) (by rw[bU (by omega) (by omega)]; omega) rfl rfl bd rfl rfl) ?_;refine xn ?_;refine RV.done ?_;exact⟨⟨m+1,by omega⟩,bF.mk ⟨aC _,aC _,aC _,trivial⟩ rfl rfl,by show zs.length-(m+1)<zs.length-m; omega⟩
      ·refine CV.skip ?_;have hf:dZ zs (m+2) (cH zs m).length=[-(bZ (zs.getD (m+2) 0)),Rat.divInt 1 1]:=(by unfold dZ; rw[if_neg (fun h=>by have:=of_decide_eq_false n3; omega)])
       rw[<- hf];refine CV.region rfl (fun h=>nomatch h) ?_;refine xm ?_;refine xm ?_;refine xd rfl (lD (dZ zs (m+2) (cH zs m).length) 1 (by have:=rL zs (m+2) (cH zs m).length; omega)) Tryz.func12 (xa rfl) hfr ?_;refine xd rfl (yZ zs m (by omega)) Tryz.func42 (xb rfl rfl) hfr ?_;refine xn ?_;refine RV.done ?_;refine CV.region rfl (fun h=>nomatch h) ?_;refine xm ?_;refine p1 (cJ (c:=((m+1+2:Nat):Int)) (by rw[bU (by omega) (by omega)]; omega) rfl rfl bd rfl rfl) ?_;refine xn ?_;refine RV.done ?_;exact⟨⟨m+1,by omega⟩,bF.mk ⟨aC _,aC _,aC _,trivial⟩ rfl rfl,by show zs.length-(m+1)<zs.length-m; omega⟩
     ·refine xk ?_;refine xk ?_;refine xk ?_;refine p1 (eI) ?_;refine RV.done ?_;refine CV.no rfl ?_;refine CV.skip ?_;have hf:dZ zs (m+2) (cH zs m).length=[-(bZ (zs.getD (m+2) 0)),Rat.divInt 1 1]:=(by unfold dZ; rw[if_neg (fun h=>by have:=of_decide_eq_false n2; omega)])
      rw[<- hf];refine CV.region rfl (fun h=>nomatch h) ?_;refine xm ?_;refine xm ?_;refine xd rfl (lD (dZ zs (m+2) (cH zs m).length) 1 (by have:=rL zs (m+2) (cH zs m).length; omega)) Tryz.func12 (xa rfl) hfr ?_;refine xd rfl (yZ zs m (by omega)) Tryz.func42 (xb rfl rfl) hfr ?_;refine xn ?_;refine RV.done ?_;refine CV.region rfl (fun h=>nomatch h) ?_;refine xm ?_;refine p1 (cJ (c:=((m+1+2:Nat):Int)) (by rw[bU (by omega) (by omega)]; omega) rfl rfl bd rfl rfl) ?_;refine xn ?_;refine RV.done ?_;exact⟨⟨m+1,by omega⟩,bF.mk ⟨aC _,aC _,aC _,trivial⟩ rfl rfl,by show zs.length-(m+1)<zs.length-m; omega⟩
    ·refine xk ?_;refine xk ?_;refine p1 (eI) ?_;refine xm ?_;refine xk ?_;refine xk ?_;refine xk ?_;refine p1 (eI) ?_;refine RV.done ?_;refine CV.no rfl ?_;refine CV.skip ?_;have hf:dZ zs (m+2) (cH zs m).length=[-(bZ (zs.getD (m+2) 0)),Rat.divInt 1 1]:=(by unfold dZ; rw[if_neg (fun h=>by rw[beq_eq_false_iff_ne] at n1; exact n1 h.1)])
     rw[<- hf];refine CV.region rfl (fun h=>nomatch h) ?_;refine xm ?_;refine xm ?_;refine xd rfl (lD (dZ zs (m+2) (cH zs m).length) 1 (by have:=rL zs (m+2) (cH zs m).length; omega)) Tryz.func12 (xa rfl) hfr ?_;refine xd rfl (yZ zs m (by omega)) Tryz.func42 (xb rfl rfl) hfr ?_;refine xn ?_;refine RV.done ?_;refine CV.region rfl (fun h=>nomatch h) ?_;refine xm ?_;refine p1 (cJ (c:=((m+1+2:Nat):Int)) (by rw[bU (by omega) (by omega)]; omega) rfl rfl bd rfl rfl) ?_;refine xn ?_;refine RV.done ?_;exact⟨⟨m+1,by omega⟩,bF.mk ⟨aC _,aC _,aC _,trivial⟩ rfl rfl,by show zs.length-(m+1)<zs.length-m; omega⟩
   ·refine CV.exit ?_;refine CV.seq ?_;have hmm:m=min (zs.length-2) 3:=(by have h2:=of_decide_eq_false hc; omega)
    refine CV.region rfl (fun h=>nomatch h) ?_;refine xm ?_;refine xn ?_;refine RV.done ?_;refine CV.ret ?_;exact aR rfl (.inr rfl) rfl (by rw[iA,if_neg e0,<- hmm]; exact dJ (nQ (aA0 (by omega)) (nK zs m).2))
  ·refine xk ?_;refine xk ?_;refine p1 (eI) ?_;refine RV.done ?_;refine CV.no rfl ?_;refine CV.exit ?_;refine CV.seq ?_;have hmm:m=min (zs.length-2) 3:=(by have h2:=of_decide_eq_false g1; omega)
   refine CV.region rfl (fun h=>nomatch h) ?_;refine xm ?_;refine xn ?_;refine RV.done ?_;refine CV.ret ?_;exact aR rfl (.inr rfl) rfl (by rw[iA,if_neg e0,<- hmm]; exact dJ (nQ (aA0 (by omega)) (nK zs m).2))
end
theorem cF (l:List Rat):aI (aI l)=aI l:=by
 rcases aG3 l with h | h
 ·rw[h]; rfl
 ·generalize aI l=m at *;by_cases hm:m=[]
  ·rw[hm]; rfl
  ·obtain⟨m',a,rfl⟩:∃ m' a,m=m'++[a]:=⟨m.dropLast,m.getLast hm,(List.dropLast_concat_getLast _).symm⟩
   have ha:a≠0:=by simpa using h
   rw[qX,if_neg ha]
theorem aP2 (p q:List Rat):aI (iS p q)=iS p q:=by
 unfold iS;split
 ·rfl
 ·exact cF _
theorem aQb (zs:List Int):aI (iA zs)=iA zs:=by
 unfold iA;split
 ·exact cF _
 ·cases h:min (zs.length-2) 3 with
  | zero=>exact cF _
  | succ m=>exact aP2 _ _
end Vc
end Go.Proofs.YtjmbkipbmbnhjaaGreat

namespace Go.Proofs.YtjmbkipbmbnhjaaGreat
open Go.RowKit
open Dg Zn
namespace Vc
def ev:List Rat->Rat->Rat
 | [],_=>0
 | a::l,x=>a+x*ev l x
theorem aC8 {l:List Rat} (h:aI l=[]):∀ k,l.getD k 0=0:=by
 induction l with
 | nil=>intro k; rfl
 | cons a l ih =>
  rw[aI] at h;by_cases h1:aI l=[]
  ·rw[if_pos h1] at h;by_cases h0:a=0
   ·subst h0;intro k;cases k with
    | zero=>rfl
    | succ k=>exact ih h1 k
   ·rw[if_neg h0] at h; cases h
  ·rw[if_neg h1] at h; cases h
theorem aDl {l:List Rat} (h:∀ k,l.getD k 0=0):aI l=[]:=by
 induction l with
 | nil=>rfl
 | cons a l ih =>
  have h1:aI l=[]:=ih fun k=>h (k+1);have h0:a=0:=h 0;rw[aI,if_pos h1,if_pos h0]
theorem aJm:∀ {p q:List Rat},(∀ k,p.getD k 0=q.getD k 0)->aI p=aI q
 | [],q,h=>(aDl fun k=>(h k).symm).symm
 | a::p,[],h=>aDl h
 | a::p,b::q,h=>by
  have h1:=aJm (p:=p) (q:=q) fun k=>h (k+1);obtain rfl:a=b:=h 0;rw[aI,aI,h1]
theorem yG (l:List Rat):∀ k,(aI l).getD k 0=l.getD k 0:=by
 induction l with
 | nil=>intro k; rfl
 | cons a l ih =>
  intro k;rw[aI];by_cases h1:aI l=[]
  ·rw[if_pos h1];have:=aC8 h1;cases k with
   | zero=>split<;>simp_all
   | succ k => 
    have e:=this k;split
    ·simpa using e.symm
    ·simpa using e.symm
  ·rw[if_neg h1];cases k with
   | zero=>rfl
   | succ k=>exact ih k
theorem nU:∀ {l:List Rat},(∀ k,l.getD k 0=0)->∀ x,ev l x=0
 | [],_,x=>rfl
 | a::l,h,x=>by
  have h0:a=0:=h 0;rw[ev,h0,nU (l:=l) fun k=>h (k+1)];grind
theorem wW:∀ {p q:List Rat},(∀ k,p.getD k 0=q.getD k 0)->∀ x,ev p x=ev q x
 | [],q,h,x=>(nU (fun k=>(h k).symm) x).symm
 | a::p,[],h,x=>nU h x
 | a::p,b::q,h,x=>by
  obtain rfl:a=b:=h 0;rw[ev,ev,wW (p:=p) (q:=q) (fun k=>h (k+1))]
theorem mF (l:List Rat) (x:Rat):ev (aI l) x=ev l x:=wW (yG l) x
theorem aRa (g:Nat->Rat) (n:Nat):tab g (n+1)=g 0::tab (fun k=>g (k+1)) n:=by
 unfold tab;rw[List.range_succ_eq_map,List.map_cons,List.map_map];rfl
theorem rN {g:Nat->Rat} {n k:Nat}:(tab g n).getD k 0=if k<n then g k else 0:=by
 unfold tab;rw[List.getD_eq_getElem?_getD,List.getElem?_map];by_cases h:k<n
 ·rw[if_pos h,List.getElem?_range h]; rfl
 ·rw[if_neg h,List.getElem?_eq_none (by rw[List.length_range]; omega)]; rfl
theorem qU (g:Nat->Rat) (n:Nat) (x:Rat):ev (tab g (n+1)) x=g 0+x*ev (tab (fun k=>g (k+1)) n) x:=by rw[aRa,ev]
theorem aCl (f g:Nat->Rat) (x:Rat):∀ n,ev (tab (fun k=>f k+g k) n) x=ev (tab f n) x+ev (tab g n) x:=by
 intro n
 induction n generalizing f g with
 | zero=>show (0:Rat)=0+0; grind
 | succ n ih=>rw[qU,qU,qU,ih]; grind
theorem aBr (f:Nat->Rat) (a x:Rat):∀ n,ev (tab (fun k=>f k*a) n) x=ev (tab f n) x*a:=by
 intro n
 induction n generalizing f with
 | zero=>show (0:Rat)=0*a; grind
 | succ n ih=>rw[qU,qU,ih]; grind
theorem uH (p:List Rat) {n:Nat} (h:p.length<=n) (x:Rat):ev (tab (fun k=>p.getD k 0) n) x=ev p x:=by
 refine wW (fun k=>?_) x;rw[rN];by_cases hk:k<n
 ·rw[if_pos hk]
 ·rw[if_neg hk,cP (by omega)]
theorem jZ (p q:List Rat) (x:Rat):ev (fC p q) x=ev p x+ev q x:=by
 rw[fC,mF,aCl,uH p (Nat.le_max_left _ _),uH q (Nat.le_max_right _ _)]
theorem cB (p:List Rat) (a x:Rat):ev (aN p a) x=ev p x*a:=by
 rw[aN,mF,aBr,uH p (Nat.le_refl _)]
theorem lM (p q:List Rat) (x:Rat):ev (fN p q) x=ev p x-ev q x:=by
 have e:(fun k=>p.getD k 0-q.getD k 0)=fun k=>p.getD k 0+q.getD k 0*(-1):=by funext k; grind
 rw[fN,mF,e,aCl,aBr,uH p (Nat.le_max_left _ _),uH q (Nat.le_max_right _ _)];grind
theorem aL0:∀ {l:List Rat},aI l≠[]->∃ e N:Rat,0<e/\((∀ x,N<=x->e<=ev l x)\/(∀ x,N<=x->ev l x <= -e))
 | [],h=>absurd rfl h
 | a::l,h=>by
  rw[aI] at h;by_cases h1:aI l=[]
  ·rw[if_pos h1] at h;have h0:a≠0:=fun e=>h (by rw[if_pos e]);have hz:=nU (aC8 h1);rcases (by grind:0<a\/0 < -a) with hp | hp
   ·exact⟨a,0,hp,.inl fun x _=>by rw[ev,hz]; grind⟩
   ·exact⟨-a,0,hp,.inr fun x _=>by rw[ev,hz]; grind⟩
  ·obtain⟨e,N,he,hN⟩:=aL0 h1;obtain⟨M,m1,m2,m3,m4⟩:∃ M:Rat,N<=M/\0<=M/\e-a<=M*e/\e+a<=M*e:=by
    have hi:e*e⁻¹=1:=Rat.mul_inv_cancel e (by grind);have hi0:0<=e⁻¹:=Rat.le_of_lt (Rat.inv_pos.2 he);have hge:∀ y:Rat,∃ z:Rat,y<=z/\0<=z:=fun y=>by
     rcases (by grind:y<=0\/0<=y) with q | q
     ·exact⟨0,q,by grind⟩
     ·exact⟨y,by grind,q⟩
    obtain⟨z1,a1,a2⟩:=hge N;obtain⟨z2,b1,b2⟩:=hge (e-a);obtain⟨z3,c1,c2⟩:=hge (e+a);refine⟨z1+z2*e⁻¹+z3*e⁻¹,?_,?_,?_,?_⟩
    ·have:=Rat.mul_nonneg b2 hi0;have:=Rat.mul_nonneg c2 hi0;grind
    ·have:=Rat.mul_nonneg b2 hi0;have:=Rat.mul_nonneg c2 hi0;grind
    ·have:=Rat.mul_nonneg a2 (Rat.le_of_lt he);have q:(z1+z2*e⁻¹+z3*e⁻¹)*e=z1*e+z2+z3:=by grind
     grind
    ·have:=Rat.mul_nonneg a2 (Rat.le_of_lt he);have q:(z1+z2*e⁻¹+z3*e⁻¹)*e=z1*e+z2+z3:=by grind
     grind
   refine⟨e,M,he,?_⟩;rcases hN with hN | hN
   ·refine .inl fun x hx=>?_;have h2:=hN x (by grind);have h3:M*e<=x*ev l x:=by
     have q1:M*e<=x*e:=Rat.mul_le_mul_of_nonneg_right hx (Rat.le_of_lt he);have q2:x*e<=x*ev l x:=Rat.mul_le_mul_of_nonneg_left h2 (by grind);grind
    rw[ev];grind
   ·refine .inr fun x hx=>?_;have h2:=hN x (by grind);have h3:M*e<=x*(- ev l x):=by
     have q1:M*e<=x*e:=Rat.mul_le_mul_of_nonneg_right hx (Rat.le_of_lt he);have q2:x*e<=x*(- ev l x):=Rat.mul_le_mul_of_nonneg_left (by grind) (by grind);grind
    rw[ev];grind
theorem uI {l:List Rat} (h:∀ x,ev l x=0):aI l=[]:=by
 rcases Decidable.em (aI l=[]) with q | q
 ·exact q
 ·obtain⟨e,N,he,hN⟩:=aL0 q;rcases hN with hN | hN
  ·have h1:=hN N Rat.le_refl;rw[h N] at h1;grind
  ·have h1:=hN N Rat.le_refl;rw[h N] at h1;grind
theorem uA {p q:List Rat} (h:∀ x,ev p x=ev q x):∀ k,p.getD k 0=q.getD k 0:=by
 have h1:aI (fN p q)=[]:=uI fun x=>by rw[lM,h x]; grind
 intro k;have h2:=aC8 h1 k;rw[fN,yG,rN] at h2;by_cases hk:k<max p.length q.length
 ·rw[if_pos hk] at h2;grind
 ·rw[cP (by omega),cP (by omega)]
theorem jF {p q:List Rat} (hp:aI p=p) (hq:aI q=q) (h:∀ x,ev p x=ev q x):p=q:=by
 rw[<- hp,<- hq];exact aJm (uA h)
/-! Products. -/
theorem rG (f:Nat->Rat) (s:Nat):∀ c,dA f (s+c)=dA f s+dA (fun i=>f (s+i)) c
 | 0=>by show dA f s=dA f s+0; grind
 | c+1=>by
  show dA f (s+c)+f (s+c)=dA f s+(dA (fun i=>f (s+i)) c+f (s+c));rw[rG f s c];grind
theorem nN {f:Nat->Rat}:∀ {n:Nat},(∀ i,i<n->f i=0)->dA f n=0
 | 0,_=>rfl
 | n+1,h=>by
  show dA f n+f n=0;rw[nN (n:=n) fun i hi=>h i (by omega),h n (by omega)];grind
theorem vX {f g:Nat->Rat}:∀ {n:Nat},(∀ i,i<n->f i=g i)->dA f n=dA g n
 | 0,_=>rfl
 | n+1,h=>by
  show dA f n+f n=dA g n+g n;rw[vX (n:=n) fun i hi=>h i (by omega),h n (by omega)]
def fR (p q:List Rat) (k:Nat):Rat:=dA (fun i=>p.getD i 0*q.getD (k-i) 0) (k+1)
theorem aEz (a:Rat) (p q:List Rat) (k:Nat):fR (a::p) q k=q.getD k 0*a+(if k=0 then 0 else fR p q (k-1)):=by
 unfold fR;rw[show k+1=1+k by omega,rG];show (0+a*q.getD (k-0) 0)+_=_;rw[Nat.sub_zero];cases k with
 | zero=>show 0+a*_+0=_+if 0=0 then 0 else _; rw[if_pos rfl]; grind
 | succ k =>
  rw[if_neg (by omega),Nat.add_sub_cancel];have e:dA (fun i=>(a::p).getD (1+i) 0*q.getD (k+1-(1+i)) 0) (k+1)=dA (fun i=>p.getD i 0*q.getD (k-i) 0) (k+1):=vX fun i hi=>by
   rw[show 1+i=i+1 by omega,List.getD_cons_succ,show k+1-(i+1)=k-i by omega]
  rw[e];grind
theorem aN0 (q:List Rat) (x:Rat):∀ (p:List Rat) (n:Nat),p.length+q.length<=n+1->0<q.length->ev (tab (fR p q) n) x=ev p x*ev q x
 | [],n,h,h0=>by
  rw[ev];have e:∀ k,fR [] q k=0:=fun k=>nN fun i _=>by rw[cP (Nat.zero_le _)]; grind
  rw[nU (fun k=>by rw[rN,e]; split<;>rfl)];grind
 | a::p,n,h,h0=>by
  rw[List.length_cons] at h;have e:fR (a::p) q=fun k=>q.getD k 0*a+(if k=0 then 0 else fR p q (k-1)):=funext fun k=>aEz a p q k;obtain⟨m,rfl⟩:∃ m,n=m+1:=⟨n-1,by omega⟩
  rw[e,aCl,aBr,uH q (by omega),qU];have e2:(fun k=>if k+1=0 then (0:Rat) else fR p q (k+1-1))=fR p q:=by
   funext k
   rw[if_neg (by omega),Nat.add_sub_cancel]
  rw[if_pos rfl,e2,aN0 q x p m (by omega) h0,ev];grind
theorem aTo {q:List Rat} {i:Nat} (h:i<q.length):q.reverse.getD i 0=q.getD (q.length-1-i) 0:=by
 rw[List.getD_eq_getElem?_getD,List.getD_eq_getElem?_getD,List.getElem?_reverse h]
theorem aKr {q:List Rat} {i j:Nat}:(q.drop i).getD j 0=q.getD (i+j) 0:=by
 rw[List.getD_eq_getElem?_getD,List.getD_eq_getElem?_getD,List.getElem?_drop]
theorem aFe {p q:List Rat} (h0:0<q.length) {k:Nat}:nB p q k=fR p q k:=by
 unfold nB aF1 fR;rw[List.length_drop,List.length_drop,List.length_reverse];generalize hs:k-(q.length-1)=s;generalize ht:q.length-1-k=t;have e1:dA (fun i=>(p.drop s).getD i 0*(q.reverse.drop t).getD i 0) (min (p.length-s) (q.length-t))=dA (fun i=>p.getD (s+i) 0*q.getD (k-(s+i)) 0) (min (p.length-s) (q.length-t)):=vX fun i hi=>by
  rw[aKr,aKr,aTo (by omega),show q.length-1-(t+i)=k-(s+i) by omega]
 have e2:dA (fun i=>p.getD (s+i) 0*q.getD (k-(s+i)) 0) (k+1-s)=dA (fun i=>p.getD (s+i) 0*q.getD (k-(s+i)) 0) (min (p.length-s) (q.length-t)):=by
  generalize hc:min (p.length-s) (q.length-t)=c;obtain⟨d,hd⟩:∃ d,k+1-s=c+d:=⟨k+1-s-c,by omega⟩
  rw[hd,rG,nN (f:=fun i=>p.getD (s+(c+i)) 0*q.getD (k-(s+(c+i))) 0),Rat.add_zero];intro i hi;rw[cP (l:=p) (by omega),Rat.zero_mul]
 rw[e1,<- e2,show k+1=s+(k+1-s) by omega,rG,nN (n:=s),Rat.zero_add]
 ·rw[show s+(k+1-s)-s=k+1-s by omega]
 ·intro i hi;rw[cP (l:=q) (by omega),Rat.mul_zero]
theorem aVt {f g:Nat->Rat} {n:Nat} (h:∀ k,k<n->f k=g k):tab f n=tab g n:=List.map_congr_left fun k hk=>h k (List.mem_range.1 hk)
theorem jY (p q:List Rat) (x:Rat):ev (dY p q) x=ev p x*ev q x:=by
 rw[dY,mF];rcases Nat.eq_zero_or_pos q.length with h | h
 ·obtain rfl:=List.eq_nil_of_length_eq_zero h;rw[ev,Rat.mul_zero];refine nU (fun k=>?_) x;rw[rN];split
  ·exact nN fun i hi=>by
    rw[List.length_drop,List.length_drop,List.length_reverse,List.length_nil] at hi;omega
  ·rfl
 ·rw[aVt fun k _=>aFe h,aN0 q x p _ (by omega) h]
def pw (x:Rat):Nat->Rat
 | 0=>1
 | n+1=>pw x n*x
theorem aFj (c x:Rat):∀ (l:List Rat) (i:Nat),i<l.length->ev (l.set i (l.getD i 0+c)) x=ev l x+c*pw x i
 | a::l,0,_=>by show a+c+x*ev l x=a+x*ev l x+c*1; grind
 | a::l,i+1,h=>by
  show a+x*ev (l.set i (l.getD i 0+c)) x=a+x*ev l x+c*(pw x i*x);rw[aFj c x l i (by simpa using h)];grind
theorem aMx (x:Rat) (i:Nat):∀ j,pw x (i+j)=pw x i*pw x j
 | 0=>by show pw x i=pw x i*1; grind
 | j+1=>by show pw x (i+j)*x=pw x i*(pw x j*x); rw[aMx x i j]; grind
def qN (q:List Rat) (x:Rat) (j:Nat):Rat:=dA (fun k=>q.getD k 0*pw x k) j
theorem aPx (f:Nat->Rat) (n:Nat):dA f (n+1)=f 0+dA (fun k=>f (k+1)) n:=by
 rw[show n+1=1+n by omega,rG];show 0+f 0+_=_;rw[Rat.zero_add];congr 1;exact vX fun i _=>by rw[Nat.add_comm]
theorem aJp (f:Nat->Rat) (a:Rat):∀ n,dA (fun k=>f k*a) n=dA f n*a
 | 0=>by show (0:Rat)=0*a; grind
 | n+1=>by show dA (fun k=>f k*a) n+f n*a=(dA f n+f n)*a; rw[aJp f a n]; grind
theorem aFk (x:Rat):∀ (q:List Rat),qN q x q.length=ev q x
 | []=>rfl
 | a::q=>by
  rw[qN,List.length_cons,aPx,ev];have e:dA (fun k=>(a::q).getD (k+1) 0*pw x (k+1)) q.length=dA (fun k=>q.getD k 0*pw x k*x) q.length:=vX fun k _=>by
   show q.getD k 0*(pw x k*x)=_;grind
  rw[e,aJp];have:=aFk x q;unfold qN at this;rw[this];show a*1+_=_;grind
theorem aNh (p q:List Rat) (i:Nat) (x:Rat):∀ (j:Nat) (l:List Rat),i+j<=l.length->ev (gS p q i j l) x=ev l x+p.getD i 0*pw x i*qN q x j
 | 0,l,_=>by show ev l x=ev l x+_*0; grind
 | j+1,l,h=>by
  rw[gS,aFj _ _ _ _ (by rw[zD]; omega),aNh p q i x j l (by omega),aMx];show _=_+_*(qN q x j+q.getD j 0*pw x j);grind
theorem aNg (p q:List Rat) (x:Rat):∀ i,i<=p.length->ev (gJ p q i) x=qN p x i*ev q x
 | 0,_=>by
  rw[gJ,nU]
  ·show (0:Rat)=0*_; grind
  ·intro k;rw[List.getD_eq_getElem?_getD,List.getElem?_replicate];split<;>rfl
 | i+1,h=>by
  rw[gJ,aNh p q i x q.length _ (by rw[tL]; omega),aNg p q x i (by omega),aFk];show _=(qN p x i+p.getD i 0*pw x i)*_;grind
theorem aLz (p q:List Rat) (x:Rat):ev (iS p q) x=ev p x*ev q x:=by
 unfold iS;split
 ·rename_i h;rcases h with rfl | rfl
  ·rw[ev]; grind
  ·rw[ev]; grind
 ·rw[mF,aNg p q x _ (Nat.le_refl _),aFk]
/-! Values,shifts. -/
theorem aKq {l:List Rat} {k:Nat} (h:k<l.length):l.drop (l.length-(k+1))=l.getD (l.length-1-k) 0::l.drop (l.length-k):=by
 rw[List.drop_eq_getElem_cons (by omega),List.getD_eq_getElem?_getD,List.getElem?_eq_getElem (by omega)];rw[show l.length-(k+1)+1=l.length-k by omega];rw[Option.getD_some];simp only[show l.length-(k+1)=l.length-1-k by omega]
theorem aHn (p:List Rat) (x:Rat):∀ k,k<=p.length->oA p x (eL id k)=ev (p.drop (p.length-k)) x
 | 0,_=>by rw[Nat.sub_zero,List.drop_length]; rfl
 | k+1,h=>by
  rw[oM,aHm,aHn p x k (by omega),aKq (by omega),ev];show _*x+p.getD (p.length-1-k) 0=_;grind
theorem aWu (p:List Rat) (x:Rat):aA2 p x=ev p x:=by
 rw[aA2,aHn p x _ (Nat.le_refl _),Nat.sub_self,List.drop_zero]
theorem aGr (p:List Rat) (a x:Rat):∀ k,k<=p.length->ev (eR p a (eL id k)) x=ev (p.drop (p.length-k)) (x+a)
 | 0,_=>by rw[Nat.sub_zero,List.drop_length]; rfl
 | k+1,h=>by
  rw[oM,pH,jZ,cB,ev,aGr p a x k (by omega),aKq (by omega),ev];show p.getD (p.length-1-k) 0+_+_=_;grind
theorem eU (p:List Rat) (a x:Rat):ev (cY p a) x=ev p (x+a):=by
 rw[cY,aGr p a x _ (Nat.le_refl _),Nat.sub_self,List.drop_zero]
/-! Derivatives. -/
def dO:List Rat->Rat->Rat
 | [],_=>0
 | _::l,x=>ev l x+x*dO l x
theorem aDv:∀ {l:List Rat},(∀ k,l.getD k 0=0)->∀ x,dO l x=0
 | [],_,_=>rfl
 | _::l,h,x=>by
  have h':∀ k,l.getD k 0=0:=fun k=>h (k+1);rw[dO,nU h',aDv h'];grind
theorem aL1:∀ {p q:List Rat},(∀ k,p.getD k 0=q.getD k 0)->∀ x,dO p x=dO q x
 | [],q,h,x=>(aDv (fun k=>(h k).symm) x).symm
 | a::p,[],h,x=>aDv h x
 | a::p,b::q,h,x=>by
  have h':∀ k,p.getD k 0=q.getD k 0:=fun k=>h (k+1);rw[dO,dO,wW h',aL1 h']
theorem oX {p q:List Rat} (h:∀ x,ev p x=ev q x) (x:Rat):dO p x=dO q x:=aL1 (uA h) x
theorem aHo (x:Rat):∀ (p:List Rat) (c:Nat),ev (tab (fun k=>p.getD k 0*((k+c:Nat):Rat)) p.length) x=x*dO p x+(c:Rat)*ev p x
 | [],c=>by show (0:Rat)=x*0+c*0; grind
 | a::p,c=>by
  rw[List.length_cons,qU];have e:(fun k=>(a::p).getD (k+1) 0*((k+1+c:Nat):Rat))=fun k=>p.getD k 0*((k+(c+1):Nat):Rat):=by
   funext k
   rw[List.getD_cons_succ,show k+1+c=k+(c+1) by omega]
  rw[e,aHo x p (c+1),ev,dO];show a*((0+c:Nat):Rat)+_=_;rw[Nat.zero_add];have e2:((c+1:Nat):Rat)=(c:Rat)+1:=by simp
  rw[e2];grind
theorem yO (p:List Rat) (x:Rat):ev (cD p) x=dO p x:=by
 rw[cD,mF];cases p with
 | nil=>rfl
 | cons a p =>
  have e:(fun k=>(a::p).getD (k+1) 0*((k+1:Nat):Rat))=fun k=>p.getD k 0*((k+1:Nat):Rat):=rfl;rw[e,List.length_cons,Nat.add_sub_cancel,aHo x p 1,dO];simp;grind
theorem aL2 (p q:List Rat):∀ x,dO (fC p q) x=dO p x+dO q x:=by
 induction p generalizing q with
 | nil =>
  intro x;rw[oX (q:=q) (fun y=>by rw[jZ,ev]; grind),dO];grind
 | cons a p ih =>
  intro x;cases q with
  | nil=>rw[oX (q:=a::p) (fun y=>by rw[jZ,ev]; grind)]; simp only[dO]; grind
  | cons b q =>
   rw[oX (q:=(a+b)::fC p q) (fun y=>by simp only[jZ,ev]; grind)];simp only[dO,jZ,ih];grind
theorem aIy (p:List Rat) (a:Rat):∀ x,dO (aN p a) x=dO p x*a:=by
 induction p with
 | nil=>intro x; rw[oX (q:=[]) (fun y=>by rw[cB,ev]; grind)]; rw[dO]; grind
 | cons b p ih =>
  intro x;rw[oX (q:=(b*a)::aN p a) (fun y=>by simp only[cB,ev]; grind)];simp only[dO,cB,ih];grind
theorem aWv {p q r:List Rat} (h:∀ x,ev r x=ev p x*ev q x):∀ x,dO r x=dO p x*ev q x+ev p x*dO q x:=by
 induction p generalizing r with
 | nil =>
  intro x;rw[oX (q:=[]) (fun y=>by rw[h,ev]; grind)];simp only[dO,ev];grind
 | cons a p ih =>
  intro x;rw[oX (q:=fC (aN q a) (0::dY p q)) (fun y=>by rw[h,jZ,cB,ev,ev,jY]; grind)];rw[aL2,aIy,dO,ih (jY p q),jY,dO,ev];grind
theorem aSj {p r:List Rat} {a:Rat} (h:∀ x,ev r x=ev p (x+a)):∀ x,dO r x=dO p (x+a):=by
 induction p generalizing r with
 | nil=>intro x; rw[oX (q:=[]) h]; rfl
 | cons b p ih =>
  intro x;rw[oX (q:=fC [b] (dY [a,1] (cY p a))) (fun y=>by rw[h,jZ,jY,eU]; simp only[ev]; grind)];rw[aL2,aWv (jY _ _),ih (eU p a),eU];simp only[dO,ev];grind
theorem aXl {e B:Nat} (h:e<=29*B) (hB:1<=B):2^e<1000000000^B:=by
 have h1:2^e<=2^(29*B):=Nat.pow_le_pow_right (by decide) h;rw[Nat.pow_mul] at h1;exact Nat.lt_of_le_of_lt h1 (Nat.pow_lt_pow_left (by decide) (by omega))
theorem uD {l:List Rat} {e B:Nat} (hB:1<=B) (he:e<=29*B) (h:∀ a∈l,a.num.natAbs<=2^e/\a.den<=2^e):aG l B=true:=by
 refine pW fun a ha=>?_;have hp:=aXl he hB;obtain⟨h1,h2⟩:=h a ha;refine nY (kW.2 (Nat.lt_of_le_of_lt h1 hp)) (kW.2 (Nat.lt_of_le_of_lt ?_ hp));unfold qd;split
 ·exact Nat.zero_le _
 ·exact h2
/-! A number with few bits. -/
def dP (a:Rat) (e:Nat):Prop:=∃ z m:Int,m≠0/\a*(m:Rat)=(z:Rat)/\z.natAbs<=2^e/\m.natAbs<=2^e
theorem nV {m:Int} (h:m≠0):(m:Rat)≠0:=fun e=>h (by
 have:(m:Rat)=((0:Int):Rat):=e;exact Rat.intCast_inj.1 this)
theorem wP (a:Rat):a*(a.den:Rat)=(a.num:Rat):=by
 have h:=Rat.num_divInt_den a;rw[Rat.divInt_eq_div,Rat.intCast_natCast] at h;have hd:(a.den:Rat)≠0:=fun e=>a.den_nz (by
  have:((a.den:Int):Rat)=((0:Int):Rat):=by rw[Rat.intCast_natCast]; exact e
  have:=Rat.intCast_inj.1 this;omega)
 have h2:(a.num:Rat)/(a.den:Rat)*(a.den:Rat)=(a.num:Rat):=by
  rw[Rat.div_def,Rat.mul_assoc,Rat.inv_mul_cancel _ hd,Rat.mul_one]
 rw[h] at h2;exact h2
theorem aIx {a:Rat} {e:Nat} (h:dP a e):a.num.natAbs<=2^e/\a.den<=2^e:=by
 obtain⟨z,m,hm,h1,h2,h3⟩:=h;have h4:a.num*m=z*a.den:=by
  have e1:=wP a;have e2:((a.num*m:Int):Rat)=((z*a.den:Int):Rat):=by
   rw[Rat.intCast_mul,Rat.intCast_mul,<- h1,<- e1];rw[Rat.intCast_natCast];grind
  exact Rat.intCast_inj.1 e2
 have h5:a.num.natAbs*m.natAbs=z.natAbs*a.den:=by
  have:=congrArg Int.natAbs h4;rw[Int.natAbs_mul,Int.natAbs_mul,Int.natAbs_natCast] at this;exact this
 have hc:Nat.Coprime a.num.natAbs a.den:=a.reduced;have d1:a.den ∣ m.natAbs:=by
  have:a.den ∣ a.num.natAbs*m.natAbs:=⟨z.natAbs,by rw[h5,Nat.mul_comm]⟩
  exact(Nat.Coprime.symm hc).dvd_of_dvd_mul_left this
 have d2:a.num.natAbs ∣ z.natAbs:=by
  have:a.num.natAbs ∣ z.natAbs*a.den:=⟨m.natAbs,h5.symm⟩
  exact hc.dvd_of_dvd_mul_right this
 refine⟨?_,Nat.le_trans (Nat.le_of_dvd (by omega) d1) h3⟩;by_cases hz:z.natAbs=0
 ·rw[hz,Nat.zero_mul] at h5;have h6:m.natAbs≠0:=by omega
  have:a.num.natAbs=0:=(Nat.mul_eq_zero.1 h5).resolve_right h6;omega
 ·exact Nat.le_trans (Nat.le_of_dvd (by omega) d2) h2
theorem nX {a:Rat} {e B:Nat} (hB:1<=B) (he:e<=29*B) (h:dP a e):aG [a] B=true :=
 uD hB he fun b hb=>by obtain rfl:=List.mem_singleton.1 hb; exact aIx h
def Cm (m:Int) (p:List Rat) (e:Nat):Prop:=∀ k,∃ z:Int,p.getD k 0*(m:Rat)=(z:Rat)/\z.natAbs<=2^e
def Cb (p:List Rat) (e:Nat):Prop:=∃ m:Int,m≠0/\m.natAbs<=2^e/\Cm m p e
theorem eS {d e:Nat} (h:d<=e):2^d<=2^e:=Nat.pow_le_pow_right (by decide) h
theorem Cm.mono {m:Int} {p:List Rat} {d e:Nat} (h:Cm m p d) (hd:d<=e):Cm m p e:=fun k=>by
 obtain⟨z,h1,h2⟩:=h k;exact⟨z,h1,Nat.le_trans h2 (eS hd)⟩
theorem Cb.mono {p:List Rat} {d e:Nat} (h:Cb p d) (hd:d<=e):Cb p e:=by
 obtain⟨m,h1,h2,h3⟩:=h;exact⟨m,h1,Nat.le_trans h2 (eS hd),h3.mono hd⟩
theorem Cb.few {p:List Rat} {e:Nat} (h:Cb p e) (k:Nat):dP (p.getD k 0) e:=by
 obtain⟨m,h1,h2,h3⟩:=h;obtain⟨z,h4,h5⟩:=h3 k;exact⟨z,m,h1,h4,h5,h2⟩
theorem Cb.sz {p:List Rat} {e B:Nat} (h:Cb p e) (hB:1<=B) (he:e<=29*B):aG p B=true :=
 uD hB he fun a ha=>by
  obtain⟨i,hi,rfl⟩:=List.getElem_of_mem ha;have:=aIx (h.few i);rw[List.getD_eq_getElem?_getD,List.getElem?_eq_getElem hi] at this;exact this
theorem Cm.ext {m:Int} {p q:List Rat} {e:Nat} (h:Cm m p e) (hq:∀ k,q.getD k 0=p.getD k 0):Cm m q e:=fun k=>by rw[hq]; exact h k
theorem Cb.ext {p q:List Rat} {e:Nat} (h:Cb p e) (hq:∀ k,q.getD k 0=p.getD k 0):Cb q e:=by
 obtain⟨m,h1,h2,h3⟩:=h;exact⟨m,h1,h2,h3.ext hq⟩
theorem Cb.nil (e:Nat):Cb [] e:=⟨1,by decide,Nat.one_le_two_pow,fun k=>⟨0,by rw[cP (Nat.zero_le _),Rat.zero_mul]; rfl,Nat.zero_le _⟩⟩
theorem aWk {a b c d:Nat} (h1:a<=2^c) (h2:b<=2^d):a*b<=2^(c+d):=by rw[Nat.pow_add]; exact Nat.mul_le_mul h1 h2
theorem gQ {a b:Int} {c d:Nat} (h1:a.natAbs<=2^c) (h2:b.natAbs<=2^d):(a*b).natAbs<=2^(c+d):=by rw[Int.natAbs_mul]; exact aWk h1 h2
theorem aW5 {a b:Int} {c:Nat} (h1:a.natAbs<=2^c) (h2:b.natAbs<=2^c):(a+b).natAbs<=2^(c+1):=by rw[Nat.pow_succ]; omega
theorem aE3 {a b:Int} {c:Nat} (h1:a.natAbs<=2^c) (h2:b.natAbs<=2^c):(a-b).natAbs<=2^(c+1):=by rw[Nat.pow_succ]; omega
theorem nP {g:Nat->Rat} {n k:Nat}:(aI (tab g n)).getD k 0=if k<n then g k else 0:=by rw[yG,rN]
theorem Cb.scale {p:List Rat} {a:Rat} {c d:Nat} (hp:Cb p c) (ha:dP a d):Cb (aN p a) (c+d):=by
 obtain⟨m,m1,m2,m3⟩:=hp;obtain⟨z,n,n1,n2,n3,n4⟩:=ha;refine⟨m*n,Int.mul_ne_zero m1 n1,gQ m2 n4,fun k=>?_⟩;obtain⟨y,y1,y2⟩:=m3 k;refine⟨y*z,?_,gQ y2 n3⟩;have e:(aN p a).getD k 0=p.getD k 0*a:=by
  rw[aN,nP];split
  ·rfl
  ·rw[cP (by omega)]; grind
 rw[e,Rat.intCast_mul,Rat.intCast_mul,<- y1,<- n2];grind
theorem Cb.derive {p:List Rat} {c t:Nat} (hp:Cb p c) (ht:p.length<=2^t):Cb (cD p) (c+t):=by
 obtain⟨m,m1,m2,m3⟩:=hp;refine⟨m,m1,Nat.le_trans m2 (eS (by omega)),fun k=>?_⟩;rw[cD,nP];by_cases hk:k<p.length-1
 ·rw[if_pos hk];obtain⟨y,y1,y2⟩:=m3 (k+1);refine⟨y*((k+1:Nat):Int),?_,gQ y2 (by rw[Int.natAbs_natCast]; omega)⟩;rw[Rat.intCast_mul,<- y1,Rat.intCast_natCast];grind
 ·rw[if_neg hk];exact⟨0,by grind,Nat.zero_le _⟩
theorem aJq {f:Nat->Rat} {M:Rat} {e:Nat} (h:∀ i,∃ z:Int,f i*M=(z:Rat)/\z.natAbs<=2^e):∀ n,∃ z:Int,dA f n*M=(z:Rat)/\z.natAbs<=n*2^e
 | 0=>⟨0,by show (0:Rat)*M=((0:Int):Rat); rw[Rat.zero_mul]; rfl,Nat.zero_le _⟩
 | n+1=>by
  obtain⟨z,z1,z2⟩:=aJq h n;obtain⟨y,y1,y2⟩:=h n;refine⟨z+y,?_,by rw[Nat.succ_mul]; omega⟩;show (dA f n+f n)*M=_;rw[Rat.intCast_add,<- z1,<- y1];grind
theorem aNj {p q:List Rat} {k:Nat} (h:p.length+q.length<=k+1):fR p q k=0:=by
 refine nN fun i _=>?_;rcases Nat.lt_or_ge i p.length with hi | hi
 ·rw[cP (l:=q) (by omega),Rat.mul_zero]
 ·rw[cP hi,Rat.zero_mul]
theorem zB (p q:List Rat) (k:Nat):(dY p q).getD k 0=fR p q k:=by
 rw[dY,nP];rcases Nat.eq_zero_or_pos q.length with h | h
 ·obtain rfl:=List.eq_nil_of_length_eq_zero h;have e:fR p [] k=0:=nN fun i _=>by rw[cP (l:=[]) (Nat.zero_le _),Rat.mul_zero]
  rw[e];split
  ·exact nN fun i hi=>by
    rw[List.length_drop,List.length_drop,List.length_reverse,List.length_nil] at hi;omega
  ·rfl
 ·split
  ·exact aFe h
  ·rw[aNj (by omega)]
theorem Cb.cv {p q:List Rat} {c d t:Nat} (hp:Cb p c) (hq:Cb q d) (ht:p.length+q.length<=2^t):∃ m:Int,m≠0/\m.natAbs<=2^(c+d+t)/\∀ k,∃ z:Int,fR p q k*(m:Rat)=(z:Rat)/\z.natAbs<=2^(c+d+t):=by
 obtain⟨m,m1,m2,m3⟩:=hp;obtain⟨n,n1,n2,n3⟩:=hq;refine⟨m*n,Int.mul_ne_zero m1 n1,Nat.le_trans (gQ m2 n2) (eS (by omega)),fun k=>?_⟩;rcases Nat.lt_or_ge (k+1) (p.length+q.length) with hk | hk
 ·obtain⟨z,z1,z2⟩:=aJq (f:=fun i=>p.getD i 0*q.getD (k-i) 0) (M:=((m*n:Int):Rat)) (e:=c+d) (fun i=>by
   obtain⟨y,y1,y2⟩:=m3 i;obtain⟨z,z1,z2⟩:=n3 (k-i);refine⟨y*z,?_,gQ y2 z2⟩;rw[Rat.intCast_mul,Rat.intCast_mul,<- y1,<- z1];grind) (k+1)
  refine⟨z,z1,Nat.le_trans z2 ?_⟩;rw[Nat.pow_add 2 (c+d) t,Nat.mul_comm];exact Nat.mul_le_mul_left _ (by omega)
 ·rw[aNj hk];exact⟨0,by rw[Rat.zero_mul]; rfl,Nat.zero_le _⟩
theorem Cb.mul {p q:List Rat} {c d t:Nat} (hp:Cb p c) (hq:Cb q d) (ht:p.length+q.length<=2^t):Cb (dY p q) (c+d+t):=by
 obtain⟨m,h1,h2,h3⟩:=hp.cv hq ht;exact⟨m,h1,h2,fun k=>by rw[zB]; exact h3 k⟩
theorem fA {p:List Rat} (hp:aI p=p) (h0:p≠[]):aH p≠0:=by
 have:=aG3 p;rw[hp] at this;exact this.resolve_left h0
theorem Cb.monic {p:List Rat} {c:Nat} (hp:Cb p c) (h0:aH p≠0):Cb (aX p) c:=by
 obtain⟨m,m1,m2,m3⟩:=hp;obtain⟨n,n1,n2⟩:=m3 (p.length-1);have hm:=nV m1;have hn:n≠0:=by
  rintro rfl;have h3:aH p*(m:Rat)=0:=n1;rcases Rat.mul_eq_zero.1 h3 with h | h
  ·exact h0 h
  ·exact hm h
 refine⟨n,hn,n2,fun k=>?_⟩;obtain⟨z,z1,z2⟩:=m3 k;refine⟨z,?_,z2⟩;have e:(aX p).getD k 0=p.getD k 0*(1/aH p):=by
  rw[aX,aN,nP];split
  ·rfl
  ·rw[cP (by omega)]; grind
 have n1':aH p*(m:Rat)=(n:Rat):=n1;rw[e,<- z1,<- n1'];grind
/-! uX step of a division. -/
theorem aEh (p q:List Rat) (m:Rat) (k:Nat):(dW p q m).getD k 0=if k<p.length-1 then (if k<p.length-q.length then p.getD k 0 else p.getD k 0-m*q.getD (k-(p.length-q.length)) 0) else 0:=by rw[dW,nP]
theorem zU (p q:List Rat) (m:Rat):(dW p q m).length<=p.length-1:=by
 unfold dW;refine Nat.le_trans (iL _) ?_;rw[eX];exact Nat.le_refl _
theorem aYc {p q:List Rat} {mp mq n:Int} {c d:Nat} (hp:Cm mp p c) (hq:Cm mq q d) (hm:mq≠0) (hn:aH q*(mq:Rat)=(n:Rat)) (hnb:n.natAbs<=2^d) (h0:aH q≠0):Cm (mp*n) (dW p q (aH p/aH q)) (c+d+1):=by
 intro k;obtain⟨l,l1,l2⟩:=hp (p.length-1);have l1':aH p*(mp:Rat)=(l:Rat):=l1;obtain⟨y,y1,y2⟩:=hp k;rw[aEh];have b1:(y*n).natAbs<=2^(c+d):=gQ y2 hnb;have hq0:=nV hm;by_cases h1:k<p.length-1
 ·rw[if_pos h1];by_cases h2:k<p.length-q.length
  ·rw[if_pos h2];refine⟨y*n,?_,Nat.le_trans b1 (eS (by omega))⟩;rw[Rat.intCast_mul,Rat.intCast_mul,<- y1];grind
  ·rw[if_neg h2];obtain⟨z,z1,z2⟩:=hq (k-(p.length-q.length));refine⟨y*n-l*z,?_,aE3 b1 (gQ l2 z2)⟩;rw[Rat.intCast_sub,Rat.intCast_mul,Rat.intCast_mul,Rat.intCast_mul,<- y1,<- l1',<- z1,<- hn];grind
 ·rw[if_neg h1];exact⟨0,by rw[Rat.zero_mul]; rfl,Nat.zero_le _⟩
/-! Shifted lists; the value of one step. -/
def eE (s:Nat) (q:List Rat):List Rat:=List.replicate s 0++q
theorem zT {s:Nat} {q:List Rat} {k:Nat}:(eE s q).getD k 0=if k<s then 0 else q.getD (k-s) 0:=by
 unfold eE;rw[List.getD_eq_getElem?_getD];by_cases h:k<s
 ·rw[if_pos h,List.getElem?_append_left (by rw[List.length_replicate]; exact h),List.getElem?_replicate,if_pos h];rfl
 ·rw[if_neg h,List.getElem?_append_right (by rw[List.length_replicate]; omega),List.length_replicate,List.getD_eq_getElem?_getD]
theorem wV (q:List Rat) (x:Rat):∀ s,ev (eE s q) x=pw x s*ev q x
 | 0=>by show ev q x=1*ev q x; rw[Rat.one_mul]
 | s+1=>by
  show ev (List.replicate (s+1) 0++q) x=pw x s*x*ev q x;rw[List.replicate_succ,List.cons_append,ev];have:=wV q x s;unfold eE at this;rw[this];grind
theorem jT (p:List Rat) (a:Rat) (k:Nat):(aN p a).getD k 0=p.getD k 0*a:=by
 rw[aN,nP];split
 ·rfl
 ·rw[cP (by omega),Rat.zero_mul]
theorem aVv (p q:List Rat) (k:Nat):(fN p q).getD k 0=p.getD k 0-q.getD k 0:=by
 rw[fN,nP];split
 ·rfl
 ·rw[cP (by omega),cP (by omega)]; grind
theorem aW4 (p q:List Rat) (k:Nat):(fC p q).getD k 0=p.getD k 0+q.getD k 0:=by
 rw[fC,nP];split
 ·rfl
 ·rw[cP (by omega),cP (by omega)]; grind
theorem aV2 {p q:List Rat} {m:Rat} (hl:q.length<=p.length) (h0:0<q.length) (hm:aH p=m*aH q) (k:Nat):(dW p q m).getD k 0=(fN p (aN (eE (p.length-q.length) q) m)).getD k 0:=by
 rw[aEh,aVv,jT,zT];by_cases h1:k<p.length-q.length
 ·rw[if_pos (by omega),if_pos h1,if_pos h1]; grind
 ·rw[if_neg h1,if_neg h1];by_cases h2:k<p.length-1
  ·rw[if_pos h2]; grind
  ·rw[if_neg h2];by_cases h3:k=p.length-1
   ·rw[show k-(p.length-q.length)=q.length-1 by omega,h3];unfold aH at hm;rw[hm];grind
   ·rw[cP (l:=p) (by omega),cP (l:=q) (by omega)]; grind
theorem aAp {p q:List Rat} {m:Rat} (hl:q.length<=p.length) (h0:0<q.length) (hm:aH p=m*aH q) (x:Rat):ev (dW p q m) x=ev p x-pw x (p.length-q.length)*ev q x*m:=by
 rw[wW (aV2 hl h0 hm),lM,cB,wV]
theorem yY (p q:List Rat) (m:Rat):aI (dW p q m)=dW p q m:=cF _
/-! Division. -/
def cV (u:List (Option Rat)):List Rat:=u.map fun o=>o.getD 0
theorem rI {u:List (Option Rat)} {i:Nat}:(cV u).getD i 0=(u.getD i none).getD 0:=by
 unfold cV;rw[List.getD_eq_getElem?_getD,List.getD_eq_getElem?_getD,List.getElem?_map];cases u[i]?<;>rfl
theorem aSd {p q:List Rat} {mp mq l n:Int} {e:Nat} (h1:aH p*(mp:Rat)=(l:Rat)) (h2:aH q*(mq:Rat)=(n:Rat)) (hp:mp≠0) (hq:aH q≠0) (hn:n≠0) (hl:(l*mq).natAbs<=2^e) (hb:(mp*n).natAbs<=2^e):dP (aH p/aH q) e:=by
 refine⟨l*mq,mp*n,Int.mul_ne_zero hp hn,?_,hl,hb⟩;rw[Rat.intCast_mul,Rat.intCast_mul,<- h1,<- h2,Rat.div_def];have:=Rat.mul_inv_cancel _ hq;grind
theorem wO {q:List Rat} {mq n:Int} (h2:aH q*(mq:Rat)=(n:Rat)) (hm:mq≠0) (hq:aH q≠0):n≠0:=by
 rintro rfl;rcases Rat.mul_eq_zero.1 (h2:aH q*(mq:Rat)=0) with h | h
 ·exact hq h
 ·exact nV hm h
theorem tX {u:List (Option Rat)} {s i:Nat} {o:Option Rat} (h:s<u.length):(u.set s o).getD i none=if s=i then o else u.getD i none:=by
 rw[List.getD_eq_getElem?_getD,List.getD_eq_getElem?_getD];by_cases e:s=i
 ·subst e;rw[List.getElem?_set_self h,if_pos rfl];rfl
 ·rw[List.getElem?_set_ne e,if_neg e]
theorem aEv {u:List (Option Rat)} {s:Nat} {a:Rat} (h:s<u.length) (hn:u.getD s none=none) (x:Rat):ev (cV (u.set s (some a))) x=ev (cV u) x+a*pw x s:=by
 have e:cV (u.set s (some a))=(cV u).set s ((cV u).getD s 0+a):=by
  rw[rI,hn];unfold cV;rw[List.map_set];show _=List.set _ s (0+a);rw[Rat.zero_add];rfl
 rw[e,aFj _ _ _ _ (by unfold cV; rw[List.length_map]; exact h)]
theorem aUv {B:Nat} {q:List Rat} {mq n:Int} {d:Nat} (hB:1<=B) (hq:0<q.length) (h0:aH q≠0) (hm:mq≠0) (hmq:mq.natAbs<=2^d) (hqd:Cm mq q d) (hn:aH q*(mq:Rat)=(n:Rat)) (hnb:n.natAbs<=2^d) :
  ∀ (f:Nat) (r:List Rat) (u:List (Option Rat)) (mr:Int) (c:Nat),r.length<f->aI r=r->mr≠0->mr.natAbs<=2^c->Cm mr r c->r.length+1<=u.length+q.length->(q.length<=r.length->∀ i,i<=r.length-q.length->u.getD i none=none)->c+(r.length+1-q.length)*(d+1)+d<=29*B ->
  ∃ U R j,iT B q f u r=some (U,R)/\U.length=u.length/\aI R=R/\R.length<q.length/\(∀ x,ev (cV U) x*ev q x+ev R x=ev (cV u) x*ev q x+ev r x)/\j<=r.length+1-q.length/\Cm (mr*n^j) R (c+j*(d+1))/\(∀ i,∃ z:Int,((cV U).getD i 0-(cV u).getD i 0)*((mr*n^j:Int):Rat)=(z:Rat)/\z.natAbs<=2^(c+(r.length+1-q.length)*(d+1)+d))/\(∀ i,r.length-q.length<i\/r.length<q.length->U.getD i none=u.getD i none)/\(q.length<=r.length->U.getD (r.length-q.length) none=some (aH r/aH q)):=by
 have hn0:=wO hn hm h0;intro f
 induction f with
 | zero=>intro r u mr c hf; omega
 | succ f ih =>
  intro r u mr c hf htr hmr hmrb hrc hul hun hE;rw[iT];by_cases hl:q.length<=r.length
  ·rw[if_pos hl];obtain⟨l,l1,l2⟩:=hrc (r.length-1);have hr0:r≠[]:=fun e=>by rw[e,List.length_nil] at hl; omega
   obtain⟨t,ht⟩:∃ t,r.length+1-q.length=t+1:=⟨r.length-q.length,by omega⟩
   rw[ht,Nat.succ_mul] at hE;have hfew:dP (aH r/aH q) (c+d):=aSd l1 hn hmr h0 hn0 (gQ l2 hmq) (gQ hmrb hnb);have hs1:aG [aH r/aH q] B=true:=nX hB (by omega) hfew;have hlr:aH r=aH r/aH q*aH q:=by
    rw[Rat.div_def,Rat.mul_assoc,Rat.inv_mul_cancel _ h0,Rat.mul_one]
   have hred:=aYc hrc hqd hm hn hnb h0;have hmn:(mr*n).natAbs<=2^(c+d+1):=Nat.le_trans (gQ hmrb hnb) (eS (by omega));have hs2:aG (dW r q (aH r/aH q)) B=true:=Cb.sz ⟨mr*n,Int.mul_ne_zero hmr hn0,hmn,hred⟩ hB (by omega);rw[if_pos (by rw[hs1,hs2]; rfl)];have hlen:=zU r q (aH r/aH q);generalize hs:r.length-q.length=s at *;have hsu:s<u.length:=by omega
   have hrl:r.length≠0:=fun e=>hr0 (List.eq_nil_of_length_eq_zero e);have hst:t=s:=by omega
   have hsteps:(dW r q (aH r/aH q)).length+1-q.length<=t:=by omega
   have hmulle:=Nat.mul_le_mul_right (d+1) hsteps;obtain⟨U,R,j,k1,k2,k3,k4,k5,k6,k7,k8,k9,-⟩:=ih (dW r q (aH r/aH q)) (u.set s (some (aH r/aH q))) (mr*n) (c+d+1) (by omega) (yY _ _ _) (Int.mul_ne_zero hmr hn0) hmn hred (by rw[List.length_set]; omega) (fun _ i hi=>by
    rw[tX hsu,if_neg (by omega)];exact hun hl i (by omega)) (by omega)
   have hUs:U.getD s none=some (aH r/aH q):=by
    rw[k9 s (by omega),tX hsu,if_pos rfl]
   refine⟨U,R,j+1,k1,by rw[k2,List.length_set],k3,k4,fun x=>?_,by omega,?_,fun i=>?_,fun i hi=>?_,fun _=>hUs⟩
   ·rw[k5,aEv hsu (hun hl s (Nat.le_refl _)),aAp hl hq hlr,hs];grind
   ·rw[Int.pow_succ',<- Int.mul_assoc];exact k7.mono (by rw[Nat.succ_mul]; omega)
   ·have e:mr*n^(j+1)=mr*n*n^j:=by rw[Int.pow_succ',<- Int.mul_assoc]
    rw[e,ht,Nat.succ_mul];by_cases his:i=s
    ·subst his;have hdj:=Nat.mul_le_mul_left d (show j<=t by omega);refine⟨l*mq*n^j,?_,Nat.le_trans (gQ (gQ l2 hmq) (c:=c+d) (d:=d*j) ?_) (eS ?_)⟩
     ·rw[rI,rI,hUs,hun hl i (Nat.le_refl _)];show (aH r/aH q-0)*_=_;have h5:aH r/aH q*((mr*n:Int):Rat)=((l*mq:Int):Rat):=by
       rw[Rat.intCast_mul,Rat.intCast_mul,<- (show aH r*(mr:Rat)=(l:Rat) from l1),<- hn,Rat.div_def];have:=Rat.mul_inv_cancel _ h0;grind
      rw[Rat.intCast_mul (mr*n),Rat.intCast_mul (l*mq),<- h5];grind
     ·rw[Int.natAbs_pow,Nat.pow_mul];exact Nat.pow_le_pow_left hnb _
     ·have:d*j<=t*(d+1):=by
       rw[Nat.mul_comm d j];exact Nat.mul_le_mul (by omega) (by omega)
      omega
    ·obtain⟨z,z1,z2⟩:=k8 i;refine⟨z,?_,Nat.le_trans z2 (eS (by omega))⟩;rw[<- z1];congr 2;rw[rI,rI,tX hsu,if_neg (fun e=>his e.symm)]
   ·have h7:s<i:=by omega
    rw[k9 i (by omega),tX hsu,if_neg (by omega)]
  ·rw[if_neg hl];refine⟨u,r,0,rfl,rfl,htr,by omega,fun x=>rfl,Nat.zero_le _,?_,fun i=>⟨0,?_,Nat.zero_le _⟩,fun i _=>rfl,fun h=>absurd h hl⟩
   ·rw[Int.pow_zero,Int.mul_one];exact hrc.mono (by omega)
   ·have:(cV u).getD i 0-(cV u).getD i 0=0:=by grind
    rw[this,Rat.zero_mul];rfl
theorem yN (n:Nat) (k:Nat):(cV (List.replicate n none)).getD k 0=0:=by
 rw[rI,List.getD_eq_getElem?_getD,List.getElem?_replicate];split<;>rfl
theorem aBp {p:List Rat} (h:p=[]\/aH p≠0):aI p=p:=by
 rcases h with rfl | h
 ·rfl
 ·have hp:p≠[]:=by rintro rfl; exact h rfl
  obtain⟨m',a,rfl⟩:∃ m' a,p=m'++[a]:=⟨p.dropLast,p.getLast hp,(List.dropLast_concat_getLast _).symm⟩
  have ha:a≠0:=by simpa[aH] using h
  rw[qX,if_neg ha]
def jM (p q:List Rat) (c d:Nat):Nat:=c+(p.length+1-q.length)*(d+1)+d
theorem vU {B:Nat} {p q:List Rat} {c d:Nat} (hB:1<=B) (hp:aI p=p) (hq:aI q=q) (h0:q≠[]) (hc:Cb p c) (hd:Cb q d) (hE:jM p q c d<=29*B) :
  ∃ U R,dE B p q=some (U,R)/\aI U=U/\aI R=R/\R.length<q.length/\U.length=p.length+1-q.length/\(∀ x,ev p x=ev U x*ev q x+ev R x)/\Cb U (jM p q c d)/\Cb R (jM p q c d-d):=by
 unfold jM at *;obtain⟨mp,m1,m2,m3⟩:=hc;obtain⟨mq,n1,n2,n3⟩:=hd;obtain⟨n,nn1,nn2⟩:=n3 (q.length-1);have hl:=fA hq h0;have hql:=List.length_pos_iff.2 h0;obtain⟨U,R,j,k1,k2,k3,k4,k5,k6,k7,k8,k9,k10⟩:=aUv hB hql hl n1 n2 n3 nn1 nn2 (p.length+2) p (List.replicate (p.length+1-q.length) none) mp c (by omega) hp m1 m2 m3 (by rw[List.length_replicate]; omega) (fun _ i _=>by rw[List.getD_eq_getElem?_getD,List.getElem?_replicate]; split<;>rfl) hE;have hz:=yN (p.length+1-q.length);rw[List.length_replicate] at k2;have hM:mp*n^j≠0:=Int.mul_ne_zero m1 (Int.pow_ne_zero (wO nn1 n1 hl));have hjd:j*(d+1)<=(p.length+1-q.length)*(d+1):=Nat.mul_le_mul_right _ k6;have hMb:(mp*n^j).natAbs<=2^(c+(p.length+1-q.length)*(d+1)):=by
  refine Nat.le_trans (gQ m2 (d:=d*j) ?_) (eS ?_)
  ·rw[Int.natAbs_pow,Nat.pow_mul];exact Nat.pow_le_pow_left nn2 _
  ·have:d*j<=j*(d+1):=by rw[Nat.mul_comm]; exact Nat.mul_le_mul_left _ (by omega)
   omega
 refine⟨cV U,R,?_,?_,k3,k4,by unfold cV; rw[List.length_map,k2],fun x=>?_,⟨_,hM,Nat.le_trans hMb (eS (by omega)),fun i=>?_⟩,⟨_,hM,Nat.le_trans hMb (eS (by omega)),k7.mono (by omega)⟩⟩
 ·rw[dE,if_neg h0,k1];rfl
 ·refine aBp ?_;rcases Nat.lt_or_ge p.length q.length with hlt | hge
  ·left
   refine List.eq_nil_of_length_eq_zero ?_;unfold cV;rw[List.length_map,k2];omega
  ·right
   have hp0:p≠[]:=fun e=>by rw[e,List.length_nil] at hge; omega
   have e:(cV U).length-1=p.length-q.length:=by unfold cV; rw[List.length_map,k2]; omega
   rw[aH,e,rI,k10 hge];show aH p/aH q≠0;rw[Rat.div_def];intro h;rcases Rat.mul_eq_zero.1 h with h | h
   ·exact fA hp hp0 h
   ·exact hl (by rw[<- Rat.inv_inv (aH q),h,Rat.inv_zero])
 ·rw[k5,nU hz];grind
 ·obtain⟨z,z1,z2⟩:=k8 i;rw[hz] at z1;exact⟨z,by rw[<- z1]; grind,z2⟩
/-! Whole numbers. -/
theorem aCk {a:Rat} {z m:Int} (hm:m≠0) (h1:a*(m:Rat)=(z:Rat)):a.num.natAbs<=z.natAbs/\a.den ∣ m.natAbs/\a.den<=m.natAbs:=by
 have e1:=wP a;have h4:a.num*m=z*a.den:=by
  have e2:((a.num*m:Int):Rat)=((z*a.den:Int):Rat):=by
   rw[Rat.intCast_mul,Rat.intCast_mul,<- h1,<- e1];rw[Rat.intCast_natCast];grind
  exact Rat.intCast_inj.1 e2
 have h5:a.num.natAbs*m.natAbs=z.natAbs*a.den:=by
  have:=congrArg Int.natAbs h4;rw[Int.natAbs_mul,Int.natAbs_mul,Int.natAbs_natCast] at this;exact this
 have hc:Nat.Coprime a.num.natAbs a.den:=a.reduced;have d1:a.den ∣ m.natAbs:=by
  have:a.den ∣ a.num.natAbs*m.natAbs:=⟨z.natAbs,by rw[h5,Nat.mul_comm]⟩
  exact(Nat.Coprime.symm hc).dvd_of_dvd_mul_left this
 have d2:a.num.natAbs ∣ z.natAbs:=by
  have:a.num.natAbs ∣ z.natAbs*a.den:=⟨m.natAbs,h5.symm⟩
  exact hc.dvd_of_dvd_mul_right this
 refine⟨?_,d1,Nat.le_of_dvd (by omega) d1⟩;by_cases hz:z.natAbs=0
 ·rw[hz,Nat.zero_mul] at h5;have h6:m.natAbs≠0:=by omega
  have:a.num.natAbs=0:=(Nat.mul_eq_zero.1 h5).resolve_right h6;omega
 ·exact Nat.le_of_dvd (by omega) d2
theorem mV (z:Int):wR z=(z:Rat):=by
 rw[show wR z=Rat.divInt z 1 from rfl,Rat.divInt_eq_div,Rat.div_def];show (z:Rat)*(1:Rat)⁻¹=_;have:(1:Rat)⁻¹=1:=by decide +kernel
 rw[this,Rat.mul_one]
theorem kQ {p:List Rat} {a:Rat} (hp:aI p=p) (ha:a≠0):(aN p a).length=p.length/\aH (aN p a)=aH p*a:=by
 by_cases h0:p=[]
 ·subst h0;refine⟨rfl,?_⟩;show (0:Rat)=0*a;rw[Rat.zero_mul]
 ·have hpl:=List.length_pos_iff.2 h0;have e:(tab (fun k=>p.getD k 0*a) p.length).length=p.length:=eX;have hl:aH (tab (fun k=>p.getD k 0*a) p.length)=aH p*a:=by
   unfold aH;rw[e,rN,if_pos (by omega)]
  have ht:aN p a=tab (fun k=>p.getD k 0*a) p.length:=aBp (.inr (by
   rw[hl];intro h;exact(Rat.mul_eq_zero.1 h).elim (fA hp h0) ha))
  rw[ht];exact⟨e,hl⟩
theorem Cm.scale1 {p:List Rat} {n c d:Nat} (hp:Cm 1 p c) (hn:n<=2^d):Cm 1 (aN p (wR (n:Int))) (c+d):=fun k=>by
 obtain⟨z,z1,z2⟩:=hp k;refine⟨z*(n:Int),?_,gQ z2 (by rw[Int.natAbs_natCast]; exact hn)⟩;rw[jT,mV,Rat.intCast_mul,<- z1];grind
theorem lI (a:Rat):a*((1:Int):Rat)=a:=Rat.mul_one a
theorem mW {p:List Rat} {c:Nat} (h:Cm 1 p c):Cb p c:=⟨1,by decide,Nat.one_le_two_pow,h⟩
theorem aDm {B:Nat} {q:List Rat} {d:Nat} (hB:1<=B) (hq:0<q.length) (h0:aH q≠0) (hqd:Cm 1 q d) :
  ∀ (f:Nat) (p:List Rat) (c:Nat),p.length<f->aI p=p->Cm 1 p c->c+(p.length+1-q.length)*(d+1)<=29*B ->
  ∃ R,kX B q f p=some R/\aI R=R/\R.length<q.length/\(p.length<q.length->R=p)/\Cm 1 R (c+(p.length+1-q.length)*(d+1))/\∃ (a:Rat) (u:List Rat),a≠0/\∀ x,ev R x=a*ev p x+ev u x*ev q x:=by
 intro f
 induction f with
 | zero=>intro p c hf; omega
 | succ f ih =>
  intro p c hf htr hpc hE;rw[kX];by_cases hl:q.length<=p.length
  ·rw[if_pos hl];have hp0:p≠[]:=fun e=>by rw[e,List.length_nil] at hl; omega
   have hlp:=fA htr hp0;obtain⟨l,l1,l2⟩:=hpc (p.length-1);obtain⟨n,n1,n2⟩:=hqd (q.length-1);have l1':aH p*((1:Int):Rat)=(l:Rat):=l1;have n1':aH q*((1:Int):Rat)=(n:Rat):=n1;have hn0:=wO n1' (by decide) h0;obtain⟨t,ht⟩:∃ t,p.length+1-q.length=t+1:=⟨p.length-q.length,by omega⟩
   rw[ht,Nat.succ_mul] at hE;have hM:fO q p*(n:Rat)=(l:Rat):=by
    rw[<- l1',<- n1',lI,lI,fO,Rat.div_def,Rat.mul_assoc,Rat.inv_mul_cancel _ h0,Rat.mul_one]
   obtain⟨f1,_,f3⟩:=aCk hn0 hM;have hMl:aH p=fO q p*aH q:=by rw[fO,Rat.div_def,Rat.mul_assoc,Rat.inv_mul_cancel _ h0,Rat.mul_one]
   have hden:((fO q p).den:Rat)≠0:=fun e=>(fO q p).den_nz (by
    have:(((fO q p).den:Int):Rat)=((0:Int):Rat):=by rw[Rat.intCast_natCast]; exact e
    have:=Rat.intCast_inj.1 this;omega)
   have hw:wR ((fO q p).den:Int)≠0:=by rw[mV,Rat.intCast_natCast]; exact hden
   obtain⟨s1,s2⟩:=kQ htr hw;have hS:Cm 1 (jK q p) (c+d):=hpc.scale1 (Nat.le_trans f3 n2);have hSl:(jK q p).length=p.length:=s1;have hnum:=wP (fO q p);have hSm:aH (jK q p)=wR (fO q p).num*aH q:=by
    show aH (aN p _)=_;rw[s2,mV,mV,Rat.intCast_natCast,hMl,<- hnum];grind
   have hN:Cm 1 (mulN q p) (c+d+1):=fun k=>by
    obtain⟨y,y1,y2⟩:=hS k;rw[mulN,aEh];by_cases h1:k<(jK q p).length-1
    ·rw[if_pos h1];by_cases h2:k<(jK q p).length-q.length
     ·rw[if_pos h2];exact⟨y,y1,Nat.le_trans y2 (eS (by omega))⟩
     ·rw[if_neg h2];obtain⟨z,z1,z2⟩:=hqd (k-((jK q p).length-q.length));refine⟨y-(fO q p).num*z,?_,aE3 y2 (gQ (Nat.le_trans f1 l2) z2)⟩;rw[lI] at y1 z1 |-;rw[y1,z1,mV,Rat.intCast_sub,Rat.intCast_mul]
    ·rw[if_neg h1];exact⟨0,by rw[Rat.zero_mul]; rfl,Nat.zero_le _⟩
   have hNl:(mulN q p).length<p.length:=by
    have:=zU (jK q p) q (wR (fO q p).num);rw[hSl] at this;have:=List.length_pos_iff.2 hp0;show (dW _ _ _).length<_;omega
   have hpos:0<t*(d+1)\/t=0:=by
    rcases Nat.eq_zero_or_pos t with h | h
    ·exact .inr h
    ·exact .inl (Nat.mul_pos h (by omega))
   have o1:aG [fO q p] B=true:=uD (e:=c+d) hB (by omega) fun b hb=>by
    obtain rfl:=List.mem_singleton.1 hb;exact⟨Nat.le_trans f1 (Nat.le_trans l2 (eS (by omega))),Nat.le_trans f3 (Nat.le_trans n2 (eS (by omega)))⟩
   have o2:aG (jK q p) B=true:=(mW hS).sz hB (by omega);have o3:aG (mulN q p) B=true:=(mW hN).sz hB (by omega);have hok:uN B q p=true:=by
    unfold uN;rw[o1,o2,o3,decide_eq_true (by rw[hSl]; exact hl),decide_eq_true hNl];rfl
   rw[if_pos hok];have hsteps:(mulN q p).length+1-q.length<=t:=by omega
   have hmulle:=Nat.mul_le_mul_right (d+1) hsteps;obtain⟨R,k1,k2,k3,_,k5,a,u,k6,k7⟩:=ih (mulN q p) (c+d+1) (by omega) (yY _ _ _) hN (by omega);refine⟨R,k1,k2,k3,fun h=>by omega,k5.mono (by rw[ht,Nat.succ_mul]; omega),a*wR ((fO q p).den:Int),fC u (aN (eE ((jK q p).length-q.length) [wR (fO q p).num]) (-a)),fun h=>(Rat.mul_eq_zero.1 h).elim k6 hw,fun x=>?_⟩;rw[k7,mulN,aAp (by rw[hSl]; exact hl) hq hSm,jK,cB,jZ,cB,wV,ev,ev];grind
  ·rw[if_neg hl];refine⟨p,rfl,htr,by omega,fun _=>rfl,hpc.mono (by omega),1,[],by decide,fun x=>?_⟩;rw[ev];grind
theorem aCx {B:Nat} {m:Int} {c:Nat} (hB:1<=B) (hE:c<=29*B) (hm:m≠0) (hmb:m.natAbs<=2^c) :
  ∀ (l:List Rat) (e:Rat) (g:Int),(∀ a∈l,∃ z:Int,a*(m:Rat)=(z:Rat)/\z.natAbs<=2^c)->e*(m:Rat)=(g:Rat)->g≠0->g.natAbs<=2^c ->
  ∃ (D:Rat) (h:Int),gG B l e=some D/\D*(m:Rat)=(h:Rat)/\h≠0/\h.natAbs<=2^c/\(∃ y:Int,e=D*(y:Rat))/\∀ a∈l,∃ y:Int,a=D*(y:Rat)
 | [],e,g,_,h1,h2,h3=>⟨e,g,rfl,h1,h2,h3,⟨1,by rw[lI]⟩,fun a ha=>nomatch ha⟩
 | a::l,e,g,hl,h1,h2,h3=>by
  have hm0:=nV hm;have he:e≠0:=by
   rintro rfl;rw[Rat.zero_mul] at h1;exact h2 (Rat.intCast_inj.1 h1.symm)
  obtain⟨z,z1,z2⟩:=hl a List.mem_cons_self;have hi:=Rat.mul_inv_cancel e he;have r1:a/e*(g:Rat)=(z:Rat):=by
   rw[<- h1,<- z1,Rat.div_def];grind
  obtain⟨f1,⟨g1,f2⟩,f3⟩:=aCk h2 r1;obtain⟨g2,hg2⟩:∃ g2:Int,g=((a/e).den:Int)*g2:=by
   rcases Int.natAbs_eq g with h | h
   ·exact⟨g1,by rw[h,f2,Int.natCast_mul]⟩
   ·exact⟨-g1,by rw[h,f2,Int.natCast_mul,Int.mul_neg]⟩
  have hden:((a/e).den:Rat)≠0:=fun q=>(a/e).den_nz (by
   have:(((a/e).den:Int):Rat)=((0:Int):Rat):=by rw[Rat.intCast_natCast]; exact q
   have:=Rat.intCast_inj.1 this;omega)
  have hnum:=wP (a/e);have hg20:g2≠0:=by rintro rfl; exact h2 (by rw[hg2,Int.mul_zero])
  have hg2b:g2.natAbs<=2^c:=by
   have:=congrArg Int.natAbs hg2;rw[Int.natAbs_mul,Int.natAbs_natCast] at this;have h5:=Nat.le_mul_of_pos_left g2.natAbs (Nat.pos_of_ne_zero (a/e).den_nz);omega
  have hdi:=Rat.mul_inv_cancel _ hden;have r2:e/wR ((a/e).den:Int)*(m:Rat)=(g2:Rat):=by
   rw[mV,Rat.intCast_natCast,Rat.div_def];have h6:e*(m:Rat)=((a/e).den:Rat)*(g2:Rat):=by rw[h1,hg2,Rat.intCast_mul,Rat.intCast_natCast]
   grind
  have s1:aG [a/e] B=true:=uD (e:=c) hB hE fun b hb=>by
   obtain rfl:=List.mem_singleton.1 hb;exact⟨Nat.le_trans f1 z2,Nat.le_trans f3 h3⟩
  have s2:aG [e/wR ((a/e).den:Int)] B=true:=nX hB hE ⟨g2,m,hm,r2,hg2b,hmb⟩;obtain⟨D,h,k1,k2,k3,k4,⟨y,k5⟩,k6⟩:=aCx hB hE hm hmb l (e/wR ((a/e).den:Int)) g2 (fun b hb=>hl b (List.mem_cons_of_mem _ hb)) r2 hg20 hg2b;have hey:e=D*((y*((a/e).den:Int):Int):Rat):=by
   rw[mV,Rat.intCast_natCast,Rat.div_def] at k5;rw[Rat.intCast_mul,Rat.intCast_natCast];grind
  refine⟨D,h,by rw[gG,if_pos (by rw[s1,s2]; rfl),k1],k2,k3,k4,⟨_,hey⟩,fun b hb=>?_⟩;rcases List.mem_cons.1 hb with rfl | hb
  ·refine⟨y*(b/e).num,?_⟩;have h7:b=b/e*e:=by rw[Rat.div_def,Rat.mul_assoc,Rat.inv_mul_cancel _ he,Rat.mul_one]
   rw[mV,Rat.intCast_natCast,Rat.div_def] at k5;rw[Rat.intCast_mul,<- hnum];grind
  ·exact k6 b hb
theorem yM {B:Nat} {p:List Rat} {c:Nat} (hB:1<=B) (hp:aI p=p) (hc:Cb p c) (hE:c<=29*B) :
  ∃ R,jH B p=some R/\aI R=R/\R.length=p.length/\Cm 1 R c/\∃ a:Rat,a≠0/\∀ x,ev R x=a*ev p x:=by
 by_cases h0:p=[]
 ·subst h0;refine⟨[],?_,rfl,rfl,fun k=>⟨0,by rw[cP (Nat.zero_le _),Rat.zero_mul]; rfl,Nat.zero_le _⟩,1,by decide,fun x=>by rw[ev]; grind⟩;have z:aG [(0:Rat)] B=true:=uD (e:=0) hB (Nat.zero_le _) fun b hb=>by
   obtain rfl:=List.mem_singleton.1 hb;exact⟨by decide,by decide⟩
  show (if (aG [1/0] B&&_)=true then some _ else none)=_;rw[show (1:Rat)/0=0 by decide +kernel,z];rfl
 ·obtain⟨m,m1,m2,m3⟩:=hc;obtain⟨g,g1,g2⟩:=m3 (p.length-1);have hl:=fA hp h0;have hm0:=nV m1;have g1':aH p*(m:Rat)=(g:Rat):=g1;have hg:g≠0:=wO g1' m1 hl;have hmem:∀ a∈p,∃ k,a=p.getD k 0:=fun a ha=>by
   obtain⟨i,hi,rfl⟩:=List.getElem_of_mem ha;exact⟨i,by rw[List.getD_eq_getElem?_getD,List.getElem?_eq_getElem hi]; rfl⟩
  obtain⟨D,h,k1,k2,k3,k4,_,k6⟩:=aCx hB hE m1 m2 p (aH p) g (fun a ha=>by
   obtain⟨k,rfl⟩:=hmem a ha;exact m3 k) g1' hg g2
  have hD:D≠0:=by
   rintro rfl;rw[Rat.zero_mul] at k2;exact k3 (Rat.intCast_inj.1 k2.symm)
  have hDi:=Rat.mul_inv_cancel D hD;have h1D:(1:Rat)/D=D⁻¹:=by rw[Rat.div_def,Rat.one_mul]
  have hD1:(1:Rat)/D≠0:=by
   rw[h1D];intro e;rw[e] at hDi;grind
  have hCR:Cm 1 (aN p (1/D)) c:=fun k=>by
   rw[jT,lI,h1D];rcases Nat.lt_or_ge k p.length with hk | hk
   ·obtain⟨y,y1⟩:=k6 (p.getD k 0) (by rw[List.getD_eq_getElem?_getD,List.getElem?_eq_getElem hk]; exact List.getElem_mem hk);obtain⟨z,z1,z2⟩:=m3 k;refine⟨y,by rw[y1]; grind,?_⟩;have e:((h*y:Int):Rat)=(z:Rat):=by
     rw[Rat.intCast_mul,<- z1,y1,<- k2];grind
    have e:=congrArg Int.natAbs (Rat.intCast_inj.1 e);rw[Int.natAbs_mul] at e;have:=Nat.le_mul_of_pos_left y.natAbs (show 0<h.natAbs by omega);omega
   ·rw[cP hk];exact⟨0,by rw[Rat.zero_mul]; rfl,Nat.zero_le _⟩
  have s1:aG [1/D] B=true:=nX hB hE ⟨m,h,k3,by rw[h1D,<- k2]; grind,m2,k4⟩;have s2:=(mW hCR).sz hB hE;refine⟨aN p (1/D),?_,cF _,(kQ hp hD1).1,hCR,1/D,hD1,fun x=>by rw[cB,Rat.mul_comm]⟩;unfold jH;rw[k1];show (if _ then some _ else none)=_;rw[s1,s2];rfl
/-! Divisors. -/
def Dv (g p:List Rat):Prop:=∃ u:List Rat,∀ x,ev p x=ev u x*ev g x
def dD (p q g:List Rat):Prop:=Dv g p/\Dv g q/\∃ a b:List Rat,∀ x,ev g x=ev a x*ev p x+ev b x*ev q x
theorem dD.symm {p q g:List Rat} (h:dD p q g):dD q p g:=by
 obtain⟨h1,h2,a,b,h3⟩:=h;exact⟨h2,h1,b,a,fun x=>by rw[h3]; grind⟩
theorem aK7 (p:List Rat):dD p [] p:=⟨⟨[1],fun x=>by rw[ev,ev]; grind⟩,⟨[],fun x=>by rw[ev]; grind⟩,[1],[],fun x=>by rw[ev,ev,ev]; grind⟩
theorem dD.step {p q r g u:List Rat} {a:Rat} (ha:a≠0) (h:∀ x,ev r x=a*ev p x+ev u x*ev q x) (hg:dD q r g):dD p q g:=by
 obtain⟨⟨s,h1⟩,⟨t,h2⟩,c,d,h3⟩:=hg;have hi:=Rat.inv_mul_cancel a ha;refine⟨⟨aN (fN t (dY u s)) a⁻¹,fun x=>?_⟩,⟨s,h1⟩,aN d a,fC c (dY d u),fun x=>?_⟩
 ·rw[cB,lM,jY];have e1:=h x;have e2:=h1 x;have e3:=h2 x;grind
 ·rw[cB,jZ,jY,h3,h x];grind
theorem dD.left {p p' q g:List Rat} {a:Rat} (ha:a≠0) (h:∀ x,ev p' x=a*ev p x) (hg:dD p' q g):dD p q g:=by
 obtain⟨⟨s,h1⟩,h2,c,d,h3⟩:=hg;have hi:=Rat.inv_mul_cancel a ha;refine⟨⟨aN s a⁻¹,fun x=>?_⟩,h2,aN c a,d,fun x=>?_⟩
 ·rw[cB];have e1:=h x;have e2:=h1 x;grind
 ·rw[cB,h3,h x];grind
theorem dD.right {p q q' g:List Rat} {a:Rat} (ha:a≠0) (h:∀ x,ev q' x=a*ev q x) (hg:dD p q' g):dD p q g:=(dD.left ha h hg.symm).symm
theorem dD.res {p q g g':List Rat} {a:Rat} (ha:a≠0) (h:∀ x,ev g' x=a*ev g x) (hg:dD p q g):dD p q g':=by
 obtain⟨⟨s,h1⟩,⟨t,h2⟩,c,d,h3⟩:=hg;have hi:=Rat.inv_mul_cancel a ha;refine⟨⟨aN s a⁻¹,fun x=>?_⟩,⟨aN t a⁻¹,fun x=>?_⟩,aN c a,aN d a,fun x=>?_⟩
 ·rw[cB];have e1:=h x;have e2:=h1 x;grind
 ·rw[cB];have e1:=h x;have e2:=h2 x;grind
 ·rw[cB,cB,h x,h3];grind
/-! Degrees. -/
theorem aLq {p q:List Rat} (hp:aI p=p) (hq:aI q=q) (hp0:p≠[]) (hq0:q≠[]):(dY p q).length=p.length+q.length-1/\aH (dY p q)=aH p*aH q:=by
 have h1:=List.length_pos_iff.2 hp0;have h2:=List.length_pos_iff.2 hq0;have e:(tab (nB p q) (p.length+q.length-1)).length=p.length+q.length-1:=eX;have hl:aH (tab (nB p q) (p.length+q.length-1))=aH p*aH q:=by
  unfold aH;rw[e,rN,if_pos (by omega),aFe h2,fR,show p.length+q.length-1-1+1=(p.length-1)+(1+(q.length-1)) by omega,rG,nN,Rat.zero_add,rG,nN (n:=q.length-1),Rat.add_zero]
  ·show (0:Rat)+p.getD (p.length-1+0) 0*q.getD _ 0=_;rw[Nat.add_zero,Rat.zero_add,show p.length+q.length-1-1-(p.length-1)=q.length-1 by omega]
  ·intro i hi;rw[cP (l:=p) (by omega),Rat.zero_mul]
  ·intro i hi;rw[cP (l:=q) (by omega),Rat.mul_zero]
 have ht:dY p q=tab (nB p q) (p.length+q.length-1):=aBp (.inr (by
  rw[hl];intro h;exact(Rat.mul_eq_zero.1 h).elim (fA hp hp0) (fA hq hq0)))
 rw[ht];exact⟨e,hl⟩
theorem aJ9 (p q:List Rat):aI (dY p q)=dY p q:=cF _
theorem zO {p:List Rat} (hp:aI p=p) (h0:p≠[]):aI p≠[]:=by rw[hp]; exact h0
theorem sB {g p:List Rat} (hg:aI g=g) (hp:aI p=p) (h0:p≠[]) (h:Dv g p):g≠[]/\g.length<=p.length/\(g.length=p.length->∃ c:Rat,c≠0/\∀ x,ev p x=c*ev g x):=by
 obtain⟨u,hu⟩:=h;have hu':∀ x,ev p x=ev (aI u) x*ev g x:=fun x=>by rw[mF,hu]
 have hg0:g≠[]:=by
  rintro rfl;exact zO hp h0 (uI fun x=>by rw[hu,ev,Rat.mul_zero])
 have hu0:aI u≠[]:=by
  intro e;exact zO hp h0 (uI fun x=>by rw[hu',e,ev,Rat.zero_mul])
 have hpe:p=dY (aI u) g:=jF hp (aJ9 _ _) fun x=>by rw[jY,hu']
 obtain⟨m1,_⟩:=aLq (cF u) hg hu0 hg0;have hul:=List.length_pos_iff.2 hu0;refine⟨hg0,by rw[hpe,m1]; omega,fun he=>?_⟩;have h1:(aI u).length=1:=by
  rw[hpe,m1] at he;omega
 obtain⟨c,hc⟩:∃ c,aI u=[c]:=List.length_eq_one_iff.1 h1;have hc0:c≠0:=by
  have:=fA (cF u) hu0;rw[hc] at this;exact this
 exact⟨c,hc0,fun x=>by rw[hu',hc,ev,ev]; grind⟩
theorem aHi {p q g h:List Rat} (hg:dD p q g) (hh:dD p q h) (tg:aI g=g) (th:aI h=h) (h0:g≠[]) (hl:aH g=aH h):g=h:=by
 have dv:∀ {g h:List Rat},dD p q g->dD p q h->Dv g h:=by
  rintro g h ⟨⟨s,h1⟩,⟨t,h2⟩,_⟩ ⟨_,_,a,b,h3⟩;exact⟨fC (dY a s) (dY b t),fun x=>by rw[jZ,jY,jY,h3,h1,h2]; grind⟩
 obtain⟨n1,l1,_⟩:=sB th tg h0 (dv hh hg);obtain⟨_,l2,c1⟩:=sB tg th n1 (dv hg hh);obtain⟨c,hc,he⟩:=c1 (by omega);have e2:h=aN g c:=jF th (cF _) fun x=>by rw[cB,he,Rat.mul_comm]
 have hlast:=(kQ tg hc).2;rw[<- e2,<- hl] at hlast;have hg1:=fA tg h0;have hi:=Rat.mul_inv_cancel _ hg1;have hc1:c=1:=by grind
 refine jF tg th fun x=>by rw[he,hc1,Rat.one_mul]
/-! poly.Gcd. -/
theorem aFb:∀ {g:Nat},1<=g->2^g*5<=5^g*2
 | 1,_=>by decide
 | g+2,_=>by
  have:=aFb (g:=g+1) (by omega);rw[Nat.pow_succ 2,Nat.pow_succ 5];omega
theorem aMy:∀ {g:Nat},1<=g->2^g*(5*g+7)<=5^g*5
 | 1,_=>by decide
 | g+2,_=>by
  have h:=aMy (g:=g+1) (by omega);have h2:=aFb (g:=g+1) (by omega);rw[Nat.pow_succ 2,Nat.pow_succ 5];generalize 5^(g+1)=y at *;generalize 2^(g+1)=x at *;have e:x*2*(5*(g+2)+7)=2*(x*(5*(g+1)+7))+2*(x*5):=by grind
  rw[e];omega
def gB (M n:Nat):Nat:=5^n*2^(M-n)
theorem aE6 {M n:Nat} (h:n<=M):gB M n<=5^M:=by
 unfold gB;obtain⟨k,rfl⟩:∃ k,M=n+k:=⟨M-n,by omega⟩
 rw[Nat.pow_add,Nat.add_sub_cancel_left];exact Nat.mul_le_mul_left _ (Nat.pow_le_pow_left (by decide) _)
theorem aVo {M n:Nat} (h1:1<=n) (h:n<=M):5*2^(M-1)<=gB M n:=by
 unfold gB;obtain⟨k,rfl⟩:∃ k,n=k+1:=⟨n-1,by omega⟩
 obtain⟨j,rfl⟩:∃ j,M=k+1+j:=⟨M-(k+1),by omega⟩
 rw[show k+1+j-1=k+j by omega,show k+1+j-(k+1)=j by omega,Nat.pow_add,Nat.pow_succ,Nat.mul_comm (5^k) 5,Nat.mul_assoc 5,];refine Nat.mul_le_mul_left 5 (Nat.mul_le_mul_right _ (Nat.pow_le_pow_left (by decide) _))
theorem aC7 {M n g c d Z:Nat} (hg:1<=g) (hM:n+g<=M) (h:(2*(c+1)+5*(d+1))*gB M (n+g)<=Z):(2*(d+1)+5*(c+(g+1)*(d+1)+1))*gB M n<=Z:=by
 refine Nat.le_trans ?_ h;unfold gB;obtain⟨k,rfl⟩:∃ k,M=n+g+k:=⟨M-(n+g),by omega⟩
 rw[show n+g+k-n=g+k by omega,show n+g+k-(n+g)=k by omega,Nat.pow_add 2,Nat.pow_add 5];have h1:=aFb hg;have h2:=aMy hg;generalize 2^g=x at *;generalize 5^g=y at *;have e1:2*(d+1)+5*(c+(g+1)*(d+1)+1)=5*(c+1)+(5*g+7)*(d+1):=by grind
 have e2:(5*(c+1)+(5*g+7)*(d+1))*x<=(2*(c+1)+5*(d+1))*y:=by
  have q1:=Nat.mul_le_mul_right (c+1) h1;have q2:=Nat.mul_le_mul_right (d+1) h2;have q3:(5*(c+1)+(5*g+7)*(d+1))*x=x*5*(c+1)+x*(5*g+7)*(d+1):=by grind
  have q4:(2*(c+1)+5*(d+1))*y=y*2*(c+1)+y*5*(d+1):=by grind
  omega
 rw[e1];generalize 5*(c+1)+(5*g+7)*(d+1)=u at *;generalize 2*(c+1)+5*(d+1)=v at *;have e3:u*(5^n*(x*2^k))=u*x*(5^n*2^k):=by grind
 have e4:v*(5^n*y*2^k)=v*y*(5^n*2^k):=by grind
 rw[e3,e4];exact Nat.mul_le_mul_right _ e2
theorem vN {M n A B Z s:Nat} (h1:1<=n) (h:n<=M) (hA:A*gB M n<=Z) (hZ:Z<=s*5*2^(M-1)*B):A<=s*B:=by
 have h2:=Nat.le_trans (Nat.le_trans (Nat.mul_le_mul_left A (aVo h1 h)) hA) hZ;have h3:0<5*2^(M-1):=Nat.mul_pos (by decide) (Nat.pow_pos (by decide));have e1:s*5*2^(M-1)*B=s*B*(5*2^(M-1)):=by grind
 rw[e1] at h2;exact Nat.le_of_mul_le_mul_right h2 h3
theorem aIt {B Z M:Nat} (hB:1<=B) (hZ:Z<=5*5*2^(M-1)*(29*B)) :
  ∀ (f:Nat) (p q:List Rat) (c d:Nat),q.length<f->aI p=p->aI q=q->p≠[]->q.length<p.length->p.length<=M->Cm 1 p c->Cm 1 q d->c<=29*B->d<=29*B->(2*(c+1)+5*(d+1))*gB M p.length<=Z ->
  ∃ R e,jL B f p q=some R/\R≠[]/\aI R=R/\dD p q R/\R.length<=M/\Cm 1 R e/\e<=29*B/\2*(e+1)*gB M R.length<=Z:=by
 intro f
 induction f with
 | zero=>intro p q c d h; omega
 | succ f ih =>
  intro p q c d hf tp tq hp0 hlt hpM hpc hqd hcB hdB hX;rw[jL];by_cases hq:0<q.length
  ·rw[if_pos hq];have hq0:q≠[]:=List.length_pos_iff.1 hq;obtain⟨g,hg⟩:∃ g,p.length=q.length+g:=⟨p.length-q.length,by omega⟩
   have hsteps:p.length+1-q.length=g+1:=by omega
   rw[hg] at hX;have hW:=aC7 (by omega) (by omega) hX;have hbd:=vN hq (by omega) (Nat.le_trans (Nat.mul_le_mul_right _ (show 5*(c+(g+1)*(d+1)+1)<=_ by omega)) hW) hZ;have hE:c+(p.length+1-q.length)*(d+1)<=29*B:=by
    rw[hsteps];omega
   obtain⟨r,k1,k2,k3,_,k5,a,u,k6,k7⟩:=aDm hB hq (fA tq hq0) hqd (p.length+2) p c (by omega) tp hpc hE;rw[hsteps] at k5;obtain⟨s,s1,s2,s3,s4,b,s5,s6⟩:=yM hB k2 (mW k5) (by omega);obtain⟨R,e,r1,r2,r3,r4,r5,r6,r7⟩:=ih q s d (c+(g+1)*(d+1)) (by omega) tq s2 hq0 (by omega) (by omega) hqd s4 hdB (by omega) hW;refine⟨R,e,?_,r2,r3,(r4.right s5 s6).step k6 k7,r5,r6,r7⟩;rw[k1];show (jH B r).bind _=_;rw[s1];show (if s.length<q.length then jL B f q s else none)=_;rw[if_pos (by omega),r1]
  ·rw[if_neg hq];obtain rfl:=List.eq_nil_of_length_eq_zero (show q.length=0 by omega);exact⟨p,c,rfl,hp0,tp,aK7 p,hpM,hpc,hcB,Nat.le_trans (Nat.mul_le_mul_right _ (by omega)) hX⟩
theorem pK {p:List Rat} (hp:aI p=p) (h0:p≠[]):aI (aX p)=aX p/\(aX p).length=p.length/\aH (aX p)=1/\∃ a:Rat,a≠0/\∀ x,ev (aX p) x=a*ev p x:=by
 have hl:=fA hp h0;have hi:=Rat.mul_inv_cancel _ hl;have e:(1:Rat)/aH p=(aH p)⁻¹:=by rw[Rat.div_def,Rat.one_mul]
 have ha:(1:Rat)/aH p≠0:=by
  rw[e];intro h;rw[h] at hi;grind
 obtain⟨h1,h2⟩:=kQ hp ha;exact⟨cF _,h1,by rw[aX,h2,e,hi],_,ha,fun x=>by rw[aX,cB,Rat.mul_comm]⟩
def sG (p q:List Rat) (c d:Nat):Nat:=if q.length<p.length then 2*(c+1)+5*(d+1) else 5*(c+1)+7*(d+1)
theorem aSa {B M Q:Nat} {p q:List Rat} {c d:Nat} (hB:1<=B) (tp:aI p=p) (tq:aI q=q) (h0:p≠[]\/q≠[]) (hpM:p.length<=M) (hqM:q.length<=M) (hc:Cb p c) (hd:Cb q d) (hcB:c<=29*B) (hdB:d<=29*B) (hQ:sG p q c d<=Q) (hZ:Q*5^M<=5*5*2^(M-1)*(29*B)) :
  ∃ G e,nD B p q=some G/\G≠[]/\aI G=G/\aH G=1/\dD p q G/\G.length<=M/\Cb G e/\2*(e+1)*gB M G.length<=Q*5^M:=by
 have hM1:1<=M:=by
  rcases h0 with h | h
  ·have:=List.length_pos_iff.2 h; omega
  ·have:=List.length_pos_iff.2 h; omega
 have hQB:Q<=5*(29*B):=vN (M:=M) (n:=M) hM1 (Nat.le_refl _) (by unfold gB; rw[Nat.sub_self,Nat.pow_zero,Nat.mul_one]; exact Nat.le_refl _) hZ;have hle:∀ {n A:Nat},n<=M->A<=Q->A*gB M n<=Q*5^M:=fun hn hA=>Nat.mul_le_mul hA (aE6 hn);obtain⟨p1,a1,a2,a3,a4,a,a5,a6⟩:=yM hB tp hc hcB;obtain⟨q1,b1,b2,b3,b4,b,b5,b6⟩:=yM hB tq hd hdB;have chain:∃ R e,jL B (p.length+q.length+3) p1 q1=some R/\R≠[]/\aI R=R/\dD p1 q1 R/\R.length<=M/\Cm 1 R e/\e<=29*B/\2*(e+1)*gB M R.length<=Q*5^M:=by
  unfold sG at hQ;rcases Nat.lt_or_ge q.length p.length with hlt | hge
  ·rw[if_pos hlt] at hQ;exact aIt hB hZ _ p1 q1 c d (by omega) a2 b2 (fun e=>by rw[e,List.length_nil] at a3; omega) (by omega) (by omega) a4 b4 hcB hdB (hle (by omega) hQ)
  ·rw[if_neg (by omega)] at hQ;have hq0:q1≠[]:=by
    intro e;rw[e,List.length_nil] at b3;rcases h0 with h | h
    ·exact h (List.eq_nil_of_length_eq_zero (by omega))
    ·exact h (List.eq_nil_of_length_eq_zero (by omega))
   have hql:=List.length_pos_iff.2 hq0;rw[show p.length+q.length+3=(p.length+q.length+2)+1 by omega,jL,if_pos hql];have hs:(p1.length+1-q1.length)*(d+1)<=d+1:=by
    rcases Nat.lt_or_ge p1.length q1.length with h | h
    ·rw[show p1.length+1-q1.length=0 by omega,Nat.zero_mul]; omega
    ·rw[show p1.length+1-q1.length=1 by omega,Nat.one_mul]; omega
   obtain⟨r,k1,k2,k3,_,k5,a',u,k6,k7⟩:=aDm hB hql (fA b2 hq0) b4 (p1.length+2) p1 c (by omega) a2 a4 (by omega);obtain⟨s,s1,s2,s3,s4,b',s5,s6⟩:=yM hB k2 (mW (k5.mono (e:=c+d+1) (by omega))) (by omega);obtain⟨R,e,r1,r2,r3,r4,r5,r6,r7⟩:=aIt hB hZ (p.length+q.length+2) q1 s d (c+d+1) (by omega) b2 s2 hq0 (by omega) (by omega) b4 s4 hdB (by omega) (hle (by omega) (by omega));refine⟨R,e,?_,r2,r3,(r4.right s5 s6).step k6 k7,r5,r6,r7⟩;rw[k1];show (jH B r).bind _=_;rw[s1];show (if s.length<q1.length then jL B _ q1 s else none)=_;rw[if_pos (by omega),r1]
 obtain⟨R,e,r1,r2,r3,r4,r5,r6,he,r7⟩:=chain;obtain⟨m1,m2,m3,m,m4,m5⟩:=pK r3 r2;have hcb:=(mW r6).monic (fA r3 r2);refine⟨aX R,e,?_,fun h=>by rw[h,List.length_nil] at m2; exact r2 (List.eq_nil_of_length_eq_zero m2.symm),m1,m3,((r4.left a5 a6).right b5 b6).res m4 m5,by omega,hcb,by rw[m2]; exact r7⟩;unfold nD;rw[a1];show (jH B q).bind _=_;rw[b1];show (jL B _ p1 q1).bind _=_;rw[r1];show (if aG (aX R) B=true then some (aX R) else none)=_;rw[if_pos (hcb.sz hB he)]
theorem aKh {B:Nat} (hB:1<=B):nD B [] []=some []:=by
 have z:∀ l:List Rat,(∀ a∈l,a=0)->aG l B=true:=fun l hl=>uD (e:=0) hB (Nat.zero_le _) fun b hb=>by
  obtain rfl:=hl b hb;exact⟨by decide,by decide⟩
 have hp:jH B []=some []:=by
  show (if (aG [1/0] B&&aG [] B)=true then some _ else none)=_;rw[show (1:Rat)/0=0 by decide +kernel,z [0] (by simp),z [] (by simp)];rfl
 unfold nD;rw[hp];show (if aG (aX []) B=true then some _ else none)=_;rw[show aX []=[] from rfl,z [] (by simp)];rfl
/-! The reference's Gcd: the same chain with monic polynomials. -/
def kC (B:Nat):Nat->List Rat->List Rat->Option (List Rat)
 | 0,_,_=>none
 | n+1,a,b=>if 0<b.length then (dE B a b).bind fun x=>if (aG (aX x.2) B&&decide (x.2.length<b.length))=true then kC B n b (aX x.2) else none else some a
def oZ (B:Nat) (p q:List Rat):Option (List Rat):=if (aG (aX p) B&&aG (aX q) B)=true then kC B (p.length+q.length+3) (aX p) (aX q) else none
theorem vT {p:List Rat} {c:Nat} (hp:aI p=p) (hc:Cb p c):aI (aX p)=aX p/\(aX p).length=p.length/\Cb (aX p) c/\∃ a:Rat,a≠0/\∀ x,ev (aX p) x=a*ev p x:=by
 by_cases h0:p=[]
 ·subst h0;exact⟨rfl,rfl,Cb.nil c,1,by decide,fun x=>by rw[Rat.one_mul]; rfl⟩
 ·obtain⟨h1,h2,_,a,h3,h4⟩:=pK hp h0;exact⟨h1,h2,hc.monic (fA hp h0),a,h3,h4⟩
theorem aG6 {B Z M:Nat} (hB:1<=B) (hZ:Z<=2*5*2^(M-1)*(29*B)) :
  ∀ (f:Nat) (p q:List Rat) (c d:Nat),q.length<f->aI p=p->aI q=q->p≠[]->aH p=1->(q≠[]->aH q=1)->q.length<p.length->p.length<=M->Cb p c->Cb q d->(2*(c+1)+5*(d+1))*gB M p.length<=Z ->
  ∃ R,kC B f p q=some R/\R≠[]/\aI R=R/\aH R=1/\R.length<=p.length/\dD p q R:=by
 intro f
 induction f with
 | zero=>intro p q c d h; omega
 | succ f ih =>
  intro p q c d hf tp tq hp0 lp lq hlt hpM hpc hqd hX;rw[kC];by_cases hq:0<q.length
  ·rw[if_pos hq];have hq0:q≠[]:=List.length_pos_iff.1 hq;obtain⟨g,hg⟩:∃ g,p.length=q.length+g:=⟨p.length-q.length,by omega⟩
   have hsteps:p.length+1-q.length=g+1:=by omega
   rw[hg] at hX;have hW:=aC7 (by omega) (by omega) hX;have hbd:=vN hq (by omega) (Nat.le_trans (Nat.mul_le_mul_right _ (show 2*(d+1)+2*(c+(g+1)*(d+1)+1)<=_ by omega)) hW) hZ;have hE:jM p q c d<=29*B:=by
    unfold jM;rw[hsteps];omega
   obtain⟨U,R,k1,k2,k3,k4,k5,k6,k7,k8⟩:=vU hB tp tq hq0 hpc hqd hE;have k8':Cb R (c+(g+1)*(d+1)):=by
    unfold jM at k8;rw[hsteps] at k8;exact k8.mono (by omega)
   obtain⟨m1,m2,m3,b,m4,m5⟩:=vT k3 k8';have hlm:aX R≠[]->aH (aX R)=1:=fun h=>by
    refine(pK k3 ?_).2.2.1;rintro rfl;exact h rfl
   obtain⟨G,r1,r2,r3,r4,r5,r6⟩:=ih q (aX R) d (c+(g+1)*(d+1)) (by omega) tq m1 hq0 (lq hq0) hlm (by omega) (by omega) hqd m3 hW;refine⟨G,?_,r2,r3,r4,by omega,(r6.right m4 m5).step (a:=1) (u:=aN U (-1)) (by decide) fun x=>?_⟩
   ·rw[k1];show (if (aG (aX R) B&&decide (R.length<q.length))=true then kC B f q (aX R) else none)=_;rw[m3.sz hB (by omega),decide_eq_true k4,Bool.and_true,if_pos rfl,r1]
   ·rw[cB,k6 x];grind
  ·rw[if_neg hq];obtain rfl:=List.eq_nil_of_length_eq_zero (show q.length=0 by omega);exact⟨p,rfl,hp0,tp,lp,Nat.le_refl _,aK7 p⟩
theorem aP3 {B M Q:Nat} {p q:List Rat} {c d:Nat} (hB:1<=B) (tp:aI p=p) (tq:aI q=q) (h0:p≠[]\/q≠[]) (hpM:p.length<=M) (hqM:q.length<=M) (hc:Cb p c) (hd:Cb q d) (hcB:c<=29*B) (hdB:d<=29*B) (hQ:sG p q c d<=Q) (hZ:Q*5^M<=2*5*2^(M-1)*(29*B)) :
  ∃ G,oZ B p q=some G/\G≠[]/\aI G=G/\aH G=1/\dD p q G:=by
 have hM1:1<=M:=by
  rcases h0 with h | h
  ·have:=List.length_pos_iff.2 h; omega
  ·have:=List.length_pos_iff.2 h; omega
 have hQB:Q<=2*(29*B):=vN (M:=M) (n:=M) hM1 (Nat.le_refl _) (by unfold gB; rw[Nat.sub_self,Nat.pow_zero,Nat.mul_one]; exact Nat.le_refl _) hZ;have hle:∀ {n A:Nat},n<=M->A<=Q->A*gB M n<=Q*5^M:=fun hn hA=>Nat.mul_le_mul hA (aE6 hn);obtain⟨a2,a3,a4,a,a5,a6⟩:=vT tp hc;obtain⟨b2,b3,b4,b,b5,b6⟩:=vT tq hd;have hlast:∀ {r:List Rat},aI r=r->aX r≠[]->aH (aX r)=1:=fun tr h=>by
  refine(pK tr ?_).2.2.1;rintro rfl;exact h rfl
 have chain:∃ R,kC B (p.length+q.length+3) (aX p) (aX q)=some R/\R≠[]/\aI R=R/\aH R=1/\dD (aX p) (aX q) R:=by
  unfold sG at hQ;rcases Nat.lt_or_ge q.length p.length with hlt | hge
  ·rw[if_pos hlt] at hQ;have hp0:aX p≠[]:=fun e=>by rw[e,List.length_nil] at a3; omega
   obtain⟨R,r1,r2,r3,r4,_,r6⟩:=aG6 hB hZ (p.length+q.length+3) (aX p) (aX q) c d (by omega) a2 b2 hp0 (hlast tp hp0) (hlast tq) (by omega) (by omega) a4 b4 (hle (by omega) hQ);exact⟨R,r1,r2,r3,r4,r6⟩
  ·rw[if_neg (by omega)] at hQ;have hq0:aX q≠[]:=by
    intro e;rw[e,List.length_nil] at b3;rcases h0 with h | h
    ·exact h (List.eq_nil_of_length_eq_zero (by omega))
    ·exact h (List.eq_nil_of_length_eq_zero (by omega))
   have hql:=List.length_pos_iff.2 hq0;rw[show p.length+q.length+3=(p.length+q.length+2)+1 by omega,kC,if_pos hql];have hs:((aX p).length+1-(aX q).length)*(d+1)<=d+1:=by
    rcases Nat.lt_or_ge (aX p).length (aX q).length with h | h
    ·rw[show (aX p).length+1-(aX q).length=0 by omega,Nat.zero_mul]; omega
    ·rw[show (aX p).length+1-(aX q).length=1 by omega,Nat.one_mul]; omega
   obtain⟨U,r,k1,k2,k3,k4,k5,k6,k7,k8⟩:=vU hB a2 b2 hq0 a4 b4 (by unfold jM; omega);have k8':Cb r (c+d+1):=by
    unfold jM at k8;exact k8.mono (by omega)
   obtain⟨m1,m2,m3,b',m4,m5⟩:=vT k3 k8';obtain⟨R,r1,r2,r3,r4,_,r6⟩:=aG6 hB hZ (p.length+q.length+2) (aX q) (aX r) d (c+d+1) (by omega) b2 m1 hq0 (hlast tq hq0) (hlast k3) (by omega) (by omega) b4 m3 (hle (by omega) (by omega));refine⟨R,?_,r2,r3,r4,(r6.right m4 m5).step (a:=1) (u:=aN U (-1)) (by decide) fun x=>?_⟩
   ·rw[k1];show (if (aG (aX r) B&&decide (r.length<(aX q).length))=true then kC B _ (aX q) (aX r) else none)=_;rw[m3.sz hB (by omega),decide_eq_true k4,Bool.and_true,if_pos rfl,r1]
   ·rw[cB,k6 x];grind
 obtain⟨R,r1,r2,r3,r4,r5⟩:=chain;refine⟨R,?_,r2,r3,r4,(r5.left a5 a6).right b5 b6⟩;rw[oZ,a4.sz hB hcB,b4.sz hB hdB,Bool.and_true,if_pos rfl,r1]
theorem aRi {B:Nat}:oZ B [] []=some []:=rfl
theorem aUh {B M Q:Nat} {p q:List Rat} {c d:Nat} (hB:1<=B) (tp:aI p=p) (tq:aI q=q) (hpM:p.length<=M) (hqM:q.length<=M) (hc:Cb p c) (hd:Cb q d) (hcB:c<=29*B) (hdB:d<=29*B) (hQ:sG p q c d<=Q) (hZ:Q*5^M<=2*5*2^(M-1)*(29*B)) :
  ∃ G e,nD B p q=some G/\oZ B p q=some G/\aI G=G/\(p≠[]\/q≠[]->G≠[]/\aH G=1/\dD p q G)/\(p=[]/\q=[]->G=[])/\Cb G e/\2*(e+1)*gB M G.length<=max (2*(e+1)*gB M 0) (Q*5^M)/\(G=[]\/2*(e+1)*gB M G.length<=Q*5^M):=by
 by_cases h0:p=[]/\q=[]
 ·obtain⟨rfl,rfl⟩:=h0;exact⟨[],0,aKh hB,aRi,rfl,fun h=>by simp at h,fun _=>rfl,Cb.nil 0,Nat.le_max_left _ _,.inl rfl⟩
 ·have h1:p≠[]\/q≠[]:=by
   by_cases hp:p=[]
   ·exact .inr fun hq=>h0 ⟨hp,hq⟩
   ·exact .inl hp
  have hZ':Q*5^M<=5*5*2^(M-1)*(29*B):=Nat.le_trans hZ (Nat.mul_le_mul_right _ (Nat.mul_le_mul_right _ (by decide)));obtain⟨G,e,g1,g2,g3,g4,g5,g6,g7,g8⟩:=aSa hB tp tq h1 hpM hqM hc hd hcB hdB hQ hZ';obtain⟨H,k1,k2,k3,k4,k5⟩:=aP3 hB tp tq h1 hpM hqM hc hd hcB hdB hQ hZ;have he:G=H:=aHi g5 k5 g3 k3 g2 (by rw[g4,k4]);subst he;exact⟨G,e,g1,k1,g3,fun _=>⟨g2,g4,g5⟩,fun h=>absurd h h0,g7,Nat.le_trans g8 (Nat.le_max_right _ _),.inr g8⟩
/-! Divisors of a polynomial have short numbers: at whole numbers beyond the zeros a divisor is no greater than the polynomial,and its values there tell its coefficients. -/
def Zl (l:List Rat):Prop:=∀ k,∃ z:Int,l.getD k 0=(z:Rat)
def Dd (d:Int) (l:List Rat):Prop:=∀ k,∃ z:Int,l.getD k 0=((d*z:Int):Rat)
theorem aR6:∀ m:Nat,1<m->∃ p,1<p/\p ∣ m/\∀ d,d ∣ p->d=1\/d=p:=by
 intro m
 induction m using Nat.strongRecOn with
 | ind m ih =>
  intro h;by_cases hd:∃ d,1<d/\d<m/\d ∣ m
  ·obtain⟨d,h1,h2,h3⟩:=hd;obtain⟨p,p1,p2,p3⟩:=ih d h2 h1;exact⟨p,p1,Nat.dvd_trans p2 h3,p3⟩
  ·refine⟨m,h,Nat.dvd_refl m,fun d h1=>?_⟩;have hle:=Nat.le_of_dvd (by omega) h1;have h0:d≠0:=by
    rintro rfl;have:=Nat.eq_zero_of_zero_dvd h1;omega
   rcases Nat.lt_or_ge 1 d with h2 | h2
   ·rcases Nat.lt_or_ge d m with h3 | h3
    ·exact absurd ⟨d,h2,h3,h1⟩ hd
    ·exact .inr (by omega)
   ·exact .inl (by omega)
theorem aRu {p:Nat} (hp:∀ d,d ∣ p->d=1\/d=p) {a b:Int} (h:(p:Int) ∣ a*b):(p:Int) ∣ a\/(p:Int) ∣ b:=by
 have h':p ∣ a.natAbs*b.natAbs:=by rw[<- Int.natAbs_mul]; exact Int.ofNat_dvd_left.1 h
 rcases hp (Nat.gcd p a.natAbs) (Nat.gcd_dvd_left _ _) with h1 | h1
 ·exact .inr (Int.ofNat_dvd_left.2 (Nat.Coprime.dvd_of_dvd_mul_left h1 h'))
 ·exact .inl (Int.ofNat_dvd_left.2 (by rw[<- h1]; exact Nat.gcd_dvd_right _ _))
theorem aL6 (p q:List Rat) (k:Nat):fR p q k=fR q p k:=by
 rw[<- zB,<- zB];exact uA (fun x=>by rw[jY,jY,Rat.mul_comm]) k
theorem Zl.tail {a:Rat} {l:List Rat} (h:Zl (a::l)):Zl l:=fun k=>h (k+1)
theorem Dd.cons {d:Int} {a:Rat} {l:List Rat} (h0:∃ z:Int,a=((d*z:Int):Rat)) (h:Dd d l):Dd d (a::l):=fun k=>by
 cases k with
 | zero=>exact h0
 | succ k=>exact h k
theorem Dd.nil (d:Int):Dd d []:=fun k=>⟨0,by rw[cP (Nat.zero_le _),Int.mul_zero]; rfl⟩
theorem aYl {p:Nat} (hp:∀ d,d ∣ p->d=1\/d=p):∀ (n:Nat) (g h:List Rat),g.length+h.length<=n->Zl g->Zl h->(∀ k,∃ z:Int,fR g h k=(((p:Int)*z:Int):Rat))->Dd p g\/Dd p h:=by
 intro n
 induction n with
 | zero =>
  intro g h hn _ _ _;obtain rfl:=List.eq_nil_of_length_eq_zero (show g.length=0 by omega);exact .inl (Dd.nil p)
 | succ n ih =>
  have cut:∀ (a:Rat) (g h:List Rat),Zl (a::g)->Zl h->(∀ k,∃ z:Int,fR (a::g) h k=(((p:Int)*z:Int):Rat))->(∃ z:Int,a=(((p:Int)*z:Int):Rat))->∀ k,∃ z:Int,fR g h k=(((p:Int)*z:Int):Rat):=by
   rintro a g h hg hh hc ⟨y,hy⟩ k;obtain⟨z,hz⟩:=hc (k+1);rw[aEz,if_neg (by omega),Nat.add_sub_cancel] at hz;obtain⟨u,hu⟩:=hh (k+1);refine⟨z-u*y,?_⟩;rw[hu,hy] at hz;rw[Int.mul_sub,Rat.intCast_sub,<- hz,Rat.intCast_mul,Rat.intCast_mul,Rat.intCast_mul];grind
  intro g h hn hg hh hc
  match g,h with
  | [],_=>exact .inl (Dd.nil p)
  | _::_,[]=>exact .inr (Dd.nil p)
  | a::g,b::h =>
   obtain⟨a',ha⟩:=hg 0;obtain⟨b',hb⟩:=hh 0;have ha':a=(a':Rat):=ha;have hb':b=(b':Rat):=hb;simp only[List.length_cons] at hn;have h0:(p:Int) ∣ a'*b':=by
    obtain⟨z,hz⟩:=hc 0;rw[aEz,if_pos rfl] at hz;have e:((a'*b':Int):Rat)=(((p:Int)*z:Int):Rat):=by
     rw[<- hz,Rat.intCast_mul,<- ha',<- hb'];show _=b*a+0;grind
    exact⟨z,Rat.intCast_inj.1 e⟩
   rcases aRu hp h0 with ⟨y,hy⟩ | ⟨y,hy⟩
   ·have hd:∃ z:Int,a=(((p:Int)*z:Int):Rat):=⟨y,by rw[ha',hy]⟩
    rcases ih g (b::h) (by simp only[List.length_cons]; omega) hg.tail hh (cut a g (b::h) hg hh hc hd) with q | q
    ·exact .inl (q.cons hd)
    ·exact .inr q
   ·have hd:∃ z:Int,b=(((p:Int)*z:Int):Rat):=⟨y,by rw[hb',hy]⟩
    have hc':=cut b h (a::g) hh hg (fun k=>by rw[aL6]; exact hc k) hd;rcases ih (a::g) h (by simp only[List.length_cons]; omega) hg hh.tail (fun k=>by rw[aL6]; exact hc' k) with q | q
    ·exact .inl q
    ·exact .inr (q.cons hd)
def aF2 (g:List Rat):Prop:=Zl g/\∀ d:Nat,1<d->¬ Dd d g
theorem aPv {P G H:List Rat} (hP:Zl P) (hG:aF2 G) (h:∀ x,ev P x=ev G x*ev H x):∀ m:Nat,0<m->(∀ k,∃ z:Int,H.getD k 0*((m:Nat):Rat)=(z:Rat))->Zl H:=by
 intro m
 induction m using Nat.strongRecOn with
 | ind m ih =>
  intro hm hH;by_cases h1:m=1
  ·subst h1;intro k;obtain⟨z,hz⟩:=hH k;exact⟨z,by rw[<- hz]; show _=_*(1:Rat); grind⟩
  ·obtain⟨p,p1,⟨m',p2⟩,p3⟩:=aR6 m (by omega);have hm':0<m':=by
    rcases Nat.eq_zero_or_pos m' with q | q
    ·subst q; omega
    ·exact q
   have hp0:((p:Nat):Rat)≠0:=fun e=>by
    have:(((p:Int)):Rat)=((0:Int):Rat):=by rw[Rat.intCast_natCast]; exact e
    have:=Rat.intCast_inj.1 this;omega
   have hmm:((m:Nat):Rat)=((p:Nat):Rat)*((m':Nat):Rat):=by rw[p2,Rat.natCast_mul]
   have hS:Zl (aN H ((m:Nat):Rat)):=fun k=>by rw[jT]; exact hH k
   have hcv:∀ k,∃ z:Int,fR G (aN H ((m:Nat):Rat)) k=(((p:Int)*z:Int):Rat):=fun k=>by
    obtain⟨z,hz⟩:=hP k;refine⟨m'*z,?_⟩;have e:fR G (aN H ((m:Nat):Rat)) k=(aN P ((m:Nat):Rat)).getD k 0:=by
     rw[<- zB];exact uA (fun x=>by rw[jY,cB,cB,h]; grind) k
    rw[e,jT,hz,hmm,Rat.intCast_mul,Rat.intCast_mul,Rat.intCast_natCast,Rat.intCast_natCast];grind
   rcases aYl p3 _ G (aN H ((m:Nat):Rat)) (Nat.le_refl _) hG.1 hS hcv with q | q
   ·exact absurd q (hG.2 p p1)
   ·have hlt:m'<m:=by
     rw[p2];have:=Nat.mul_le_mul_right m' p1;omega
    refine ih m' hlt hm' fun k=>?_;obtain⟨z,hz⟩:=q k;rw[jT,hmm,Rat.intCast_mul,Rat.intCast_natCast] at hz;refine⟨z,?_⟩;have hi:=Rat.mul_inv_cancel _ hp0;grind
theorem aE0:∀ l:List Rat,∃ m:Nat,0<m/\∀ k,∃ z:Int,l.getD k 0*((m:Nat):Rat)=(z:Rat)
 | []=>⟨1,Nat.one_pos,fun k=>⟨0,by rw[cP (Nat.zero_le _),Rat.zero_mul]; rfl⟩⟩
 | a::l=>by
  obtain⟨m,h1,h2⟩:=aE0 l;refine⟨a.den*m,Nat.mul_pos (Nat.pos_of_ne_zero a.den_nz) h1,fun k=>?_⟩;cases k with
  | zero =>
   refine⟨a.num*m,?_⟩;show a*_=_;rw[Rat.natCast_mul,Rat.intCast_mul,<- wP a,Rat.intCast_natCast];grind
  | succ k =>
   obtain⟨z,hz⟩:=h2 k;refine⟨a.den*z,?_⟩;show l.getD k 0*_=_;rw[Rat.natCast_mul,Rat.intCast_mul,<- hz,Rat.intCast_natCast];grind
theorem aX4 {d:Nat} (hd:0<d) {g:List Rat} (h:Dd d g):Zl (aN g (1/((d:Nat):Rat))):=fun k=>by
 obtain⟨z,hz⟩:=h k;refine⟨z,?_⟩;have hd0:((d:Nat):Rat)≠0:=fun e=>by
  have:(((d:Int)):Rat)=((0:Int):Rat):=by rw[Rat.intCast_natCast]; exact e
  have:=Rat.intCast_inj.1 this;omega
 have hi:=Rat.mul_inv_cancel _ hd0;rw[jT,hz,Rat.div_def,Rat.one_mul,Rat.intCast_mul,Rat.intCast_natCast];grind
theorem aTz:∀ (n:Nat) (g:List Rat),aI g=g->g≠[]->Zl g->(∀ z:Int,aH g=(z:Rat)->z.natAbs<=n)->∃ (r:List Rat) (c:Rat),c≠0/\aI r=r/\r.length=g.length/\aF2 r/\∀ x,ev r x=c*ev g x:=by
 intro n
 induction n with
 | zero =>
  intro g tg hg0 hz hl;obtain⟨z,hz'⟩:=hz (g.length-1);have:=hl z hz';exact absurd (show aH g=0 by show g.getD _ 0=0; rw[hz',show z=0 by omega]; rfl) (fA tg hg0)
 | succ n ih =>
  intro g tg hg0 hz hl;by_cases hd:∃ d:Nat,1<d/\Dd d g
  ·obtain⟨d,d1,d2⟩:=hd;have hd0:((d:Nat):Rat)≠0:=fun e=>by
    have:(((d:Int)):Rat)=((0:Int):Rat):=by rw[Rat.intCast_natCast]; exact e
    have:=Rat.intCast_inj.1 this;omega
   have hi:=Rat.mul_inv_cancel _ hd0;have e1:(1:Rat)/((d:Nat):Rat)=((d:Nat):Rat)⁻¹:=by rw[Rat.div_def,Rat.one_mul]
   have hc:(1:Rat)/((d:Nat):Rat)≠0:=by
    rw[e1];intro e;rw[e] at hi;grind
   obtain⟨s1,s2⟩:=kQ tg hc;obtain⟨r,c,r1,r2,r3,r4,r5⟩:=ih (aN g (1/((d:Nat):Rat))) (cF _) (fun e=>by
    rw[e] at s1;exact hg0 (List.eq_nil_of_length_eq_zero s1.symm)) (aX4 (by omega) d2) (fun z hz2=>by
     obtain⟨y,hy⟩:=d2 (g.length-1);have hy':aH g=(((d:Int)*y:Int):Rat):=hy;have hb:=hl _ hy';rw[s2,hy',e1,Rat.intCast_mul,Rat.intCast_natCast] at hz2;have e2:(y:Rat)=(z:Rat):=by rw[<- hz2]; grind
     obtain rfl:=Rat.intCast_inj.1 e2;rw[Int.natAbs_mul,Int.natAbs_natCast] at hb;have hy0:y.natAbs≠0:=fun e=>fA tg hg0 (by rw[hy',show y=0 by omega,Int.mul_zero]; rfl);have:=Nat.mul_le_mul_right y.natAbs d1;omega)
   exact⟨r,c*(1/((d:Nat):Rat)),fun e=>(Rat.mul_eq_zero.1 e).elim r1 hc,r2,by rw[r3,s1],r4,fun x=>by rw[r5,cB]; grind⟩
  ·exact⟨g,1,by decide,tg,rfl,⟨hz,fun d d1 d2=>hd ⟨d,d1,d2⟩⟩,fun x=>by rw[Rat.one_mul]⟩
theorem aV6 {g:List Rat} (tg:aI g=g) (hg0:g≠[]):∃ (r:List Rat) (c:Rat),c≠0/\aI r=r/\r.length=g.length/\aF2 r/\∀ x,ev r x=c*ev g x:=by
 obtain⟨m,m1,m2⟩:=aE0 g;have hm0:((m:Nat):Rat)≠0:=fun e=>by
  have:(((m:Int)):Rat)=((0:Int):Rat):=by rw[Rat.intCast_natCast]; exact e
  have:=Rat.intCast_inj.1 this;omega
 obtain⟨s1,s2⟩:=kQ tg hm0;have hz:Zl (aN g ((m:Nat):Rat)):=fun k=>by rw[jT]; exact m2 k
 obtain⟨z,hz2⟩:=hz ((aN g ((m:Nat):Rat)).length-1);obtain⟨r,c,r1,r2,r3,r4,r5⟩:=aTz z.natAbs (aN g ((m:Nat):Rat)) (cF _) (fun e=>by
  rw[e] at s1;exact hg0 (List.eq_nil_of_length_eq_zero s1.symm)) hz (fun y hy=>by
   have e:(y:Rat)=(z:Rat):=by rw[<- hy]; exact hz2
   rw[Rat.intCast_inj.1 e];exact Nat.le_refl _)
 exact⟨r,c*((m:Nat):Rat),fun e=>(Rat.mul_eq_zero.1 e).elim r1 hm0,r2,by rw[r3,s1],r4,fun x=>by rw[r5,cB]; grind⟩
/-! Whole numbers as they are. -/
def eK:List Int->Int->Int
 | [],_=>0
 | a::l,x=>a+x*eK l x
def sI (L:List Int):List Rat:=L.map fun z:Int=>(z:Rat)
theorem aFu {l:List Rat} (h:Zl l):∃ L:List Int,l=sI L:=by
 induction l with
 | nil=>exact⟨[],rfl⟩
 | cons a l ih =>
  obtain⟨L,hL⟩:=ih h.tail;obtain⟨z,hz⟩:=h 0;exact⟨z::L,by rw[hL,show a=(z:Rat) from hz]; rfl⟩
theorem aAo (x:Int):∀ L:List Int,ev (sI L) (x:Rat)=(eK L x:Rat)
 | []=>rfl
 | a::L=>by
  show (a:Rat)+(x:Rat)*ev (sI L) x=_;rw[aAo x L,eK,Rat.intCast_add,Rat.intCast_mul]
theorem aEa (L:List Int) (k:Nat):(sI L).getD k 0=(L.getD k 0:Rat):=by
 unfold sI;rw[List.getD_eq_getElem?_getD,List.getD_eq_getElem?_getD,List.getElem?_map];cases L[k]?<;>rfl
theorem aLu {c:Nat} {x:Int} (hx:2^c+1<=x):∀ (L:List Int),(∀ k,(L.getD k 0).natAbs<=2^c)->L≠[]->L.getD (L.length-1) 0≠0->1<=(eK L x).natAbs
 | [],_,h,_=>absurd rfl h
 | [a],_,_,h=>by
  have h':a≠0:=h;show 1<=(a+x*0).natAbs;omega
 | a::b::L,hb,_,hl=>by
  have ih:=aLu hx (b::L) (fun k=>hb (k+1)) (by simp) (by simpa using hl);have ha:a.natAbs<=2^c:=hb 0;rw[eK];have h1:(x*eK (b::L) x).natAbs=x.natAbs*(eK (b::L) x).natAbs:=Int.natAbs_mul _ _;have h2:=Nat.le_mul_of_pos_right x.natAbs (show 0<(eK (b::L) x).natAbs by omega);have h3:(2:Int)^c=((2^c:Nat):Int):=by simp
  rw[h3] at hx;generalize 2^c=y at *;omega
theorem aKg {c s:Nat} {x:Int} (hx:x.natAbs<=2^s):∀ (L:List Int),(∀ k,(L.getD k 0).natAbs<=2^c)->(eK L x).natAbs<=2^(c+L.length*(s+1))
 | [],_=>Nat.zero_le _
 | a::L,hb=>by
  have ih:=aKg hx L (fun k=>hb (k+1));have ha:a.natAbs<=2^c:=hb 0;rw[eK];refine Nat.le_trans (aW5 (c:=c+L.length*(s+1)+s) (Nat.le_trans ha (eS (by omega))) (Nat.le_trans (gQ hx ih) (eS (by omega)))) (eS ?_);rw[List.length_cons,Nat.succ_mul];omega
def gT (s:Int):Int->List Int->Int × List Int
 | a,[]=>(a,[])
 | a,b::l=>(a+s*(gT s b l).1,(gT s b l).1::(gT s b l).2)
theorem aLe (s:Int):∀ (l:List Int) (a:Int),(gT s a l).2.length=l.length
 | [],_=>rfl
 | b::l,_=>by rw[gT,List.length_cons,aLe s l b,List.length_cons]
theorem aMs (s x:Int):∀ (l:List Int) (a:Int),a+x*eK l x=(gT s a l).1+(x-s)*eK (gT s a l).2 x
 | [],a=>by show a+x*0=a+(x-s)*0; grind
 | b::l,a=>by
  have ih:=aMs s x l b;rw[gT,eK,eK];show a+x*(b+x*eK l x)=a+s*(gT s b l).1+(x-s)*((gT s b l).1+x*eK (gT s b l).2 x);rw[ih];grind
theorem aLf (s:Int):∀ (l:List Int) (a:Int),a=(gT s a l).1-s*(gT s a l).2.getD 0 0/\∀ k,l.getD k 0=(gT s a l).2.getD k 0-s*(gT s a l).2.getD (k+1) 0
 | [],a=>⟨by show a=a-s*0; grind,fun k=>by show (0:Int)=0-s*0; grind⟩
 | b::l,a=>by
  obtain⟨h1,h2⟩:=aLf s l b;rw[gT];refine⟨?_,fun k=>?_⟩
  ·show a=a+s*(gT s b l).1-s*(gT s b l).1;grind
  ·cases k with
   | zero=>exact h1
   | succ k=>exact h2 k
theorem aM4:∀ (n:Nat) (L:List Int) (s:Int) (v t:Nat),L.length<=n->(∀ j:Nat,j<n->(eK L (s+j)).natAbs<=2^v)->s.natAbs+n<=2^t->∀ k,(L.getD k 0).natAbs<=2^(v+n*(t+2))
 | 0,L,s,v,t,hL,_,_,k=>by
  obtain rfl:=List.eq_nil_of_length_eq_zero (show L.length=0 by omega);exact Nat.zero_le _
 | n+1,[],_,_,_,_,_,_,k=>Nat.zero_le _
 | n+1,a::L,s,v,t,hL,hv,ht,k=>by
  rw[List.length_cons] at hL;obtain⟨g1,g2⟩:=aLf s L a;have hev:=fun x=>aMs s x L a;have hl:=aLe s L a;generalize (gT s a L).1=c at *;generalize (gT s a L).2=L' at *;have hc:c.natAbs<=2^v:=by
   have h0:=hv 0 (by omega);have e:=hev s;rw[show s-s=0 by omega,Int.zero_mul,Int.add_zero] at e;rw[show s+((0:Nat):Int)=s by omega,eK,e] at h0;exact h0
  have ih:=aM4 n L' (s+1) (v+1) t (by omega) (fun j hj=>by
   have h1:=hv (j+1) (by omega);rw[show s+((j+1:Nat):Int)=s+1+j by omega,eK,hev] at h1;have h2:((s+1+j-s)*eK L' (s+1+j)).natAbs=(s+1+j-s).natAbs*(eK L' (s+1+j)).natAbs:=Int.natAbs_mul _ _;have h3:=Nat.le_mul_of_pos_left (eK L' (s+1+j)).natAbs (show 0<(s+1+j-s).natAbs by omega);rw[Nat.pow_succ];omega) (by omega)
  have hs:s.natAbs<=2^t:=by omega
  have hsum:∀ {y z:Int} {w:Nat},y.natAbs<=2^w->z.natAbs<=2^w->(y-s*z).natAbs<=2^(w+t+1):=fun hy hz=>by
   refine aE3 (Nat.le_trans hy (eS (by omega))) ?_;rw[Nat.add_comm];exact gQ hs hz
  have hexp:v+1+n*(t+2)+t+1=v+(n+1)*(t+2):=by rw[Nat.succ_mul]; omega
  rw[<- hexp];cases k with
  | zero =>
   show a.natAbs<=_;rw[g1];exact hsum (Nat.le_trans hc (eS (by omega))) (ih 0)
  | succ k =>
   show (L.getD k 0).natAbs<=_;rw[g2];exact hsum (ih k) (ih (k+1))
def sF (c n:Nat):Nat:=c+n*(c+3)+n*(c+4)
theorem Cm.whole {m:Int} {p:List Rat} {c:Nat} (h:Cm m p c):Zl (aN p (m:Rat)):=fun k=>by
 obtain⟨z,z1,_⟩:=h k;exact⟨z,by rw[jT,z1]⟩
theorem aKp {P G:List Rat} {c n:Nat} (tP:aI P=P) (hP0:P≠[]) (hc:Cb P c) (hn:P.length<=n) (hn2:n<=2^c) (tG:aI G=G) (h:Dv G P):Cb (aX G) (sF c n):=by
 obtain⟨hG0,hGl,_⟩:=sB tG tP hP0 h;obtain⟨m,m1,_,m3⟩:=hc;obtain⟨u,hu⟩:=h;have hm0:=nV m1;obtain⟨s1,s2⟩:=kQ tP hm0;obtain⟨r,a,a1,r1,r2,r3,r4⟩:=aV6 tG hG0;have hai:=Rat.inv_mul_cancel a a1;have hPz:=m3.whole;have hq:∀ x,ev (aN P (m:Rat)) x=ev r x*ev (aN u (a⁻¹*(m:Rat))) x:=fun x=>by
  rw[cB,cB,r4,hu];grind
 obtain⟨d,d1,d2⟩:=aE0 (aN u (a⁻¹*(m:Rat)));have hHz:=aPv hPz r3 hq d d1 d2;obtain⟨LP,eP⟩:=aFu hPz;obtain⟨LG,eG⟩:=aFu r3.1;obtain⟨LH,eH⟩:=aFu hHz;have hmul:∀ x:Int,eK LP x=eK LG x*eK LH x:=fun x=>by
  have:=hq (x:Rat);rw[eP,eG,eH,aAo,aAo,aAo,<- Rat.intCast_mul] at this;exact Rat.intCast_inj.1 this
 have hPb:∀ k,(LP.getD k 0).natAbs<=2^c:=fun k=>by
  obtain⟨z,z1,z2⟩:=m3 k;have e:((LP.getD k 0:Int):Rat)=(z:Rat):=by rw[<- aEa,<- eP,jT,z1]
  rw[Rat.intCast_inj.1 e];exact z2
 have hLPl:LP.length=P.length:=by
  have:=congrArg List.length eP;rw[s1] at this;rw[this];simp[sI]
 have hP0':LP≠[]:=fun e=>by
  rw[e,List.length_nil] at hLPl;exact hP0 (List.eq_nil_of_length_eq_zero hLPl.symm)
 have hPl:LP.getD (LP.length-1) 0≠0:=fun e=>by
  have h1:aH (aN P (m:Rat))=0:=by
   unfold aH;rw[s1,eP,aEa,<- hLPl,e];rfl
  rw[s2] at h1;exact(Rat.mul_eq_zero.1 h1).elim (fA tP hP0) hm0
 have hLGl:LG.length=r.length:=by rw[eG]; simp[sI]
 have hval:∀ j:Nat,j<n->(eK LG ((2^(c+1):Nat)+(j:Int))).natAbs<=2^(c+n*(c+3)):=fun j hj=>by
  have hlo:1<=(eK LP ((2^(c+1):Nat)+(j:Int))).natAbs:=aLu (c:=c) (by
   have e:(2:Int)^c=((2^c:Nat):Int):=by simp
   rw[e,Nat.pow_succ];have:=Nat.one_le_two_pow (n:=c);omega) LP hPb hP0' hPl
  have hhi:=aKg (c:=c) (s:=c+2) (x:=(2^(c+1):Nat)+(j:Int)) (by
   rw[Nat.pow_succ 2 (c+1),Nat.pow_succ];omega) LP hPb
  rw[hmul,Int.natAbs_mul] at hlo hhi;have h0:0<(eK LH ((2^(c+1):Nat)+(j:Int))).natAbs:=Nat.pos_of_ne_zero fun e=>by rw[e,Nat.mul_zero] at hlo; omega
  refine Nat.le_trans (Nat.le_trans (Nat.le_mul_of_pos_right _ h0) hhi) (eS ?_);exact Nat.add_le_add_left (Nat.mul_le_mul_right (c+3) (show LP.length<=n by omega)) c
 have hcoef:=aM4 n LG ((2^(c+1):Nat):Int) (c+n*(c+3)) (c+2) (by omega) hval (by
  rw[Int.natAbs_natCast,Nat.pow_succ 2 (c+1),Nat.pow_succ];omega)
 have hr0:r≠[]:=fun e=>by
  rw[e] at r2;exact hG0 (List.eq_nil_of_length_eq_zero r2.symm)
 have hCr:Cm 1 r (sF c n):=fun k=>⟨LG.getD k 0,by rw[lI,eG,aEa],hcoef k⟩
 have hmr:=(mW hCr).monic (fA r1 hr0);obtain⟨x1,x2,x3,b,b1,b2⟩:=pK r1 hr0;obtain⟨y1,y2,y3,b',b3,b4⟩:=pK tG hG0;have hab:∃ e:Rat,∀ x,ev (aX G) x=e*ev (aX r) x:=by
  have hbi:=Rat.inv_mul_cancel b b1;exact⟨b'*a⁻¹*b⁻¹,fun x=>by rw[b2,b4,r4]; grind⟩
 obtain⟨e,he⟩:=hab;have hco:=uA (p:=aX G) (q:=aN (aX r) e) fun x=>by rw[cB,he,Rat.mul_comm]
 have he1:e=1:=by
  have h1:=hco (G.length-1);rw[jT] at h1;have h2:aH (aX G)=(aX G).getD (G.length-1) 0:=by unfold aH; rw[y2]
  have h3:aH (aX r)=(aX r).getD (G.length-1) 0:=by unfold aH; rw[x2,r2]
  rw[<- h2,<- h3,x3,y3] at h1;grind
 refine hmr.ext fun k=>?_;rw[hco,jT,he1,Rat.mul_one]
/-! Exact division,quotients without a common divisor,polynomials without double zeros. -/
theorem aX5 {a b g:List Rat} (hg:aI g≠[]) (h:∀ x,ev a x*ev g x=ev b x*ev g x):∀ x,ev a x=ev b x:=by
 have h0:aI (fN a b)=[]:=by
  by_cases q:aI (fN a b)=[]
  ·exact q
  ·obtain⟨m1,_⟩:=aLq (p:=aI (fN a b)) (q:=aI g) (cF _) (cF _) q hg;have h1:aI (dY (aI (fN a b)) (aI g))=[]:=uI fun x=>by
    have:=h x;rw[jY,mF,mF,lM];grind
   rw[aJ9] at h1;rw[h1,List.length_nil] at m1;have:=List.length_pos_iff.2 q;have:=List.length_pos_iff.2 hg;omega
 intro x;have h2:=mF (fN a b) x;rw[h0,lM,ev] at h2;grind
theorem aHl {u g U R:List Rat} (tg:aI g=g) (tR:aI R=R) (hd:Dv g u) (h:∀ x,ev u x=ev U x*ev g x+ev R x) (hl:R.length<g.length):R=[]:=by
 obtain⟨w,hw⟩:=hd;by_cases h0:R=[]
 ·exact h0
 ·have:=(sB tg tR h0 ⟨fN w U,fun x=>by rw[lM]; have h1:=h x; have h2:=hw x; grind⟩).2.1;omega
theorem aQl {u v:List Rat} {c:Rat} (tu:aI u=u) (tv:aI v=v) (hu:u≠[]) (hc:c≠0) (h:∀ x,ev u x=c*ev v x):aX u=aX v:=by
 have e:u=aN v c:=jF tu (cF _) fun x=>by rw[cB,h,Rat.mul_comm]
 obtain⟨_,s2⟩:=kQ tv hc;have hl:=fA tu hu;rw[e,s2] at hl;have hv:aH v≠0:=fun q=>hl (by rw[q,Rat.zero_mul]);have hi:=Rat.mul_inv_cancel _ hv;have hci:=Rat.mul_inv_cancel _ hc;have hlast:aH u=aH v*c:=by rw[e,s2]
 refine jF (cF _) (cF _) fun x=>?_;rw[aX,aX,cB,cB,h,hlast,Rat.div_def,Rat.div_def,Rat.one_mul,Rat.one_mul];have e2:(aH v*c)⁻¹=(aH v)⁻¹*c⁻¹:=by
  have h3:aH v*c≠0:=fun q=>(Rat.mul_eq_zero.1 q).elim hv hc;have h4:=Rat.mul_inv_cancel _ h3;have h5:(aH v*c)*((aH v)⁻¹*c⁻¹)=1:=by grind
  grind
 rw[e2];grind
/-! No double zeros. -/
def fP (a:Rat):Rat:=if a<0 then -a else a
theorem aK4 {a:Rat} (h:a≠0):0<fP a:=by unfold fP; split<;>grind
theorem aMh (a:Rat):fP a=a\/fP a = -a:=by
 unfold fP;split
 ·exact .inr rfl
 ·exact .inl rfl
theorem aK5 {a:Rat} {m g:Int} (h:a*(m:Rat)=(g:Rat)):∃ y:Int,fP a*(m:Rat)=(y:Rat)/\y.natAbs=g.natAbs:=by
 rcases aMh a with e | e
 ·exact⟨g,by rw[e,h],rfl⟩
 ·exact⟨-g,by rw[e,Rat.neg_mul,h,Rat.intCast_neg],Int.natAbs_neg g⟩
theorem aJj (a:Rat):(0:Rat)<wR (a.den:Int):=by
 rw[mV,Rat.intCast_natCast];exact Rat.natCast_pos.2 (Nat.pos_of_ne_zero a.den_nz)
theorem aIg {B:Nat}:∀ {l:List Rat} {e D:Rat},gG B l e=some D->0<e->0<D
 | [],e,D,h,he=>by
  rw[gG] at h;obtain rfl:=Option.some.inj h;exact he
 | a::l,e,D,h,he=>by
  rw[gG] at h;split at h
  ·refine aIg h ?_;rw[Rat.div_def];exact Rat.mul_pos he (Rat.inv_pos.2 (aJj _))
  ·cases h
def gR (B:Nat) (p:List Rat) (t:Rat):Option (List Rat × Rat) :=
 if p=[] then some ([],0) else (gG B p (fP (aH p))).bind fun D=>if (aG [1/D] B&&(aG (aN p (1/D)) B&&aG [t*D] B))=true then some (aN p (1/D),t*D) else none
theorem aEs {a b:Rat} {c d:Nat} (ha:dP a c) (hb:dP b d):dP (a*b) (c+d):=by
 obtain⟨z,m,h1,h2,h3,h4⟩:=ha;obtain⟨y,n,k1,k2,k3,k4⟩:=hb;refine⟨z*y,m*n,Int.mul_ne_zero h1 k1,?_,gQ h3 k3,gQ h4 k4⟩;rw[Rat.intCast_mul,Rat.intCast_mul,<- h2,<- k2];grind
theorem aEt {a:Rat} {c:Nat} (h0:a≠0) (ha:dP a c):dP a⁻¹ c:=by
 obtain⟨z,m,h1,h2,h3,h4⟩:=ha;have hi:=Rat.mul_inv_cancel a h0;have hz:z≠0:=by
  rintro rfl;have:=nV h1;have h2:a*(m:Rat)=0:=h2;rcases Rat.mul_eq_zero.1 h2 with e | e
  ·exact h0 e
  ·exact this e
 exact⟨m,z,hz,by rw[<- h2]; grind,h4,h3⟩
theorem zH {a:Rat} {c d:Nat} (h:dP a c) (hd:c<=d):dP a d:=by
 obtain⟨z,m,h1,h2,h3,h4⟩:=h;exact⟨z,m,h1,h2,Nat.le_trans h3 (eS hd),Nat.le_trans h4 (eS hd)⟩
theorem aWr {a:Rat} {c:Nat} (h:dP a c):dP (-a) c:=by
 obtain⟨z,m,h1,h2,h3,h4⟩:=h;exact⟨-z,m,h1,by rw[Rat.neg_mul,h2,Rat.intCast_neg],by rw[Int.natAbs_neg]; exact h3,h4⟩
theorem aLw {a:Rat} {z:Int} {c:Nat} (h:a=(z:Rat)) (hz:z.natAbs<=2^c):dP a c:=⟨z,1,by decide,by rw[lI,h],hz,Nat.one_le_two_pow⟩
theorem aHe {B:Nat} {δ:Rat}:∀ {l:List Rat} {e D:Rat},gG B l e=some D->e≠0->(∀ a∈l,∃ y:Int,a = δ*(y:Rat))->(∃ y:Int,e = δ*(y:Rat))->∃ y:Int,D = δ*(y:Rat)
 | [],e,D,h,_,_,he=>by
  rw[gG] at h;obtain rfl:=Option.some.inj h;exact he
 | a::l,e,D,h,e0,hl,⟨g,hg⟩=>by
  rw[gG] at h;split at h
  ·obtain⟨z,hz⟩:=hl a List.mem_cons_self;have hi:=Rat.mul_inv_cancel e e0;have hδ : δ≠0:=by
    rintro rfl;rw[Rat.zero_mul] at hg;exact e0 hg
   have hg0:g≠0:=by
    rintro rfl;exact e0 (by rw[hg]; exact Rat.mul_zero δ)
   have hdi:=Rat.mul_inv_cancel δ hδ;have r1:a/e*(g:Rat)=(z:Rat):=by
    have h1:a/e*e=a:=by rw[Rat.div_def,Rat.mul_assoc,Rat.inv_mul_cancel _ e0,Rat.mul_one]
    generalize a/e=r at h1 |-;have h2 : δ*(r*(g:Rat)) = δ*(z:Rat):=by
     rw[<- hz,<- h1,hg];grind
    have h3:=congrArg (fun q => δ⁻¹*q) h2;simp only[<- Rat.mul_assoc,Rat.inv_mul_cancel _ hδ,Rat.one_mul] at h3;exact h3
   obtain⟨_,⟨g1,f2⟩,_⟩:=aCk hg0 r1;obtain⟨g2,hg2⟩:∃ g2:Int,g=((a/e).den:Int)*g2:=by
    rcases Int.natAbs_eq g with h | h
    ·exact⟨g1,by rw[h,f2,Int.natCast_mul]⟩
    ·exact⟨-g1,by rw[h,f2,Int.natCast_mul,Int.mul_neg]⟩
   have hdp:=aJj (a/e);have hd0:wR ((a/e).den:Int)≠0:=by grind
   have he2:e/wR ((a/e).den:Int) = δ*(g2:Rat):=by
    have hgw:(g:Rat)=wR ((a/e).den:Int)*(g2:Rat):=by rw[mV,<- Rat.intCast_mul,<- hg2]
    have h5:=Rat.mul_inv_cancel _ hd0;rw[Rat.div_def];generalize wR ((a/e).den:Int)=w at *;have h4:e = δ*(g2:Rat)*w:=by
     rw[hg,hgw];grind
    have h6:e*w⁻¹ = δ*(g2:Rat)*(w*w⁻¹):=by rw[<- Rat.mul_assoc,<- h4]
    rw[h6,h5,Rat.mul_one]
   refine aHe h ?_ (fun b hb=>hl b (List.mem_cons_of_mem _ hb)) ⟨g2,he2⟩;rw[Rat.div_def];intro q;exact(Rat.mul_eq_zero.1 q).elim e0 (by have:=Rat.inv_pos.2 hdp; grind)
  ·cases h
theorem aDa {B:Nat} {p:List Rat} {t κ:Rat} {b c e:Nat} (hB:1<=B) (hp:aI p=p) (h0:p≠[]) (hc:Cb p c) (ht:dP t e) (hE:e+c<=29*B) (hb:b<=29*B) (hκ : κ≠0) (hi:∀ k,∃ z:Int,p.getD k 0 = κ*(z:Rat)/\z.natAbs<=2^b) :
  ∃ R T,gR B p t=some (R,T)/\aI R=R/\R.length=p.length/\Cm 1 R b/\dP T (e+c)/\(0<t->0<T)/\∃ a:Rat,0<a/\(∀ x,ev R x=a*ev p x)/\T*a=t:=by
 obtain⟨m,m1,m2,m3⟩:=hc;obtain⟨g,g1,g2⟩:=m3 (p.length-1);have hl:=fA hp h0;have g1':aH p*(m:Rat)=(g:Rat):=g1;obtain⟨y,y1,y2⟩:=aK5 g1';have hg:g≠0:=wO g1' m1 hl;have hy:y≠0:=by omega
 have hmem:∀ a∈p,∃ k,a=p.getD k 0:=fun a ha=>by
  obtain⟨i,hi,rfl⟩:=List.getElem_of_mem ha;exact⟨i,by rw[List.getD_eq_getElem?_getD,List.getElem?_eq_getElem hi]; rfl⟩
 obtain⟨D,h,k1,k2,k3,k4,_,k6⟩:=aCx (c:=c) hB (by omega) m1 m2 p (fP (aH p)) y (fun a ha=>by
  obtain⟨k,rfl⟩:=hmem a ha;exact m3 k) y1 hy (by omega)
 have habs:=aK4 hl;have hDp:0<D:=aIg k1 habs;have hD:D≠0:=by grind
 have hDi:=Rat.mul_inv_cancel D hD;have h1D:(1:Rat)/D=D⁻¹:=by rw[Rat.div_def,Rat.one_mul]
 have hD1p:0<(1:Rat)/D:=by rw[h1D]; exact Rat.inv_pos.2 hDp
 have hD1:(1:Rat)/D≠0:=by grind
 obtain⟨v,hv⟩:∃ v:Int,D = κ*(v:Rat):=aHe k1 (by grind) (fun a ha=>by
   obtain⟨k,rfl⟩:=hmem a ha;obtain⟨z,z1,_⟩:=hi k;exact⟨z,z1⟩) (by
   obtain⟨z,z1,_⟩:=hi (p.length-1);have z1:aH p = κ*(z:Rat):=z1;rcases aMh (aH p) with q | q
   ·exact⟨z,by rw[q,z1]⟩
   ·exact⟨-z,by rw[q,z1,Rat.intCast_neg]; grind⟩)
 have hv0:v≠0:=by
  rintro rfl;exact hD (by rw[hv]; exact Rat.mul_zero κ)
 have hCR:Cm 1 (aN p (1/D)) b:=fun k=>by
  rw[jT,lI,h1D];rcases Nat.lt_or_ge k p.length with hk | hk
  ·obtain⟨y,y1⟩:=k6 (p.getD k 0) (by rw[List.getD_eq_getElem?_getD,List.getElem?_eq_getElem hk]; exact List.getElem_mem hk);obtain⟨z,z1,z2⟩:=hi k;refine⟨y,by rw[y1]; grind,?_⟩;have e:((v*y:Int):Rat)=(z:Rat):=by
    have q1 : κ*((v:Rat)*(y:Rat)) = κ*(z:Rat):=by rw[<- z1,y1,hv]; grind
    have q2:=congrArg (fun q => κ⁻¹*q) q1;simp only[<- Rat.mul_assoc,Rat.inv_mul_cancel _ hκ,Rat.one_mul] at q2;rw[Rat.intCast_mul];exact q2
   have e:=congrArg Int.natAbs (Rat.intCast_inj.1 e);rw[Int.natAbs_mul] at e;have:=Nat.le_mul_of_pos_left y.natAbs (show 0<v.natAbs by omega);omega
  ·rw[cP hk];exact⟨0,by rw[Rat.zero_mul]; rfl,Nat.zero_le _⟩
 have fD:dP D c:=⟨h,m,m1,k2,k4,m2⟩
 have fT:=aEs ht fD;have s1:aG [1/D] B=true:=by rw[h1D]; exact nX hB (by omega) (aEt hD fD)
 have s2:=(mW hCR).sz hB hb;have s3:aG [t*D] B=true:=nX hB hE fT;refine⟨aN p (1/D),t*D,?_,cF _,(kQ hp hD1).1,hCR,fT,fun q=>Rat.mul_pos q hDp,1/D,hD1p,fun x=>by rw[cB,Rat.mul_comm],by rw[h1D]; grind⟩;unfold gR;rw[if_neg h0,k1];show (if _ then some _ else none)=_;rw[s1,s2,s3];rfl
def mJ (B:Nat) (a:Rat):Nat->Rat->Option Rat
 | 0,f=>some f
 | n+1,f=>if aG [f*a] B=true then mJ B a n (f*a) else none
theorem aJx {B:Nat} {a:Rat} {z:Int} {d:Nat} (hB:1<=B) (ha:a=(z:Rat)) (hz:z.natAbs<=2^d) (ha0:0<a) :
  ∀ (n:Nat) (f:Rat) (y:Int) (e:Nat),f=(y:Rat)->y.natAbs<=2^e->0<f->e+n*d<=29*B->∃ F,mJ B a n f=some F/\0<F/\∃ v:Int,F=(v:Rat)/\v.natAbs<=2^(e+n*d)
 | 0,f,y,e,h1,h2,h3,_=>⟨f,rfl,h3,y,h1,by rw[Nat.zero_mul]; exact h2⟩
 | n+1,f,y,e,h1,h2,h3,hE=>by
  rw[Nat.succ_mul] at hE |-;have e1:f*a=((y*z:Int):Rat):=by rw[h1,ha,Rat.intCast_mul]
  have e2:=gQ h2 hz;have s:aG [f*a] B=true:=nX hB (by omega) (aLw e1 e2);obtain⟨F,k1,k2,v,k3,k4⟩:=aJx hB ha hz ha0 n (f*a) (y*z) (e+d) e1 e2 (Rat.mul_pos h3 ha0) (by omega);exact⟨F,by rw[mJ,if_pos s,k1],k2,v,k3,Nat.le_trans k4 (eS (by omega))⟩
def oD (B:Nat) (a b:List Rat × Rat):Option (List Rat × Rat) :=
 (mJ B (fP (aH b.1)) (a.1.length+1-b.1.length) 1).bind fun f=>if (aG [-f] B&&(aG (aN a.1 (-f)) B&&aG [a.2/f] B))=true then (dE B (aN a.1 (-f)) b.1).bind fun x=>gR B x.2 (a.2/f) else none
def uT (g c d:Nat):Nat:=c+g*d+g*(d+1)
theorem aCv {z q:List Rat} (hz:aI z=z) (hq:aI q=q) (hl:z.length<q.length) (h:Dv q z):z=[]:=by
 by_cases h0:z=[]
 ·exact h0
 ·have:=(sB hq hz h0 h).2.1;omega
theorem aU5 {B:Nat} {p q:List Rat} {s t:Rat} {c d e:Nat} (hB:1<=B) (hp:aI p=p) (h0:p≠[]) (hq:aI q=q) (hq0:q≠[]) (hpc:Cm 1 p c) (hqd:Cm 1 q d) (hs:dP s e) (hs0:0<s) (hE:uT (p.length+1-q.length) c d+d<=29*B) (hF:e+(p.length+1-q.length)*d+uT (p.length+1-q.length) c d<=29*B) :
  ∃ R T,oD B (p,s) (q,t)=some (R,T)/\aI R=R/\R.length<q.length/\Cm 1 R (c+(p.length+1-q.length)*(d+1))/\dP T (e+(p.length+1-q.length)*d+uT (p.length+1-q.length) c d)/\(R≠[]->0<T) /\
   ∃ W:List Rat,∀ x,s*ev p x+T*ev R x=ev W x*ev q x:=by
 unfold uT at *;obtain⟨g,hg⟩:∃ g,p.length+1-q.length=g:=⟨_,rfl⟩
 rw[hg] at hE hF;have hlq:=fA hq hq0;have hlen:=List.length_pos_iff.2 hq0;obtain⟨n,n1,n2⟩:=hqd (q.length-1);have n1':aH q*((1:Int):Rat)=(n:Rat):=n1;obtain⟨y,y1,y2⟩:=aK5 n1';rw[lI] at y1;have hgd:g*(d+1)=g*d+g:=by rw[Nat.mul_add,Nat.mul_one]
 obtain⟨f,f1,f2,v,f3,f4⟩:=aJx hB y1 (by rw[y2]; exact n2) (aK4 hlq) g 1 1 0 rfl (by decide) (by decide) (by omega);rw[Nat.zero_add] at f4;have hf0:f≠0:=by grind
 have ff:=aLw f3 f4;have fn:=aWr ff;have hc:Cb (aN p (-f)) (c+g*d):=(mW hpc).scale fn;have hnf : -f≠0:=by grind
 obtain⟨l1,l2⟩:=kQ hp hnf;have hdE:jM (aN p (-f)) q (c+g*d) d<=29*B:=by
  unfold jM;rw[l1,hg];omega
 obtain⟨U,R0,k1,k2,k3,k4,k5,k6,k7,k8⟩:=vU (p:=aN p (-f)) hB (cF _) hq hq0 hc (mW hqd) hdE;have k8':Cb R0 (c+g*d+g*(d+1)):=by
  unfold jM at k8;rw[l1,hg] at k8;exact k8.mono (by omega)
 have fs:dP (s/f) (e+g*d):=by rw[Rat.div_def]; exact aEs hs (aEt hf0 ff)
 have s1:aG [-f] B=true:=nX hB (by omega) fn;have s2:aG (aN p (-f)) B=true:=hc.sz hB (by omega);have s3:aG [s/f] B=true:=nX hB (by omega) fs;have hsf:s/f*f=s:=by rw[Rat.div_def,Rat.mul_assoc,Rat.inv_mul_cancel _ hf0,Rat.mul_one]
 have hsf0:0<s/f:=by rw[Rat.div_def]; exact Rat.mul_pos hs0 (Rat.inv_pos.2 f2)
 have hev:∀ x,-(f*ev p x)=ev U x*ev q x+ev R0 x:=fun x=>by
  have:=k6 x;rw[cB] at this;rw[<- this];grind
 obtain⟨R1,r1,r2,r3,r4,r5,a,u,r6,r7⟩:=aDm hB hlen hlq hqd (p.length+2) p c (by omega) hp hpc (by rw[hg]; omega);have hz:fC (aN R0 a) (aN R1 f)=[]:=by
  refine aCv (cF _) hq ?_ ⟨fN (aN u f) (aN U a),fun x=>?_⟩
  ·have h1:=aD4 (aN R0 a) (aN R1 f);have h2:=kS R0 a;have h3:=kS R1 f;omega
  ·have h1:=hev x;have h2:=r7 x;rw[jZ,lM,cB,cB,cB,cB];grind
 have hai:=Rat.inv_mul_cancel a r6;have hcoef:∀ k,R0.getD k 0 = -f*a⁻¹*R1.getD k 0:=fun k=>by
  have h1:=aW4 (aN R0 a) (aN R1 f) k;rw[hz,jT,jT,cP (Nat.zero_le _)] at h1;grind
 have hκ : -f*a⁻¹≠0:=fun q=>by
  rcases Rat.mul_eq_zero.1 q with h | h
  ·exact hnf h
  ·rw[h] at hai;grind
 have goal:∀ R T,gR B R0 (s/f)=some (R,T)->oD B (p,s) (q,t)=some (R,T):=fun R T h=>by
  unfold oD;show (mJ B (fP (aH q)) (p.length+1-q.length) 1).bind _=_;rw[hg,f1];show (if (aG [-f] B&&(aG (aN p (-f)) B&&aG [s/f] B))=true then (dE B (aN p (-f)) q).bind (fun x=>gR B x.2 (s/f)) else none)=_;rw[s1,s2,s3,if_pos (by rfl),k1];exact h
 rw[hg] at r5 |-;by_cases hR:R0=[]
 ·subst hR;refine⟨[],0,goal _ _ (by unfold gR; rw[if_pos rfl]),rfl,hlen,fun k=>⟨0,by rw[cP (Nat.zero_le _),Rat.zero_mul]; rfl,Nat.zero_le _⟩,⟨0,1,by decide,by rw[Rat.zero_mul]; rfl,Nat.zero_le _,Nat.one_le_two_pow⟩,fun h=>absurd rfl h,aN U (-(s/f)),fun x=>?_⟩;have:=hev x;rw[ev] at this |-;rw[cB];grind
 ·obtain⟨R,T,w1,w2,w3,w4,w5,w6,b,b0,b1,b2⟩:=aDa (κ := -f*a⁻¹) (b:=c+g*(d+1)) hB k3 hR k8' fs (by omega) (by omega) hκ (fun k=>by
   obtain⟨z,z1,z2⟩:=r5 k;rw[lI] at z1;exact⟨z,by rw[hcoef,z1],z2⟩)
  refine⟨R,T,goal _ _ w1,w2,by omega,w4,w5,fun _=>w6 hsf0,aN U (-(s/f)),fun x=>?_⟩;have:=hev x;have e1:T*ev R x=s/f*ev R0 x:=by rw[b1,<- b2]; grind
  rw[cB,e1];grind
end Vc
end Go.Proofs.YtjmbkipbmbnhjaaGreat

namespace Go.Proofs.YtjmbkipbmbnhjaaGreat
open Go.RowKit
open Go.Lib (hid)
open Dg Zn
namespace Vc
set_option maxRecDepth 100000
theorem aL9 {a:Rat}:aY a.num 0<0 ↔ a<0:=by
 have h1:=Rat.num_nonneg (q:=a);have h2:=Rat.not_lt (a:=a) (b:=0);have h3:a<0 ↔ ¬ 0<=a.num:=by
  rw[h1,<- h2,Decidable.not_not]
 rw[h3,aY];split
 ·exact⟨fun _=>by omega,fun _=>by decide⟩
 ·split
  ·exact⟨fun h=>absurd h (by decide),fun h=>by omega⟩
  ·exact⟨fun h=>absurd h (by decide),fun h=>by omega⟩
theorem uM {a b:Rat} {K:Nat} (h:a=b):∀ L ρ w v,(AV.one (RT a K)).is L ρ w v->(AV.one (RT b K)).is L ρ w v:=by subst h; exact fun _ _ _ _ h=>h
def elG (p:List Rat) (K:Nat) (t:Rat) (J:Nat):qQ where
 is:=fun w v=>∃ (s:Value) (c:List Value),v=.agg (s::c).toArray/\(bY (some 4) (bN p K)).is w s/\Dm.at (.rt t.num (qd t) J) w (.agg c.toArray)
 shape:=some 5
 plain:=true
 ok:=fun w v ⟨s,c,h,hs,hc⟩=>by
  subst h;obtain⟨ao,cap,rfl,_⟩:=hs;obtain⟨a,n,c',a',n',c'',rfl,_⟩:=gV hc;exact⟨_,rfl,rfl,by simp[Value.oneCell']⟩
 pl:=fun _ w v ⟨s,c,h,hs,hc⟩=>by
  subst h;obtain⟨ao,cap,rfl,_⟩:=hs;obtain⟨a,n,c',a',n',c'',rfl,_⟩:=gV hc;simp[Value.cells,cS]
abbrev EL (p:List Rat) (K:Nat) (t:Rat) (J:Nat):SA Dm:=.d (Dm.gen (elG p K t J))
theorem qE {p:List Rat} {K:Nat} {t:Rat} {J:Nat}:lT (Dm.gen (elG p K t J)) 0 none (PL p K):=by
 rintro w cs ⟨s,c,h,hs,hc⟩;obtain rfl:cs=s::c:=by simpa using congrArg Array.toList (Value.agg.inj h)
 have h1:s.oneCell'=true:=by obtain⟨ao,cap,rfl,_⟩:=hs; rfl
 exact⟨[],[s],c,s,rfl,rfl,⟨rfl,h1⟩,hs⟩
theorem aNe {p:List Rat} {K:Nat} {t:Rat} {J:Nat}:lT (Dm.gen (elG p K t J)) 1 (some 4) (RT t J):=by
 rintro w cs ⟨s,c,h,hs,hc⟩;obtain rfl:cs=s::c:=by simpa using congrArg Array.toList (Value.agg.inj h)
 obtain⟨a,n,c',a',n',c'',e,_⟩:=gV hc;refine⟨[s],c,[],.agg c.toArray,by simp,rfl,⟨rfl,?_,?_⟩,hc⟩
 ·rw[e]; rfl
 ·rw[e]; simp[Value.oneCell']
theorem qH:gX Tryz.prog 72 0 0:=gX.of (sz:=0) (by kernel_rfl)
theorem aNf:gX Tryz.prog 72 1 1:=gX.of (sz:=3) (by kernel_rfl)
theorem rM:(Tryz.prog.info? 72).map (·.zero)=some (some (.agg #[.slice none 0 0,.bool false,.slice none 0 0,.bool false,.slice none 0 0])):=by kernel_rfl
theorem iR:dF Tryz.prog 72 (some 5):=dF.row (by kernel_rfl) (by kernel_rfl)
theorem oY:Tryz.prog.underlying 69=some (.slice 72):=by kernel_rfl
theorem aFv:(Tryz.prog.info? 72).map (·.size)=some 5:=by kernel_rfl
theorem aK0 (parts:List (Nat × Value)):Tryz.prog.built 72 parts=Instr.fill ((#[(0,1),(1,4)]:Array (Nat × Nat))[·]?) #[.slice none 0 0,.bool false,.slice none 0 0,.bool false,.slice none 0 0] parts:=by kernel_rfl
theorem aWx (w:World):Dm.at (.rt (0:Rat).num (qd 0) 0) w (.agg [Value.bool false,.slice none 0 0,.bool false,.slice none 0 0].toArray) :=
 ⟨_,_,rfl,aL.nil (by decide),aL.nil (by decide),by decide,by decide⟩
section
variable {cx:Cx Dm} {n:Nat} {σ:St Dm} {o:Oper} {d:Nat}
theorem aQf (ho:o.op=.build 72 #[]) (hd:o.dst=some d) (hn:d<n):aM Tryz.prog cx n σ o [] [(.s d,.av (.one (EL [] 0 0 0)))]:=by
 refine eZ hd hn rfl fun σ' ρ a w h hk=>⟨.agg #[.slice none 0 0,.bool false,.slice none 0 0,.bool false,.slice none 0 0],?_,?_⟩
 ·have hb2:=run_build w 72 #[] _ (show Tryz.prog.built 72 (#[]:Array (Nat × Value)).toList=some #[.slice none 0 0,.bool false,.slice none 0 0,.bool false,.slice none 0 0] by rw[aK0]; kernel_rfl);simp only[execOp,ho,Sem.run_bind];rw[show (#[]:Array (Nat × Operand)).map (fun p=>(p.1,a.eval p.2))=#[] by simp,hb2];rfl
 ·intro w' _;exact⟨.slice none 0 0,[.bool false,.slice none 0 0,.bool false,.slice none 0 0],rfl,⟨none,0,rfl,⟨Nat.le_refl _,by decide⟩,fun h=>absurd h (Nat.lt_irrefl _)⟩,aWx w'⟩
theorem aQe {x y:Operand} {p:List Rat} {K J:Nat} {t:Rat} (ho:o.op=.build 72 #[(0,x),(1,y)]) (hd:o.dst=some d) (hn:d<n) (hx:opd σ x=.av (.one (PL p K))) (hy:opd σ y=.av (.one (RT t J))):aM Tryz.prog cx n σ o (bE x++bE y) [(.s d,.av (.one (EL p K t J)))]:=by
 refine eZ hd hn rfl fun σ' ρ a w h hk=>?_;have h1:=h.opd ((cL fun q hq=>hk q (by simp[hq])).trans hx);have h2:=h.opd ((cL fun q hq=>hk q (by simp[hq])).trans hy);obtain⟨ao,cap,hv,_⟩:=rJ (ρ:=ρ) (by decide) h1;obtain⟨cs,hv'⟩:∃ cs:List Value,a.eval y=.agg cs.toArray:=by
  obtain⟨s,t',e,_⟩:=h2 w (Agree.refl _ _);exact⟨_,e⟩
 have h2':∀ w',Agree (aT cx σ' ρ) w w'->Dm.at (.rt t.num (qd t) J) w' (.agg cs.toArray):=fun w' hag=>by rw[<- hv']; exact h2 w' hag
 obtain⟨b,m,c,b',m',c',rfl,_⟩:=gV (h2' w (Agree.refl _ _));refine⟨.agg #[.slice ao (bN p K).length cap,.bool (decide (t.num<0)),.slice b m c,.bool (decide (qd t<0)),.slice b' m' c'],?_,?_⟩
 ·have hb:Tryz.prog.built 72 #[(0,a.eval x),(1,a.eval y)].toList=some #[.slice ao (bN p K).length cap,.bool (decide (t.num<0)),.slice b m c,.bool (decide (qd t<0)),.slice b' m' c']:=by
   rw[hv,hv',aK0]
   kernel_rfl
  have hb2:=run_build w 72 #[(0,a.eval x),(1,a.eval y)] _ hb;simp only[execOp,ho,Sem.run_bind];rw[show (#[(0,x),(1,y)]:Array (Nat × Operand)).map (fun p=>(p.1,a.eval p.2))=#[(0,a.eval x),(1,a.eval y)] by simp,hb2];rfl
 ·intro w' hag;refine⟨_,_,rfl,?_,h2' w' hag⟩;have:=h1 w' hag;rw[hv] at this;exact this
end
theorem aBs (a:Rat) (K:Nat):aD Tryz.prog 52 [RT a K] (.one (RT (fP a) K)):=by
 refine aD.of (n:=9) Tryz.func52 rfl rfl rfl rfl rfl fun cx hfr=>?_;refine sr rfl ?_;refine p2 (cA (i:=0)) ?_;refine p2 (aU (i:=1) bX) ?_;refine RV.done ?_;refine CV.seq ?_;refine sr rfl ?_;refine p1 (aJ aB) ?_;refine xc (yR _ _) Tryz.func98 (xa rfl) hfr ?_;refine p1 (dU) ?_;refine RV.done ?_;refine CV.cond rfl (fun hc=>?_) (fun hc=>?_)
 ·refine sr rfl ?_;refine p1 (aJ aB) ?_;refine xc (wG _ _) Tryz.func100 (xa rfl) hfr ?_;refine p1 (aQ (aB).2) ?_;refine RV.done ?_;refine CV.ret ?_;have h0:a<0:=(by have:=of_decide_eq_true hc; exact aL9.1 this)
  exact aR rfl (.inr rfl) ⟨_,_,_,_,_,rfl,rfl,rfl,aB⟩ (jI (by rw[fP,if_pos h0]))
 ·refine CV.skip ?_;refine sr rfl ?_;refine p1 (aJ aB) ?_;refine p1 (aQ (aB).2) ?_;refine RV.done ?_;refine CV.ret ?_;have h0:¬ a<0:=(by have:=of_decide_eq_false hc; exact fun q=>this (aL9.2 q))
  exact aR rfl (.inr rfl) ⟨_,_,_,_,_,rfl,rfl,rfl,aB⟩ (jI (by rw[fP,if_neg h0]))
theorem aCs (l:List Rat) (K:Nat) (hl:l.length<=1000000) (h0:l≠[]):aD Tryz.prog 54 [PL l K] (.one (RT (aH l) K)):=by
 have hlp:=List.length_pos_iff.2 h0;refine aD.of (n:=8) Tryz.func54 rfl rfl rfl rfl rfl fun cx hfr=>?_;refine sr rfl ?_;refine p2 (aU (i:=0) bX) ?_;refine RV.done (sr rfl ?_);refine xm ?_;refine xm ?_;refine xc (pO _ _ hl) Tryz.func51 (xa rfl) hfr ?_;refine p1 (dB (k:=some 4) (i:=l.length-1) (eA (by omega)) aZ cG rfl rfl bd rfl (by rw[show ((l.length-1:Nat):Int)=(l.length:Int)-1 by omega]; rfl) (by decide)) ?_;refine p1 (bO aB) ?_;refine p1 (aQ (aB).2) ?_;refine RV.done ?_;refine CV.ret ?_;exact aR rfl (.inr rfl) ⟨_,_,_,_,_,rfl,rfl,rfl,aB⟩ cC
section
variable (p:List Rat) (t D:Rat) (B:Nat) (hB:B<=300000) (hp:p.length<=1000000) (h0:p≠[]) (h:gG B p (fP (aH p))=some D) (h1:aG [1/D] B=true) (h2:aG (aN p (1/D)) B=true) (h3:aG [t*D] B=true)
include hB hp h0 h h1 h2 h3
theorem aO8:aD Tryz.prog 95 [PL p B,RT t B] (.one (EL (aN p (1/D)) B (t*D) B)):=by
 have hlp:=List.length_pos_iff.2 h0;have e11:Rat.divInt 1 1=1:=by decide
 refine aD.of (n:=40) Tryz.func95 rfl rfl rfl rfl rfl fun cx hfr=>?_;refine sr rfl ?_;refine p2 (cA (i:=0)) ?_;refine p2 (aU (i:=1) rM) ?_;refine RV.done ?_;refine CV.seq ?_;refine sr rfl ?_;refine xm ?_;refine p1 (bJ bB aZ) ?_;refine p1 (cR) ?_;refine RV.done ?_;refine CV.cond rfl (fun hc=>False.elim (by have:=of_decide_eq_true hc; omega)) (fun hc=>?_);refine CV.skip ?_;refine sr rfl ?_;refine xm ?_;refine xc (aCs p B hp h0) Tryz.func54 (xa rfl) hfr ?_;refine xc (aBs _ _) Tryz.func52 (xa rfl) hfr ?_;refine p2 (aU (i:=2) bX) ?_;refine p1 (aQ (aB).2) ?_;refine RV.done ?_;refine CV.seq ?_;refine sr rfl ?_;refine xm ?_;refine p1 (bJ bB aZ) ?_;refine xm ?_;refine RV.done ?_;refine CV.block ?_;refine CV.loop (X:={s:Nat × Rat // s.1<=p.length/\gG B (p.drop s.1) s.2=some D}) (fun s=>[(.s 18,.av (.one (.v (.int .i64 (s.1.1:Int))))),(.s 17,.av (.one (.v (.int .i64 (p.length:Int))))),(.s 16,.av (.one (PL p B))),(.s 0,.av (.one (PL p B))),(.s 5,.av (.one (.ptr 2 0))),(.b 2,.blk 31 [(some 4,RT s.1.2 B)]),(.s 3,.av (.one (.ptr 0 0))),(.b 0,.blk 31 [(some 4,RT t B)]),(.s 4,.av (.one (.ptr 1 0))),(.b 1,.blk 72 [(some 5,.v (.agg #[.slice none 0 0,.bool false,.slice none 0 0,.bool false,.slice none 0 0]))])]) (fun s=>p.length-s.1.1) ⟨(0,fP (aH p)),Nat.zero_le _,h⟩ (bF.mk ⟨aC _,aC _,aC _,aC _,aC _,aC _,aC _,aC _,aC _,aC _,trivial⟩ rfl rfl) (fun s=>?_);obtain⟨⟨k,e⟩,hk,hs⟩:=s;simp only at hk hs |-;refine sr rfl ?_;refine p1 (dU) ?_;refine RV.done ?_;refine CV.seq ?_;refine CV.cond rfl (fun hc2=>?_) (fun hc2=>?_)
 ·have hlt:k<p.length:=(by have:=of_decide_eq_true hc2; omega)
  rw[aI0 hlt] at hs;obtain⟨o1,o2,o3⟩:=aHd hs;refine CV.skip ?_;refine CV.seq ?_;refine CV.block ?_;refine sr rfl ?_;refine p1 (dB (k:=some 4) (i:=k) (eA hlt) aZ cG) ?_;refine p1 (bO aB) ?_;refine p2 (aU (i:=3) bX) ?_;refine p1 (aQ (aB).2) ?_;refine RV.done (sr rfl ?_);refine p1 (aJ aB) ?_;refine p1 (aJ aB) ?_;refine xd rfl ((oO (p.getD k 0) e B B (by omega) (by omega)).mono (fun _ _ _ _ h=>h) (dT o1)) Tryz.func53 (xb rfl rfl) hfr ?_;refine xc (gW _ _) Tryz.func102 (xa rfl) hfr ?_;refine p2 (aU (i:=4) cX) ?_;refine p1 (aQ (aK).2) ?_;refine RV.done ?_;refine CV.region rfl (fun h=>nomatch h) ?_;refine p1 (aJ aB) ?_;refine p1 (aJ aK) ?_;refine p1 (aCb rfl rfl bd rfl) ?_;refine xd rfl ((oO e (wR ((p.getD k 0/e).den:Int)) B (B+3) (by omega) (by omega)).mono (fun _ _ _ _ h=>h) (dT o2)) Tryz.func53 (xb rfl rfl) hfr ?_;refine p1 (aQ (aB).2) ?_;refine RV.done ?_;refine CV.region rfl (fun h=>nomatch h) ?_;refine p1 (cJ (c:=((k+1:Nat):Int)) (by rw[bU (by omega) (by omega)]; omega) rfl rfl bd rfl rfl) ?_;refine xm ?_;refine RV.done ?_;exact⟨⟨(k+1,e/wR ((p.getD k 0/e).den:Int)),hlt,o3⟩,bF.mk ⟨aC _,aC _,aC _,aC _,aC _,aC _,aC _,aC _,aC _,aC _,trivial⟩ rfl rfl,by show p.length-(k+1)<p.length-k; omega⟩
 ·refine CV.exit ?_;refine CV.seq ?_;have hkp:k=p.length:=(by have:=of_decide_eq_false hc2; omega)
  rw[hkp,List.drop_length,gG] at hs;obtain rfl:=Option.some.inj hs;refine CV.region rfl (fun _=>by kernel_rfl) ?_;refine xm ?_;refine xd rfl ((oV 1 1 (by decide) (by decide) (by decide) (by decide)).mono (fun _ _ _ _ h=>h) (uM e11)) Tryz.func57 (xb rfl rfl) hfr ?_;refine p1 (aJ aB) ?_;refine xd rfl ((oO 1 e 6 B (by omega) (by omega)).mono (fun _ _ _ _ h=>h) (dT h1)) Tryz.func53 (xb rfl rfl) hfr ?_;refine xd rfl ((pN p (1/e) B B (by omega) (by omega) hp).mono (fun _ _ _ _ h=>h) (dJ h2)) Tryz.func38 (xb rfl rfl) hfr ?_;refine p1 (aJ aB) ?_;refine p1 (aJ aB) ?_;refine xd rfl ((nT t e B B (by omega) (by omega)).mono (fun _ _ _ _ h=>h) (dT h3)) Tryz.func87 (xb rfl rfl) hfr ?_;refine p1 (aQe rfl rfl bd rfl rfl) ?_;refine p1 (aQ (iR).2) ?_;refine bV (by kernel_rfl) ?_;refine CV.ret ?_;exact aR rfl (.inr rfl) ⟨_,_,_,_,_,rfl,rfl,rfl,iR⟩ cC
end
theorem aX3 (B:Nat):∀ L ρ w v,(EL [] 0 0 0).is L ρ w v->(AV.one (EL [] B 0 B)).is L ρ w v:=by
 intro L ρ w v h w' hag;obtain⟨s,c,h1,h2,h3⟩:=h w' hag;obtain⟨x,y,k1,k2,k3,k4,k5⟩:=h3;exact⟨s,c,h1,h2,x,y,k1,k2,k3,Nat.le_trans k4 (Nat.zero_le _),Nat.le_trans k5 (Nat.zero_le _)⟩
theorem aO9 (t:Rat) (K B:Nat):aD Tryz.prog 95 [PL [] B,RT t K] (.one (EL [] B 0 B)):=by
 refine aD.of (n:=40) Tryz.func95 rfl rfl rfl rfl rfl fun cx hfr=>?_;refine sr rfl ?_;refine p2 (cA (i:=0)) ?_;refine p2 (aU (i:=1) rM) ?_;refine RV.done ?_;refine CV.seq ?_;refine sr rfl ?_;refine xm ?_;refine p1 (bJ (m:=0) rfl aZ) ?_;refine p1 (cR) ?_;refine RV.done ?_;refine CV.cond rfl (fun hc=>?_) (fun hc=>False.elim (by revert hc; decide));refine sr rfl ?_;refine p1 (aQf rfl rfl bd) ?_;refine p1 (aQ (iR).2) ?_;refine RV.done ?_;refine CV.ret ?_;exact aR rfl (.inr rfl) ⟨_,_,_,_,_,rfl,rfl,rfl,iR⟩ (aX3 B)
theorem aB8 (p:List Rat) (t:Rat) (B:Nat) (R:List Rat) (T:Rat) (hB:B<=300000) (hp:p.length<=1000000) (h:gR B p t=some (R,T)):aD Tryz.prog 95 [PL p B,RT t B] (.one (EL R B T B)):=by
 unfold gR at h;split at h
 ·rename_i h0;subst h0;injection h with h;obtain⟨rfl,rfl⟩:=Prod.mk.inj h;exact aO9 t B B
 ·rename_i h0;obtain⟨D,h1,h⟩:=Option.bind_eq_some_iff.1 h;split at h
  ·rename_i h2;rw[Bool.and_eq_true,Bool.and_eq_true] at h2;injection h with h;obtain⟨rfl,rfl⟩:=Prod.mk.inj h;exact aO8 p t D B hB hp h0 h1 h2.1 h2.2.1 h2.2.2
  ·cases h
theorem aRv {B n:Nat} {a f F:Rat} (h:mJ B a (n+1) f=some F):aG [f*a] B=true/\mJ B a n (f*a)=some F:=by
 rw[mJ] at h;split at h
 ·rename_i h1;exact⟨h1,h⟩
 ·cases h
theorem aT0 {B:Nat} {a f F:Rat} (h:mJ B a 0 f=some F):f=F:=by
 rw[mJ] at h;exact Option.some.inj h
section
variable (p q U R0 R:List Rat) (s t f T:Rat) (B:Nat) (hB:B<=300000) (hp:p.length<=1000000) (hq:q.length<=1000000) (hr:R0.length<=1000000) (hq0:q≠[]) (h0:aG [(1:Rat)] B=true) (hf:mJ B (fP (aH q)) (p.length+1-q.length) 1=some f) (h1:aG [-f] B=true) (h2:aG (aN p (-f)) B=true) (h3:aG [s/f] B=true) (h4:dE B (aN p (-f)) q=some (U,R0)) (h5:gR B R0 (s/f)=some (R,T))
include hB hp hq hr hq0 h0 hf h1 h2 h3 h4 h5
theorem aQv:aD Tryz.prog 97 [EL p B s B,EL q B t B] (.one (EL R B T B)):=by
 have e11:Rat.divInt 1 1=1:=by decide
 have hsl:=kS p (-f);obtain⟨N,hN⟩:∃ N,N=p.length+1-q.length:=⟨_,rfl⟩
 rw[<- hN] at hf;refine aD.of (n:=43) Tryz.func97 rfl rfl rfl rfl rfl fun cx hfr=>?_;refine sr rfl ?_;refine p2 (cA (i:=0)) ?_;refine p2 (cA (i:=1)) ?_;refine p2 (aU (i:=2) rM) ?_;refine RV.done (sr rfl ?_);refine xd rfl ((oV 1 1 (by decide) (by decide) (by decide) (by decide)).mono (fun _ _ _ _ h=>h) (fun L ρ w v h=>dT h0 L ρ w v (uM e11 L ρ w v h))) Tryz.func57 (xb rfl rfl) hfr ?_;refine p2 (aU (i:=3) bX) ?_;refine p1 (aQ (aB).2) ?_;refine RV.done ?_;refine CV.seq ?_;refine sr rfl ?_;refine p1 (bH qH) ?_;refine p1 (bI 0 qE cQ) ?_;refine p1 (bJ bB aZ) ?_;refine p1 (bH qH) ?_;refine p1 (bI 0 qE cQ) ?_;refine p1 (bJ bB aZ) ?_;refine p1 (eB (c:=(p.length:Int)-q.length) (bU (by omega) (by omega)) rfl rfl bd rfl rfl) ?_;refine p1 (cJ (c:=(p.length:Int)-q.length+1) (bU (by omega) (by omega)) rfl rfl bd rfl rfl) ?_;refine xm ?_;refine RV.done ?_;refine CV.block ?_;refine CV.loop (X:={z:Nat × Rat // z.1<=N/\mJ B (fP (aH q)) (N-z.1) z.2=some f}) (fun z=>[(.s 17,.av (.one (.v (.int .i64 (z.1.1:Int))))),(.s 16,.av (.one (.v (.int .i64 ((p.length:Int)-q.length+1))))),(.s 2,.av (.one (.ptr 0 0))),(.b 0,.blk 72 [(some 5,EL p B s B)]),(.s 3,.av (.one (.ptr 1 0))),(.b 1,.blk 72 [(some 5,EL q B t B)]),(.s 4,.av (.one (.ptr 2 0))),(.b 2,.blk 72 [(some 5,.v (.agg #[.slice none 0 0,.bool false,.slice none 0 0,.bool false,.slice none 0 0]))]),(.s 5,.av (.one (.ptr 3 0))),(.b 3,.blk 31 [(some 4,RT z.1.2 B)])]) (fun z=>N-z.1.1) ⟨(0,1),Nat.zero_le _,hf⟩ (bF.mk ⟨aC _,aC _,aC _,aC _,aC _,aC _,aC _,aC _,aC _,aC _,trivial⟩ rfl rfl) (fun z=>?_);obtain⟨⟨k,e⟩,hk,hs⟩:=z;simp only at hk hs |-;refine sr rfl ?_;refine p1 (dU) ?_;refine RV.done ?_;refine CV.seq ?_;refine CV.cond rfl (fun hc=>?_) (fun hc=>?_)
 ·have hlt:k<N:=(by have:=of_decide_eq_true hc; omega)
  rw[show N-k=(N-(k+1))+1 by omega] at hs;obtain⟨o1,o2⟩:=aRv hs;refine CV.skip ?_;refine CV.seq ?_;refine CV.block ?_;refine CV.region rfl (fun _=>by kernel_rfl) ?_;refine p1 (aJ aB) ?_;refine p1 (bH qH) ?_;refine p1 (bI 0 qE cQ) ?_;refine xc (aCs q B hq hq0) Tryz.func54 (xa rfl) hfr ?_;refine xc (aBs _ _) Tryz.func52 (xa rfl) hfr ?_;refine xd rfl ((nT e (fP (aH q)) B B (by omega) (by omega)).mono (fun _ _ _ _ h=>h) (dT o1)) Tryz.func87 (xb rfl rfl) hfr ?_;refine p1 (aQ (aB).2) ?_;refine bV (by kernel_rfl) ?_;refine CV.region rfl (fun h=>nomatch h) ?_;refine p1 (cJ (c:=((k+1:Nat):Int)) (by rw[bU (by omega) (by omega)]; omega) rfl rfl bd rfl rfl) ?_;refine xm ?_;refine RV.done ?_;exact⟨⟨(k+1,e*fP (aH q)),hlt,o2⟩,bF.mk ⟨aC _,aC _,aC _,aC _,aC _,aC _,aC _,aC _,aC _,aC _,trivial⟩ rfl rfl,by show N-(k+1)<N-k; omega⟩
 ·refine CV.exit ?_;refine CV.seq ?_;have hkN:k=N:=(by have:=of_decide_eq_false hc; omega)
  rw[hkN,Nat.sub_self] at hs;obtain rfl:=aT0 hs;refine CV.region rfl (fun _=>by kernel_rfl) ?_;refine p1 (bH qH) ?_;refine p1 (bI 0 qE cQ) ?_;refine p1 (aJ aB) ?_;refine xc (wG _ _) Tryz.func100 (xa rfl) hfr ?_;refine xd rfl ((pN p (-e) B B (by omega) (by omega) hp).mono (fun _ _ _ _ h=>h) (dJ h2)) Tryz.func38 (xb rfl rfl) hfr ?_;refine p1 (bH qH) ?_;refine p1 (bI 0 qE cQ) ?_;refine xd rfl (zL (aN p (-e)) q B hB (by omega) hq h4) Tryz.func134 (xb rfl rfl) hfr ?_;refine xm ?_;refine p1 (cK) ?_;refine p1 (cK) ?_;refine xn ?_;refine xn ?_;refine bV (by kernel_rfl) ?_;refine sr rfl ?_;refine xm ?_;refine p1 (bH aNf) ?_;refine p1 (bI 1 aNe aB) ?_;refine p1 (aJ aB) ?_;refine xd rfl ((oO s e B B (by omega) (by omega)).mono (fun _ _ _ _ h=>h) (dT h3)) Tryz.func53 (xb rfl rfl) hfr ?_;refine xc (aB8 R0 (s/e) B R T hB hr h5) Tryz.func95 (xb rfl rfl) hfr ?_;refine p1 (aQ (iR).2) ?_;refine RV.done ?_;refine CV.ret ?_;exact aR rfl (.inr rfl) ⟨_,_,_,_,_,rfl,rfl,rfl,iR⟩ cC
end
theorem aSx (p q R:List Rat) (s t T:Rat) (B:Nat) (hB:B<=300000) (hp:p.length<=1000000) (hq:q.length<=1000000) (hq0:q≠[]) (h0:aG [(1:Rat)] B=true) (h:oD B (p,s) (q,t)=some (R,T)) (hr:∀ U R0 f,dE B (aN p (-f)) q=some (U,R0)->R0.length<=1000000):aD Tryz.prog 97 [EL p B s B,EL q B t B] (.one (EL R B T B)):=by
 unfold oD at h;obtain⟨f,h1,h⟩:=Option.bind_eq_some_iff.1 h;split at h
 ·rename_i h2;rw[Bool.and_eq_true,Bool.and_eq_true] at h2;obtain⟨⟨U,R0⟩,h3,h⟩:=Option.bind_eq_some_iff.1 h;exact aQv p q U R0 R s t f T B hB hp hq (hr U R0 f h3) hq0 h0 h1 h2.1 h2.2.1 h2.2.2 h3 h
 ·cases h
section
variable (p:List Rat) (K B k:Nat) (hp:p.length<=100000) (hK:K<=1000000) (hk:k<p.length-1)
include hp hk hK
end
section
variable (p:List Rat) (K B:Nat) (hp:p.length<=100000) (hK:K<=1000000)
include hp hK
end
theorem aSq:Rat.divInt (-1) 1 = -1:=by decide +kernel
theorem aVw (p q:List Rat):fC p (aN q (Rat.divInt (-1) 1))=fN p q:=jF (cF _) (cF _) fun x=>by rw[jZ,cB,lM,aSq]; grind
theorem aPa (q:List Rat) (a:Rat):(aN q a).length<=q.length:=kS q a
theorem aRm (p q:List Rat) (j K:Nat) (hj:j<=1000000) (hK:K<=300000) (hp:p.length<=1000000) (hq:q.length<=1000000):aD Tryz.prog 93 [PL p j,PL q K] (.one (PL (fN p q) (3*(j+(3*(K+6)+20))+20))):=by
 have hsl:=aPa q (Rat.divInt (-1) 1);refine aD.of (n:=10) Tryz.func93 rfl rfl rfl rfl rfl fun cx hfr=>?_;refine sr rfl ?_;refine xn ?_;refine RV.done (sr rfl ?_);refine xm ?_;refine xm ?_;refine xd rfl (nR (-1) 1 (by decide) (by decide) (by decide) (by decide)) Tryz.func32 (xb rfl rfl) hfr ?_;refine xd rfl (aBx q (Rat.divInt (-1) 1) K 6 (by omega) (by decide) hq) Tryz.func46 (xb rfl rfl) hfr ?_;refine xd rfl (aIc p (aN q (Rat.divInt (-1) 1)) j (3*(K+6)+20) hj (by omega) hp (by omega)) Tryz.func92 (xb rfl rfl) hfr ?_;refine xn ?_;refine RV.done ?_;refine CV.ret ?_;exact aR rfl (.inr rfl) rfl (jI (by rw[aVw]))
theorem aGk (p:List Rat) (K:Nat) (hK:K<=1000000) (hp:p.length<=1000000):aD Tryz.prog 44 [PL p K] (.one (PL (cD p) (3*(K+6)+20))):=by
 refine aD.of (n:=23) Tryz.func44 rfl rfl rfl rfl rfl fun cx hfr=>?_;refine sr rfl ?_;refine xn ?_;refine RV.done (sr rfl ?_);refine xn ?_;refine RV.done ?_;refine CV.seq ?_;refine CV.seq ?_;refine oL 3 100 31 (some 4) rfl rfl rfl rfl ?_;refine CV.region rfl (fun h=>nomatch h) ?_;refine xn ?_;refine RV.done ?_;refine CV.block ?_;refine CV.loop (X:={k:Nat // k<=p.length-1}) (fun k=>[(.s 4,.av (.one (.v (.int .i64 ((k.1+1:Nat):Int))))),(.s 3,.av (.one (.sl 100 k.1))),(.b 100,.row 31 (some 4) (iB (fun i=>p.getD (i+1) 0*((i+1:Nat):Rat)) (3*(K+6)+20) k.1)),(.s 0,.av (.one (PL p K)))]) (fun k=>p.length-k.1) ⟨0,Nat.zero_le _⟩ (bF.mk ⟨aC _,aC _,eO rfl,aC _,trivial⟩ rfl rfl) (fun k=>?_);obtain⟨k,hk⟩:=k;simp only;refine CV.seq ?_;refine sr rfl ?_;refine xm ?_;refine xm ?_;refine p1 (bJ bB aZ) ?_;refine p1 (dU) ?_;refine RV.done ?_;refine CV.cond rfl (fun hc=>?_) (fun hc=>?_)
 ·have hlt:k+1<p.length:=(by have:=of_decide_eq_true hc; omega)
  refine CV.skip ?_;refine CV.seq ?_;refine CV.block ?_;refine CV.region rfl (fun _=>by kernel_rfl) ?_;refine xm ?_;refine xm ?_;refine xm ?_;refine p1 (dB (k:=some 4) (i:=k+1) (eA hlt) aZ cG) ?_;refine p1 (bO aB) ?_;refine xm ?_;refine xd rfl ((nR ((k+1:Nat):Int) 1 (by omega) (by omega) (by decide) (by decide)).mono (fun _ _ _ _ h=>h) (by rw[aHp]; exact fun _ _ _ _ h=>h)) Tryz.func32 (xb rfl rfl) hfr ?_;refine xd rfl (aCu (p.getD (k+1) 0) ((k+1:Nat):Rat) K 6 hK (by decide)) Tryz.func89 (xb rfl rfl) hfr ?_;refine p1 (fZ (G:=Dm.gen (bY (some 4) [_])) (cM _ _) dC mU rfl rfl rfl (by intro s hs; obtain rfl:=List.mem_singleton.1 hs; rfl) rfl rfl rfl bd (xa rfl)) ?_;refine iN (aM.plain (mA (r:=100) (r':=101) (iZ (by decide) rfl) (by rw[fU]; show (k+1)*64<=_; omega) (by rw[fU]; show k+1<=_; omega) dC iO rfl rfl rfl (by intro x hx; obtain rfl:=List.mem_singleton.1 hx; rfl) fU.symm rfl rfl bd rfl rfl rfl rfl rfl rfl rfl rfl) rfl) ?_;refine xn ?_;refine bV (by kernel_rfl) ?_;refine CV.region rfl (fun h=>nomatch h) ?_;refine xm ?_;refine p1 (cJ (c:=((k+1+1:Nat):Int)) (by rw[bU (by omega) (by omega)]; omega) rfl rfl bd rfl rfl) ?_;refine xn ?_;refine RV.done ?_;exact⟨⟨k+1,by omega⟩,jX (fun i=>if i=100 then 101 else i) ⟨fK,lJ rfl rfl,eO (sX (f:=fun i=>p.getD (i+1) 0*((i+1:Nat):Rat))),fK,trivial⟩ rfl rfl rfl rfl,by show p.length-(k+1)<p.length-k; omega⟩
 ·refine CV.exit ?_;refine CV.seq ?_;have hk1:k=p.length-1:=(by have:=of_decide_eq_false hc; omega)
  subst hk1;rw[pR];refine jU (r:=100) (t:=3) (G:=Dm.gen (bY (some 4) (bN (tab (fun i=>p.getD (i+1) 0*((i+1:Nat):Rat)) (p.length-1)) (3*(K+6)+20)))) (cx.bw hfr) rfl rfl (by rw[bB,eX]) rfl rfl (cM _ _) (iF _ _) ?_;refine CV.region rfl (fun h=>nomatch h) ?_;refine xm ?_;refine xd rfl (lD _ _ (by rw[eX]; omega)) Tryz.func12 (xa rfl) hfr ?_;refine xn ?_;refine RV.done ?_;refine CV.ret ?_;exact aR rfl (.inr rfl) rfl cC
theorem aN5 (p:List Rat):aN p (Rat.divInt 1 1/p.getD (p.length-1) 0)=aX p:=by
 rw[aX,show (Rat.divInt 1 1)=1 by decide +kernel];rfl
theorem aPh (K B:Nat):aD Tryz.prog 91 [PL [] K] (.one (PL [] B)):=by
 refine aD.of (n:=16) Tryz.func91 rfl rfl rfl rfl rfl fun cx hfr=>?_;refine sr rfl ?_;refine xn ?_;refine RV.done ?_;refine CV.seq ?_;refine sr rfl ?_;refine xm ?_;refine p1 (bJ bB aZ) ?_;refine p1 (cR) ?_;refine RV.done ?_;refine CV.cond rfl (fun hc=>?_) (fun hc=>False.elim (by exact absurd hc (by decide)));refine sr rfl ?_;refine xn ?_;refine RV.done ?_;refine CV.ret ?_;exact aR rfl (.inr rfl) rfl (fun L ρ w v h=>qC L ρ w v h)
section
variable (p:List Rat) (K B:Nat) (hK:K<=100000) (hp:p.length<=1000000) (h0:p≠[]) (hs:aG (aX p) B=true)
include hK hp h0 hs
theorem aPg:aD Tryz.prog 91 [PL p K] (.one (PL (aX p) B)):=by
 have hpl:=List.length_pos_iff.2 h0;refine aD.of (n:=16) Tryz.func91 rfl rfl rfl rfl rfl fun cx hfr=>?_;refine sr rfl ?_;refine xn ?_;refine RV.done ?_;refine CV.seq ?_;refine sr rfl ?_;refine xm ?_;refine p1 (bJ bB aZ) ?_;refine p1 (cR) ?_;refine RV.done ?_;refine CV.cond rfl (fun hc=>False.elim (by rw[beq_iff_eq] at hc; omega)) (fun hc=>?_);refine CV.skip ?_;refine CV.seq ?_;refine CV.region rfl (fun _=>by kernel_rfl) ?_;refine xm ?_;refine xd rfl (nR 1 1 (by decide) (by decide) (by decide) (by decide)) Tryz.func32 (xb rfl rfl) hfr ?_;refine xm ?_;refine xm ?_;refine p1 (bJ bB aZ) ?_;refine p1 (eB (c:=((p.length-1:Nat):Int)) (by rw[bU (by omega) (by omega)]; omega) rfl rfl bd rfl rfl) ?_;refine p1 (dB (k:=some 4) (i:=p.length-1) (eA (by omega)) aZ cG rfl rfl bd rfl rfl (by decide)) ?_;refine p1 (bO aB) ?_;refine xd rfl (aH8 (Rat.divInt 1 1) (p.getD (p.length-1) 0) 6 K (by decide) (by omega)) Tryz.func58 (xb rfl rfl) hfr ?_;refine xd rfl ((aBx p (Rat.divInt 1 1/p.getD (p.length-1) 0) K (3*(6+K)+20) (by omega) (by omega) hp).mono (fun _ _ _ _ h=>h) (dJ (B:=B) (by rw[aN5 p]; exact hs))) Tryz.func46 (xb rfl rfl) hfr ?_;refine xn ?_;refine bV (by kernel_rfl) ?_;refine CV.ret ?_;exact aR rfl (.inr rfl) rfl (jI (by rw[aN5 p]))
end
theorem xW (p:List Rat) (K B:Nat) (hK:K<=100000) (hp:p.length<=1000000) (hs:aG (aX p) B=true):aD Tryz.prog 91 [PL p K] (.one (PL (aX p) B)):=by
 by_cases h0:p=[]
 ·subst h0;exact aPh K B
 ·exact aPg p K B hK hp h0 hs
section
variable (p:List Rat) (x:Rat) (K Kx B:Nat) (hK:K<=100000) (hKx:Kx<=100000) (hB:B<=100000) (hp:p.length<=1000000) (hs:∀ k,k<=p.length->aG [qN p x k] B=true) (hw:∀ k,k<=p.length->aG [pw x k] B=true)
include hK hKx hB hp hs hw
end
theorem aEw {k:Nat}:(eL id k).length=k:=yE _ _
section
variable (p:List Rat) (x:Rat) (K Kx B:Nat) (hK1:1<=K) (hKx1:1<=Kx) (hp:p.length<=1000) (hB:B<=300) (hK:K<=B) (hKx:Kx<=B) (hl:p.length<=20) (hpz:aG p K=true) (hxz:aG [x] Kx=true) (hs:∀ m,m<=p.length->aG (eR p x (eL id m)) B=true)
include hK1 hKx1 hB hK hKx hl hpz hxz hs hp
end
/-! Div. -/
theorem aL4 {u:List (Option Rat)} {B:Nat} (h:aG (cV u) B=true) {s:Nat} {a:Rat} (ha:aG [a] B=true):aG (cV (u.set s (some a))) B=true:=by
 unfold cV at *;rw[List.map_set];exact aMq h ha
theorem aRz {k:Nat} {m:Rat} (h:m≠0):aI (eE k [m])=eE k [m]:=by
 unfold eE;rw[qX,if_neg h]
theorem aDh {k:Nat} {m:Rat}:(eE k [m]).length=k+1:=by simp[eE]
theorem aT4 {k:Nat} {m:Rat} {B:Nat}:(List.replicate (k+1) (SA.v dR:SA Dm)).set k (RT m B)=List.replicate k (SA.v dR)++[RT m B]:=by
 rw[List.replicate_succ',List.set_append_right _ _ (by rw[List.length_replicate]; exact Nat.le_refl _),List.length_replicate,Nat.sub_self];rfl
theorem aV9 {k:Nat} {m:Rat} {B:Nat}:∀ L ρ w v,(SA.d (Dm.gen (bY (some 4) (List.replicate k (SA.v dR)++[RT m B])))).is L ρ w v->(PL (eE k [m]) B).is L ρ w v:=by
 refine aAm ?_;have:∀ k:Nat,fQ (fun s s':SA Dm=>∀ w v,s.at w v->s'.at w v) (List.replicate k (SA.v dR)++[RT m B]) (bN (eE k [m]) B):=by
  intro k
  induction k with
  | zero=>exact .cons (fun _ _ h=>h) .nil
  | succ k ih =>
   rw[List.replicate_succ,List.cons_append];show fQ _ _ (bN (List.replicate (k+1) 0++[m]) B);rw[List.replicate_succ,List.cons_append];refine .cons (fun w v hv=>?_) ih;obtain rfl:v=dR:=hv;have h0:(aA (0:Int).natAbs).length<=B:=by rw[show (0:Int).natAbs=0 from rfl,fY]; exact Nat.zero_le _
   exact⟨_,_,rfl,aL.nil (by decide),aL.nil (by decide),h0,h0⟩
 exact this k
theorem aDp {p q:List Rat} {i:Nat} (hz:p.getD i 0=0):∀ (j:Nat) (l:List Rat),(∀ k,l.getD k 0=0)->∀ k,(gS p q i j l).getD k 0=0
 | 0,l,h,k=>h k
 | j+1,l,h,k=>by
  have ih:=aDp (q:=q) hz j l h;rw[gS,ih,hz,Rat.zero_mul,Rat.add_zero];rw[List.getD_eq_getElem?_getD,List.getElem?_set];have:=ih k;rw[List.getD_eq_getElem?_getD] at this;split
  ·split<;>rfl
  ·exact this
theorem aLd {l:List Rat} {B:Nat} (h:∀ k,aG [l.getD k 0] B=true):aG l B=true:=pW fun a ha=>by
 obtain⟨i,hi,rfl⟩:=List.getElem_of_mem ha;have:=h i;rw[List.getD_eq_getElem?_getD,List.getElem?_eq_getElem hi] at this;exact this
theorem aDg {q:List Rat} {k:Nat} {m:Rat}:∀ i,i<=k->∀ j,(gJ (eE k [m]) q i).getD j 0=0
 | 0,_,j=>by
  rw[gJ,List.getD_eq_getElem?_getD,List.getElem?_replicate];split<;>rfl
 | i+1,h,j=>by
  rw[gJ];exact aDp (by rw[zT,if_pos (by omega)]) _ _ (aDg i (by omega)) j
theorem aJ1 {q:List Rat} {k:Nat} {m:Rat} {C:Nat} (hC:∀ j,aG [m*q.getD j 0] C=true) (l:List Rat) (hl:∀ j,l.getD j 0=0):∀ j,j<=q.length->(∀ i,aG [(gS (eE k [m]) q k j l).getD i 0] C=true)/\∀ i,k+j<=i->(gS (eE k [m]) q k j l).getD i 0=0
 | 0,_=>⟨fun i=>by rw[gS,hl]; exact pS,fun i _=>hl i⟩
 | j+1,h=>by
  obtain⟨h1,h2⟩:=aJ1 hC l hl j (by omega);have e:(eE k [m]).getD k 0=m:=by rw[zT,if_neg (by omega),Nat.sub_self]; rfl
  rw[gS,h2 (k+j) (Nat.le_refl _),Rat.zero_add,e];refine⟨fun i=>?_,fun i hi=>?_⟩
  ·rw[List.getD_eq_getElem?_getD,List.getElem?_set];split
   ·split
    ·exact hC j
    ·exact pS
   ·have:=h1 i;rw[List.getD_eq_getElem?_getD] at this;exact this
  ·rw[List.getD_eq_getElem?_getD,List.getElem?_set,if_neg (by omega),<- List.getD_eq_getElem?_getD];exact h2 i (by omega)
theorem aWa {q:List Rat} {k:Nat} {m:Rat} {C:Nat} (hC:∀ j,aG [m*q.getD j 0] C=true) (i j:Nat) (hi:i<(eE k [m]).length) (hj:j<=q.length):aG (gS (eE k [m]) q i j (gJ (eE k [m]) q i)) C=true:=by
 rw[aDh] at hi;refine aLd fun n=>?_;by_cases h:i=k
 ·subst h;exact(aJ1 hC _ (aDg i (Nat.le_refl _)) j hj).1 n
 ·rw[aDp (by rw[zT,if_pos (by omega)]) _ _ (aDg i (by omega))];exact pS
theorem aYw {u:List (Option Rat)} {k:Nat} {m:Rat} (hk:k<u.length) (hn:u.getD k none=none):fC (aI (cV u)) (eE k [m])=aI (cV (u.set k (some m))):=by
 refine jF (cF _) (cF _) fun x=>?_;rw[jZ,mF,mF,aEv hk hn,wV,ev,ev];grind
theorem aYu {r q:List Rat} (hl:q.length<=r.length) (h0:0<q.length) (hq:aH q≠0):fN r (iS (eE (r.length-q.length) [aH r/aH q]) q)=dW r q (aH r/aH q):=by
 refine jF (cF _) (cF _) fun x=>?_;rw[lM,aLz,wV,ev,ev,aAp hl h0 (by rw[Rat.div_def,Rat.mul_assoc,Rat.inv_mul_cancel _ hq,Rat.mul_one])];grind
theorem aTm {p q:List Rat} (hp:p≠[]) (hq:q≠[]):aI (gJ p q p.length)=iS p q:=by
 rw[iS,if_neg (by rintro(h | h); exact hp h; exact hq h)]
theorem aT6 {u:List (Option Rat)}:(cV u).length=u.length:=by simp[cV]
theorem aTr {r q:List Rat} (hr:aH r≠0) (hq:aH q≠0):aH r/aH q≠0:=by
 rw[Rat.div_def];intro h;rcases Rat.mul_eq_zero.1 h with h | h
 ·exact hr h
 ·exact hq (by rw[<- Rat.inv_inv (aH q),h,Rat.inv_zero])
theorem aPi (p:List Rat) (K B:Nat):aD Tryz.prog 45 [PL p K,PL [] B] (.tup [PL [] B,PL [] B]):=by
 refine aD.of (n:=56) Tryz.func45 rfl rfl rfl rfl rfl fun cx hfr=>?_;refine sr rfl ?_;refine xn ?_;refine xn ?_;refine RV.done ?_;refine CV.seq ?_;refine sr rfl ?_;refine xm ?_;refine p1 (bJ bB aZ) ?_;refine p1 (cR) ?_;refine RV.done ?_;refine CV.cond rfl (fun hc=>?_) (fun hc=>False.elim (by exact absurd hc (by decide)));refine sr rfl ?_;refine xn ?_;refine xn ?_;refine RV.done ?_;refine CV.ret ?_;exact pB rfl (.inr rfl) rfl rfl (aAa qC qC)
section
variable (p q:List Rat) (B:Nat) (U:List (Option Rat)) (R:List Rat) (hB1:1<=B) (hB:B<=100000) (hp:p.length<=1000) (hq:q.length<=1000) (hq0:q≠[]) (tp:aI p=p) (tq:aI q=q) (hqz:aG q B=true) (h:iT B q (p.length+2) (List.replicate (p.length+1-q.length) none) p=some (U,R))
include hB1 hB hp hq hq0 tp tq hqz h
theorem aRs:aD Tryz.prog 45 [PL p B,PL q B] (.tup [PL (aI (cV U)) B,PL R B]):=by
 have hql:0<q.length:=List.length_pos_iff.2 hq0;have hlq:=fA tq hq0;have hnone:∀ i,(List.replicate (p.length+1-q.length) (none:Option Rat)).getD i none=none:=(fun i=>by rw[List.getD_eq_getElem?_getD,List.getElem?_replicate]; split<;>rfl)
 have hz0:aG (cV (List.replicate (p.length+1-q.length) none)) B=true:=aLd fun k=>by rw[yN]; exact pS
 have ht0:aI (cV (List.replicate (p.length+1-q.length) none))=[]:=aDl (yN _);refine aD.of (n:=56) Tryz.func45 rfl rfl rfl rfl rfl fun cx hfr=>?_;refine sr rfl ?_;refine xn ?_;refine xn ?_;refine RV.done ?_;refine CV.seq ?_;refine sr rfl ?_;refine xm ?_;refine p1 (bJ bB aZ) ?_;refine p1 (cR) ?_;refine RV.done ?_;refine CV.cond rfl (fun hc=>False.elim (by rw[beq_iff_eq] at hc; omega)) (fun hc=>?_);refine CV.skip ?_;refine sr rfl ?_;refine xn ?_;refine RV.done (sr rfl ?_);refine xm ?_;refine xn ?_;refine RV.done ?_;refine CV.seq ?_;refine CV.block ?_;refine CV.loop (X:={s:Nat × List (Option Rat) × List Rat // iT B q s.1 s.2.1 s.2.2=some (U,R)/\s.2.1.length=p.length+1-q.length/\s.2.2.length<=p.length/\aI s.2.2=s.2.2/\aG (cV s.2.1) B=true/\∀ i,i<=s.2.2.length-q.length->q.length<=s.2.2.length->s.2.1.getD i none=none}) (fun s=>[(.s 7,.av (.one (PL s.1.2.2 B))),(.s 6,.av (.one (PL (aI (cV s.1.2.1)) B))),(.s 1,.av (.one (PL q B)))]) (fun s=>s.1.2.2.length) ⟨(p.length+2,List.replicate (p.length+1-q.length) none,p),h,by rw[List.length_replicate],Nat.le_refl _,tp,hz0,fun i _ _=>hnone i⟩ (bF.mk ⟨aC _,aD5 rfl (fun L ρ w v h=>by show (PL (aI (cV (List.replicate (p.length+1-q.length) none))) B).is L ρ w v; rw[ht0]; exact qC L ρ w v h),aC _,trivial⟩ rfl rfl) (fun s=>?_);obtain⟨⟨n,u,r⟩,hs,hu,hr,tr,hz,hn⟩:=s;simp only at hs hu hr tr hz hn |-;refine CV.seq ?_;refine sr rfl ?_;refine xm ?_;refine p1 (bJ bB aZ) ?_;refine xm ?_;refine p1 (bJ bB aZ) ?_;refine p1 (rZ) ?_;refine RV.done ?_;refine CV.cond rfl (fun hc=>?_) (fun hc=>?_)
 ·have hle:q.length<=r.length:=(by have:=of_decide_eq_true hc; omega)
  obtain⟨m,hs1,hs2,hs3⟩:=aI2 hs hle;have hrl:=zU r q (aH r/aH q);have hr0:r≠[]:=(fun e=>by rw[e,List.length_nil] at hle; omega)
  have hlr:=fA tr hr0;have hm0:=aTr hlr hlq;have hku:r.length-q.length<u.length:=(by omega)
  have hadd:=aYw (m:=aH r/aH q) hku (hn _ (Nat.le_refl _) hle);have hsub:=aYu hle hql hlq;have hpn:eE (r.length-q.length) [aH r/aH q]≠[]:=(fun e=>by have:=congrArg List.length e; rw[aDh] at this; cases this)
  have hmul:=aTm hpn hq0;have hrml:=aCt (eE (r.length-q.length) [aH r/aH q]) q;have hpl:=aDh (k:=r.length-q.length) (m:=aH r/aH q);refine CV.skip ?_;refine CV.block ?_;refine sr rfl ?_;refine xm ?_;refine p1 (bJ bB aZ) ?_;refine xm ?_;refine p1 (bJ bB aZ) ?_;refine p1 (eB (c:=((r.length-q.length:Nat):Int)) (by rw[bU (by omega) (by omega)]; omega) rfl rfl bd rfl rfl) ?_;refine xn ?_;refine RV.done (sr rfl ?_);refine xm ?_;refine p1 (cJ (c:=((r.length-q.length+1:Nat):Int)) (by rw[bU (by omega) (by omega)]; omega) rfl rfl bd rfl rfl) ?_;refine p2 (wH (r:=27) (Nat.le_refl _) (by omega) (by omega) dC iO rfl rfl rfl rfl bd rfl rfl rfl rfl rfl) ?_;refine xn ?_;refine RV.done ?_;refine CV.seq ?_;refine CV.region rfl (fun _=>by kernel_rfl) ?_;refine xm ?_;refine xm ?_;refine xm ?_;refine xm ?_;refine p1 (bJ bB aZ) ?_;refine p1 (eB (c:=((r.length-1:Nat):Int)) (by rw[bU (by omega) (by omega)]; omega) rfl rfl bd rfl rfl) ?_;refine p1 (dB (k:=some 4) (i:=r.length-1) (eA (by omega)) aZ cG rfl rfl bd rfl rfl (by decide)) ?_;refine p1 (bO aB) ?_;refine xm ?_;refine xm ?_;refine p1 (bJ bB aZ) ?_;refine p1 (eB (c:=((q.length-1:Nat):Int)) (by rw[bU (by omega) (by omega)]; omega) rfl rfl bd rfl rfl) ?_;refine p1 (dB (k:=some 4) (i:=q.length-1) (eA (by omega)) aZ cG rfl rfl bd rfl rfl (by decide)) ?_;refine p1 (bO aB) ?_;refine xd rfl ((aH8 (aH r) (aH q) B B (by omega) (by omega)).mono (fun _ _ _ _ h=>h) (dT hs1)) Tryz.func58 (xb rfl rfl) hfr ?_;refine p1 (mP (i:=r.length-q.length) (by omega) (by rw[List.length_replicate]; omega) dC cG rfl rfl bd rfl rfl rfl) ?_;refine p1 (sZ (i:=r.length-q.length) (by rw[List.length_replicate]; omega) (by show 0<4; decide) cG (.inl rfl) rfl rfl rfl rfl rfl rfl rfl rfl rfl) ?_;refine bV (by kernel_rfl) ?_;refine CV.seq ?_;rw[aT4];refine jU (r:=27) (t:=9) (G:=Dm.gen (bY (some 4) (List.replicate (r.length-q.length) (SA.v dR)++[RT (aH r/aH q) B]))) (cx.bw hfr) rfl rfl (by rw[List.length_append,List.length_replicate]; rfl) rfl rfl (cM _ _) (iF _ _) ?_;refine CV.region rfl (fun h=>nomatch h) ?_;refine xm ?_;refine xd rfl ((lD (eE (r.length-q.length) [aH r/aH q]) B (by omega)).mono (fun _ _ _ _ h=>h) (fun L ρ w v h=>by rw[aRz hm0] at h; exact h)) Tryz.func12 (.cons rfl ⟨rfl,aV9⟩ .nil) hfr ?_;refine xn ?_;refine RV.done (sr rfl ?_);refine xm ?_;refine xm ?_;refine xd rfl ((aIc (aI (cV u)) (eE (r.length-q.length) [aH r/aH q]) B B (by omega) (by omega) (by have:=iL (cV u); rw[aT6] at this; omega) (by omega)).mono (fun _ _ _ _ h=>h) (dJ (B:=B) (by rw[hadd]; exact pT (aL4 hz hs1)))) Tryz.func92 (xb rfl rfl) hfr ?_;refine xn ?_;refine RV.done ?_;refine CV.region rfl (fun h=>nomatch h) ?_;refine xm ?_;refine xm ?_;refine xm ?_;refine xd rfl (aIb (eE (r.length-q.length) [aH r/aH q]) q B B (2*B) (by omega) (by omega) hpn hq0 (by omega) (by omega) (by omega) (aWa (fun j=>by rw[Nat.two_mul]; exact aAk hB1 hB1 hs1 (oQ hqz j)))) Tryz.func42 (xb rfl rfl) hfr ?_;refine xd rfl ((aRm r (aI (gJ (eE (r.length-q.length) [aH r/aH q]) q (eE (r.length-q.length) [aH r/aH q]).length)) B (2*B) (by omega) (by omega) (by omega) (by rw[hmul]; omega)).mono (fun _ _ _ _ h=>h) (dJ (B:=B) (by rw[hmul,hsub]; exact hs2))) Tryz.func93 (xb rfl rfl) hfr ?_;refine xn ?_;refine RV.done ?_;exact⟨⟨(m,u.set (r.length-q.length) (some (aH r/aH q)),dW r q (aH r/aH q)),hs3,by rw[List.length_set]; exact hu,by show (dW r q (aH r/aH q)).length<=p.length; omega,yY _ _ _,aL4 hz hs1,fun i hi hi2=>by have hi:i<=(dW r q (aH r/aH q)).length-q.length:=hi; have hi2:q.length<=(dW r q (aH r/aH q)).length:=hi2; rw[tX hku,if_neg (by omega)]; exact hn i (by omega) hle⟩,bF.mk ⟨by rw[hmul,hsub]; exact aC _,by rw[hadd]; exact aC _,aC _,trivial⟩ rfl rfl,by show (dW r q (aH r/aH q)).length<r.length; omega⟩
 ·refine CV.exit ?_;refine CV.seq ?_;have hX:=aKs hs (by have:=of_decide_eq_false hc; omega);obtain⟨rfl,rfl⟩:U=u/\R=r:=(Prod.mk.inj hX)
  refine CV.region rfl (fun h=>nomatch h) ?_;refine xm ?_;refine xm ?_;refine xn ?_;refine xn ?_;refine RV.done ?_;refine CV.ret ?_;exact pB rfl (.inr rfl) rfl rfl (aAa (fun _ _ _ _ h=>h) (fun _ _ _ _ h=>h))
end
theorem aCw (p q:List Rat) (B:Nat) {U R:List Rat} (hB1:1<=B) (hB:B<=100000) (hp:p.length<=1000) (hq:q.length<=1000) (tp:aI p=p) (tq:aI q=q) (hqz:aG q B=true) (h:dE B p q=some (U,R)):aD Tryz.prog 45 [PL p B,PL q B] (.tup [PL (aI U) B,PL R B]):=by
 unfold dE at h;by_cases h0:q=[]
 ·rw[if_pos h0] at h;injection h with h;obtain⟨rfl,rfl⟩:=Prod.mk.inj h;subst h0;exact aPi p B B
 ·rw[if_neg h0] at h;obtain⟨⟨u,r⟩,h1,h2⟩:=Option.map_eq_some_iff.1 h;obtain⟨rfl,rfl⟩:=Prod.mk.inj h2;exact aRs p q B u r hB1 hB hp hq h0 tp tq hqz h1
theorem aP4 {B n:Nat} {p q G:List Rat} (h:kC B n p q=some G) (hl:0<q.length):∃ m U R,dE B p q=some (U,R)/\aG (aX R) B=true/\R.length<q.length/\kC B m q (aX R)=some G:=by
 cases n with
 | zero=>cases h
 | succ n =>
  rw[kC,if_pos hl] at h;obtain⟨⟨U,R⟩,h1,h⟩:=Option.bind_eq_some_iff.1 h;split at h
  ·rename_i h3;rw[Bool.and_eq_true] at h3;exact⟨n,U,R,h1,h3.1,of_decide_eq_true h3.2,h⟩
  ·cases h
theorem aRj {B n:Nat} {p q G:List Rat} (h:kC B n p q=some G) (hl:¬ 0<q.length):G=p:=by
 cases n with
 | zero=>cases h
 | succ n =>
  rw[kC,if_neg hl] at h;injection h with h;exact h.symm
theorem aTn {B:Nat} {p q G:List Rat} (h:oZ B p q=some G):aG (aX p) B=true/\aG (aX q) B=true/\kC B (p.length+q.length+3) (aX p) (aX q)=some G:=by
 unfold oZ at h;split at h
 ·rename_i h3;rw[Bool.and_eq_true] at h3;exact⟨h3.1,h3.2,h⟩
 ·cases h
theorem aCe (p:List Rat):(aX p).length<=p.length:=kS _ _
theorem aBz (p:List Rat):aI (aX p)=aX p:=cF _
section
variable (p q G:List Rat) (B:Nat) (hB1:1<=B) (hB:B<=100000) (hp:p.length<=1000) (hq:q.length<=1000) (h:oZ B p q=some G)
include hB1 hB hp hq h
theorem aRr:aD Tryz.prog 90 [PL p B,PL q B] (.one (PL G B)):=by
 obtain⟨z1,z2,h3⟩:=aTn h;have l1:=aCe p;have l2:=aCe q;refine aD.of (n:=26) Tryz.func90 rfl rfl rfl rfl rfl fun cx hfr=>?_;refine sr rfl ?_;refine xn ?_;refine RV.done (sr rfl ?_);refine xm ?_;refine xd rfl (xW p B B hB (by omega) z1) Tryz.func91 (xa rfl) hfr ?_;refine xn ?_;refine RV.done (sr rfl ?_);refine xm ?_;refine xd rfl (xW q B B hB (by omega) z2) Tryz.func91 (xa rfl) hfr ?_;refine xn ?_;refine RV.done ?_;refine CV.seq ?_;refine CV.block ?_;refine CV.loop (X:={s:Nat × List Rat × List Rat // kC B s.1 s.2.1 s.2.2=some G/\s.2.1.length<=1000/\s.2.2.length<=1000/\aI s.2.1=s.2.1/\aI s.2.2=s.2.2/\aG s.2.2 B=true}) (fun s=>[(.s 6,.av (.one (PL s.1.2.2 B))),(.s 5,.av (.one (PL s.1.2.1 B)))]) (fun s=>s.1.2.2.length) ⟨(p.length+q.length+3,aX p,aX q),h3,by show (aX p).length<=_; omega,by show (aX q).length<=_; omega,aBz p,aBz q,z2⟩ (bF.mk ⟨aC _,aC _,trivial⟩ rfl rfl) (fun s=>?_);obtain⟨⟨n,a,b⟩,hs,ha,hb,ta,tb,zb⟩:=s;simp only at hs ha hb ta tb zb |-;refine CV.seq ?_;refine sr rfl ?_;refine xm ?_;refine p1 (bJ bB aZ) ?_;refine p1 (gY) ?_;refine RV.done ?_;refine CV.cond rfl (fun hc=>?_) (fun hc=>?_)
 ·have hlt:0<b.length:=(by have:=of_decide_eq_true hc; omega)
  obtain⟨m,U,R,o1,o2,o3,o4⟩:=aP4 hs hlt;have o5:=aCe R;refine CV.skip ?_;refine CV.block ?_;refine sr rfl ?_;refine xm ?_;refine xm ?_;refine xc (aCw a b B hB1 hB ha hb ta tb zb o1) Tryz.func45 (xb rfl rfl) hfr ?_;refine xm ?_;refine p1 (cK) ?_;refine p1 (cK) ?_;refine xn ?_;refine xn ?_;refine RV.done (sr rfl ?_);refine xm ?_;refine xn ?_;refine RV.done ?_;refine CV.region rfl (fun h=>nomatch h) ?_;refine xm ?_;refine xd rfl (xW R B B hB (by omega) o2) Tryz.func91 (xa rfl) hfr ?_;refine xn ?_;refine RV.done ?_;exact⟨⟨(m,b,aX R),o4,hb,by show (aX R).length<=_; omega,tb,aBz R,o2⟩,bF.mk ⟨aC _,aC _,trivial⟩ rfl rfl,by show (aX R).length<b.length; omega⟩
 ·refine CV.exit ?_;refine CV.seq ?_;have hX:=aRj hs (by have:=of_decide_eq_false hc; omega);subst hX;refine CV.region rfl (fun h=>nomatch h) ?_;refine xm ?_;refine xn ?_;refine RV.done ?_;refine CV.ret ?_;exact aR rfl (.inr rfl) rfl cC
end
section
variable (p G U R:List Rat) (B:Nat) (hB1:1<=B) (hB:B<=100000) (hp:p.length<=1000) (tp:aI p=p) (h0:aG (cD p) B=true) (h1:oZ B p (cD p)=some G) (tG:aI G=G) (hG:G.length<=1000) (zG:aG G B=true) (h2:dE B p G=some (U,R)) (tU:aI U=U) (hU:U.length<=1000) (hm:aG (aX U) B=true)
include hB1 hB hp tp h0 h1 tG hG zG h2 tU hU hm
theorem aQa:aD Tryz.prog 43 [PL p B] (.one (PL (aX U) B)):=by
 have hdl:(cD p).length<=p.length-1:=(by unfold cD; exact Nat.le_trans (iL _) (by rw[eX]; exact Nat.le_refl _))
 refine aD.of (n:=16) Tryz.func43 rfl rfl rfl rfl rfl fun cx hfr=>?_;refine sr rfl ?_;refine xn ?_;refine RV.done (sr rfl ?_);refine xm ?_;refine xm ?_;refine xm ?_;refine xd rfl ((aGk p B (by omega) (by omega)).mono (fun _ _ _ _ h=>h) (dJ h0)) Tryz.func44 (xa rfl) hfr ?_;refine xd rfl (aRr p (cD p) G B hB1 hB hp (by omega) h1) Tryz.func90 (xb rfl rfl) hfr ?_;refine xc (aCw p G B hB1 hB hp hG tp tG zG h2) Tryz.func45 (xb rfl rfl) hfr ?_;refine xm ?_;refine p1 (cK) ?_;refine p1 (cK) ?_;refine xn ?_;refine xn ?_;refine RV.done ?_;refine CV.seq ?_;rw[tU];refine CV.region rfl (fun h=>nomatch h) ?_;refine xm ?_;refine xd rfl (xW U B B hB (by omega) hm) Tryz.func91 (xa rfl) hfr ?_;refine xn ?_;refine RV.done ?_;refine CV.ret ?_;exact aR rfl (.inr rfl) rfl cC
end
end Vc
end Go.Proofs.YtjmbkipbmbnhjaaGreat

namespace Go.Proofs.YtjmbkipbmbnhjaaGreat
open Go.RowKit
open Dg Zn
namespace Vc
section
variable {cx:Cx Dm} {n:Nat} {σ:St Dm} {o:Oper} {d:Nat} {x:Operand}
end
end Vc
end Go.Proofs.YtjmbkipbmbnhjaaGreat

namespace Go.Proofs.YtjmbkipbmbnhjaaGreat
open Go.RowKit
open Go.Lib (hid)
open Dg Zn
namespace Vc
def aYz (p q:Int):Bool:=decide (q=0\/(0<=q/\q≠1/\Int.gcd p q=1))
section
variable (f g:Nat->Int) (K n m:Nat) (hK:K<=1000000) (hn:n<=1000000) (hm:m<n) (hbad:aYz (f m) (g m)=false)
include hK hn hm hbad
end
theorem aKf {zs:List Int}:∀ L ρ w v,(SA.d (Dm.ints zs)).is L ρ w v->(ZI .i64 zs).is L ρ w v:=by
 intro L ρ w v h w' hw;obtain⟨_,ao,cap,e,h1,h2,h3⟩:=h w' hw;refine⟨ao,cap,by rw[qW]; exact e,by rw[qW]; exact⟨h1,h2⟩,fun hl=>?_⟩;rw[qW] at hl;obtain⟨b,off,e2,h4⟩:=h3 hl;refine⟨b,off,e2,_,aK9,fun j u hj=>?_⟩;obtain⟨hj1,hj2⟩:=List.getElem?_eq_some_iff.1 hj;rw[List.length_map] at hj1;rw[h4 j hj1,<- hj2,List.getElem_map,List.getD_eq_getElem?_getD,List.getElem?_eq_getElem hj1];rfl
section
variable (zs:List Int) (hz:∀ z∈zs,-9223372036854775808<=z/\z<=9223372036854775807) (c:Int) (hc1 : -9223372036854775808<=c) (hc2:c<=9223372036854775807)
include hz hc1 hc2
end
end Vc
end Go.Proofs.YtjmbkipbmbnhjaaGreat

namespace Go.Proofs.YtjmbkipbmbnhjaaGreat
open Go.RowKit
open Dg Zn
namespace Vc
/-! The reference's polynomials are small. -/
theorem vY (z:Int):∃ y:Int,bZ z*((12:Int):Rat)=(y:Rat)/\y.natAbs<=2^7:=by
 obtain⟨⟨a1,a2⟩,_,b1,b2⟩:=small_facts z;unfold bZ;have ha:((dS z 105).tmod 15-7).natAbs<=8:=by omega
 generalize (dS z 105).tmod 15-7=a at ha |-;generalize ((dS z 105).tdiv 15).tmod 4=b at b1 b2 |-;have key:∀ d e:Int,d*e=12->d≠0->e.natAbs<=12->∃ y:Int,Rat.divInt a d*((12:Int):Rat)=(y:Rat)/\y.natAbs<=2^7:=fun d e h1 h2 h3=>by
  refine⟨a*e,?_,?_⟩
  ·rw[Rat.divInt_eq_div,Rat.div_def,<- h1,Rat.intCast_mul,Rat.intCast_mul];have:=Rat.mul_inv_cancel _ (nV h2);grind
  ·rw[Int.natAbs_mul];exact Nat.le_trans (Nat.mul_le_mul ha h3) (by decide)
 rcases (by omega:b=0\/b=1\/b=2\/b=3) with rfl | rfl | rfl | rfl
 ·exact key 1 12 rfl (by decide) (by decide)
 ·exact key 2 6 rfl (by decide) (by decide)
 ·exact key 3 4 rfl (by decide) (by decide)
 ·exact key 4 3 rfl (by decide) (by decide)
theorem aFm {m:Int} {p:List Rat} {e:Nat} (h:∀ a∈p,∃ y:Int,a*(m:Rat)=(y:Rat)/\y.natAbs<=2^e):Cm m p e:=fun k=>by
 rcases Nat.lt_or_ge k p.length with hk | hk
 ·rw[List.getD_eq_getElem?_getD,List.getElem?_eq_getElem hk];exact h _ (List.getElem_mem hk)
 ·rw[cP hk];exact⟨0,by rw[Rat.zero_mul]; rfl,Nat.zero_le _⟩
theorem aE2 {p:List Rat} {e:Nat} (h:Cb p e):Cb (aI p) e:=h.ext (yG p)
theorem aXz (zs:List Int) (i n:Nat):Cb (aI (dZ zs i n)) 7:=by
 refine aE2 ⟨12,by decide,by decide,aFm fun a ha=>?_⟩;have h1:∃ y:Int,Rat.divInt 1 1*((12:Int):Rat)=(y:Rat)/\y.natAbs<=2^7:=⟨12,by rw[show Rat.divInt 1 1=1 by decide +kernel,Rat.one_mul],by decide⟩
 unfold dZ at ha;split at ha
 ·simp only[List.mem_cons,List.not_mem_nil,or_false] at ha;rcases ha with rfl | rfl | rfl
  ·exact vY _
  ·exact vY _
  ·exact h1
 ·simp only[List.mem_cons,List.not_mem_nil,or_false] at ha;rcases ha with rfl | rfl
  ·obtain⟨y,y1,y2⟩:=vY (zs.getD i 0);exact⟨-y,by rw[Rat.intCast_neg,<- y1]; grind,by rw[Int.natAbs_neg]; exact y2⟩
  ·exact h1
theorem Cb.rmul {p q:List Rat} {c d t:Nat} (hp:Cb p c) (hq:Cb q d) (ht:p.length+q.length<=2^t):Cb (iS p q) (c+d+t):=(hp.mul hq ht).ext fun k=>uA (fun x=>by rw[aLz,jY]) k
theorem aJy (zs:List Int):∀ m,m<=3->Cb (cH zs m) (3+10*m)
 | 0,_=>by
  refine aE2 ⟨1,by decide,by decide,aFm fun a ha=>?_⟩;obtain rfl:=List.mem_singleton.1 ha;obtain⟨h1,h2⟩:=aAt zs 1 5 (by decide);refine⟨1+iJ zs 1 5,?_,by omega⟩;rw[lI];exact mV _
 | m+1,h=>by
  have h1:=aJy zs m (by omega);have h2:=(nK zs m).1;have h3:=iL (dZ zs (m+2) (cH zs m).length);have h4:=rL zs (m+2) (cH zs m).length;rw[cH];exact(h1.rmul (aXz zs (m+2) (cH zs m).length) (t:=3) (by omega)).mono (by omega)
theorem aT1 (zs:List Int):Cb (iA zs) 33:=by
 unfold iA;split
 ·refine(aE2 ⟨12,by decide,by decide,aFm (e:=7) fun a ha=>?_⟩).mono (by decide);unfold tab at ha;obtain⟨k,_,rfl⟩:=List.mem_map.1 ha;exact vY _
 ·exact(aJy zs _ (by omega)).mono (by omega)
theorem aRw (zs:List Int):(iA zs).length<=6:=by
 unfold iA;split
 ·refine Nat.le_trans (iL _) ?_;rw[eX];omega
 ·have h:∀ m,m<=3->(cH zs m).length<=6:=fun m hm=>by
   rcases (by omega:m<=2\/m=3) with h | h
   ·have:=(nK zs m).1;omega
   ·subst h;rw[cH];have h1:=aCt (cH zs 2) (aI (dZ zs (2+2) (cH zs 2).length));have h2:=(nK zs 2).1;have h3:=iL (dZ zs (2+2) (cH zs 2).length);have h4:(dZ zs (2+2) (cH zs 2).length).length=2:=by
     unfold dZ;rw[if_neg (by omega)];rfl
    omega
  exact h _ (by omega)
/-! Polynomials with the bits of their numbers and their length. -/
structure Pk (p:List Rat) (e n:Nat):Prop where
 cb:Cb p e
 tr:aI p=p
 len:p.length<=n
theorem aEl (zs:List Int):Pk (iA zs) 33 6:=⟨aT1 zs,aQb zs,aRw zs⟩
theorem Pk.sz {p:List Rat} {e n B:Nat} (h:Pk p e n) (hB:1<=B) (he:e<=29*B):aG p B=true:=h.cb.sz hB he
theorem Pk.mono {p:List Rat} {e n e' n':Nat} (h:Pk p e n) (he:e<=e') (hn:n<=n'):Pk p e' n':=⟨h.cb.mono he,h.tr,Nat.le_trans h.len hn⟩
theorem aXy:dP (-1) 0:=⟨-1,1,by decide,by rw[lI]; rfl,by decide,by decide⟩
theorem Pk.scale {p:List Rat} {a:Rat} {c d n:Nat} (hp:Pk p c n) (ha:dP a d):Pk (aN p a) (c+d) n:=⟨hp.cb.scale ha,cF _,Nat.le_trans (kS _ _) hp.len⟩
theorem vH (p:List Rat):(cD p).length<=p.length-1:=by
 unfold cD;exact Nat.le_trans (iL _) (by rw[eX]; exact Nat.le_refl _)
theorem Pk.derive {p:List Rat} {c n:Nat} (t:Nat) (hp:Pk p c n) (ht:n<=2^t):Pk (cD p) (c+t) (n-1):=by
 have h1:=vH p;have h2:=hp.len;exact⟨hp.cb.derive (by omega),cF _,by omega⟩
/-! Contracts. -/
section
variable {p q:List Rat} {c d n m:Nat}
theorem aMw (zs:List Int) (hz:∀ z∈zs,-9223372036854775808<=z/\z<=9223372036854775807):aD Tryz.prog 9 [ZI .i64 zs] (.one (PL (iA zs) 10)):=(aRo zs hz).mono (fun _ _ _ _ h=>h) (dJ ((aEl zs).sz (by decide) (by decide)))
end
end Vc
end Go.Proofs.YtjmbkipbmbnhjaaGreat

namespace Go.Proofs.YtjmbkipbmbnhjaaGreat
open Go.RowKit
open Go.Lib (hid)
open Dg Zn
namespace Vc
set_option maxRecDepth 100000
theorem aI3 {B:Nat} {q:List Rat}:∀ {n:Nat} {u:List (Option Rat)} {r:List Rat} {X:List (Option Rat) × List Rat},iT B q n u r=some X->X.2.length<q.length
 | 0,_,_,_,h=>nomatch h
 | n+1,u,r,X,h=>by
  rw[iT] at h;split at h
  ·split at h
   ·exact aI3 h
   ·cases h
  ·rename_i hl;injection h with h;subst h;show r.length<q.length;omega
theorem aI1 {B:Nat} {p q U R:List Rat} (h:dE B p q=some (U,R)) (h0:q≠[]):R.length<q.length:=by
 unfold dE at h;rw[if_neg h0] at h;obtain⟨X,h1,h2⟩:=Option.map_eq_some_iff.1 h;obtain⟨_,rfl⟩:=Prod.mk.inj h2;exact aI3 h1
theorem aDb {B:Nat} {p R:List Rat} {t T:Rat} (h:gR B p t=some (R,T)):R.length<=p.length:=by
 unfold gR at h;split at h
 ·rename_i h0;injection h with h;obtain⟨rfl,_⟩:=Prod.mk.inj h;exact Nat.zero_le _
 ·obtain⟨D,_,h⟩:=Option.bind_eq_some_iff.1 h;split at h
  ·injection h with h;obtain⟨rfl,_⟩:=Prod.mk.inj h;exact kS _ _
  ·cases h
theorem aU6 {B:Nat} {a b z:List Rat × Rat} (h:oD B a b=some z) (h0:b.1≠[]):z.1.length<b.1.length:=by
 unfold oD at h;obtain⟨f,_,h⟩:=Option.bind_eq_some_iff.1 h;split at h
 ·obtain⟨⟨U,R0⟩,h3,h⟩:=Option.bind_eq_some_iff.1 h;have h1:=aI1 h3 h0;have h2:=aDb (R:=z.1) (T:=z.2) h;show z.1.length<_;exact Nat.lt_of_le_of_lt h2 h1
 ·cases h
theorem aSy {B:Nat} {a b z:List Rat × Rat} (hB:B<=300000) (hp:a.1.length<=1000000) (hq:b.1.length<=1000000) (hq0:b.1≠[]) (h0:aG [(1:Rat)] B=true) (h:oD B a b=some z):aD Tryz.prog 97 [EL a.1 B a.2 B,EL b.1 B b.2 B] (.one (EL z.1 B z.2 B)) :=
 aSx a.1 b.1 z.1 a.2 b.2 z.2 B hB hp hq hq0 h0 h fun U R0 f q=>by
  have:=aI1 q hq0;omega
def kY (B:Nat):Nat->List (List Rat × Rat)->List Rat × Rat->Option (List (List Rat × Rat))
 | 0,_,_=>none
 | n+1,l,nx=>if 0<nx.1.length then (oD B (l.getD (l.length-1) ([],0)) nx).bind fun z=>kY B n (l++[nx]) z else some l
theorem aUt {B n:Nat} {l R:List (List Rat × Rat)} {nx:List Rat × Rat} (h:kY B n l nx=some R) (hl:0<nx.1.length):∃ m z,oD B (l.getD (l.length-1) ([],0)) nx=some z/\kY B m (l++[nx]) z=some R:=by
 cases n with
 | zero=>cases h
 | succ n =>
  rw[kY,if_pos hl] at h;obtain⟨z,h1,h2⟩:=Option.bind_eq_some_iff.1 h;exact⟨n,z,h1,h2⟩
theorem aWy {B n:Nat} {l R:List (List Rat × Rat)} {nx:List Rat × Rat} (h:kY B n l nx=some R) (hl:¬ 0<nx.1.length):R=l:=by
 cases n with
 | zero=>cases h
 | succ n =>
  rw[kY,if_neg hl] at h;injection h with h;exact h.symm
def gD (l:List (List Rat × Rat)) (B:Nat):List (SA Dm):=l.map fun e=>EL e.1 B e.2 B
abbrev uZ (l:List (List Rat × Rat)) (B:Nat):SA Dm:=.d (Dm.gen (bY (some 5) (gD l B)))
theorem nL {l:List (List Rat × Rat)} {B:Nat}:(gD l B).length=l.length:=by simp[gD]
theorem aFl {l:List (List Rat × Rat)} {B i:Nat} (h:i<l.length):(gD l B)[i]?=some (EL (l.getD i ([],0)).1 B (l.getD i ([],0)).2 B):=by
 simp[gD,List.getD_eq_getElem?_getD,List.getElem?_eq_getElem h]
theorem aDw {l:List (List Rat × Rat)} {B:Nat}:(gD l B).flatMap SA.ptrs=[]:=by
 rw[List.flatMap_eq_nil_iff];intro s hs;obtain⟨e,_,rfl⟩:=List.mem_map.1 hs;rfl
theorem aCm {l m:List (List Rat × Rat)} {B:Nat}:gD (l++m) B=gD l B++gD m B:=by simp[gD]
theorem aIz {l:List (List Rat × Rat)} {B:Nat}:∀ s∈gD l B,s.plain=true:=by
 intro s hs;obtain⟨e,_,rfl⟩:=List.mem_map.1 hs;rfl
theorem aKn {l:List (List Rat × Rat)} {B:Nat}:∀ s∈gD l B,s.kind=some (some 5):=by
 intro s hs;obtain⟨e,_,rfl⟩:=List.mem_map.1 hs;rfl
theorem aNr:(Tryz.prog.info? 72).map (fun i=>(i.size,i.zero))=some (5,some (.agg #[.slice none 0 0,.bool false,.slice none 0 0,.bool false,.slice none 0 0])):=by kernel_rfl
theorem aXw:(Tryz.prog.info? 72).map (fun i=>(i.zero,i.size,i.bytes))=some (some (.agg #[.slice none 0 0,.bool false,.slice none 0 0,.bool false,.slice none 0 0]),5,88):=by kernel_rfl
def aBa (l:List (List Rat × Rat)):Prop:=0<l.length/\∀ e∈l,e.1.length<=1000
theorem aSo {l:List (List Rat × Rat)} (h:aBa l):(l.getD (l.length-1) ([],0)).1.length<=1000:=by
 have h0:=h.1;refine h.2 _ ?_;rw[List.getD_eq_getElem?_getD,List.getElem?_eq_getElem (by omega)];exact List.getElem_mem _
theorem aSn {l:List (List Rat × Rat)} {e:List Rat × Rat} (h:aBa l) (he:e.1.length<=1000):aBa (l++[e]):=by
 refine⟨by rw[List.length_append]; have:=h.1; omega,fun x hx=>?_⟩;rcases List.mem_append.1 hx with q | q
 ·exact h.2 x q
 ·rw[List.mem_singleton.1 q]; exact he
section
variable (p F:List Rat) (a b:List Rat × Rat) (L:List (List Rat × Rat)) (B n:Nat) (hB:B<=300000) (hp:p.length<=1000000) (hF:kG B p=some F) (hl:F.length<=1000) (hF0:F≠[]) (h0:aG [(1:Rat)] B=true) (h1:gR B F 1=some a) (h2:aG (cD F) B=true) (h3:gR B (cD F) 1=some b) (h4:kY B n [a] b=some L)
include hB hp hF hl hF0 h0 h1 h2 h3 h4
theorem aOu:aD Tryz.prog 48 [PL p B] (.one (uZ L B)):=by
 have e11:Rat.divInt 1 1=1:=by decide
 have hFl:=List.length_pos_iff.2 hF0;have hdl:=vH F;have hal:a.1.length<=1000:=(by have:=aDb (R:=a.1) (T:=a.2) h1; omega)
 have hbl:b.1.length<=1000:=(by have:=aDb (R:=b.1) (T:=b.2) h3; omega)
 refine aD.of (n:=39) Tryz.func48 rfl rfl rfl rfl rfl fun cx hfr=>?_;refine sr rfl ?_;refine xn ?_;refine RV.done (sr rfl ?_);refine xm ?_;refine xc (aC6 p F B hB hp hF) Tryz.func94 (xa rfl) hfr ?_;refine xn ?_;refine RV.done ?_;refine CV.seq ?_;refine sr rfl ?_;refine xm ?_;refine p1 (bJ bB aZ) ?_;refine p1 (cR) ?_;refine RV.done ?_;refine CV.cond rfl (fun hc=>False.elim (by have:=of_decide_eq_true hc; omega)) (fun hc=>?_);refine CV.skip ?_;refine sr rfl ?_;refine xd rfl ((oV 1 1 (by decide) (by decide) (by decide) (by decide)).mono (fun _ _ _ _ h=>h) (fun L ρ w v h=>dT h0 L ρ w v (uM e11 L ρ w v h))) Tryz.func57 (xb rfl rfl) hfr ?_;refine p2 (aU (i:=0) bX) ?_;refine p1 (aQ (aB).2) ?_;refine RV.done (sr rfl ?_);refine xm ?_;refine p1 (aJ aB) ?_;refine xd rfl (aB8 F 1 B a.1 a.2 hB (by omega) h1) Tryz.func95 (xb rfl rfl) hfr ?_;refine p2 (aEm (r:=200) (k:=some 5) (xs:=[.tmp 15]) (ss:=gD [a] B) oY aNr rfl rfl rfl aKn aIz aDw rfl rfl bd (xa rfl) rfl rfl) ?_;refine xn ?_;refine RV.done ?_;refine CV.seq ?_;refine CV.seq ?_;refine CV.region rfl (fun _=>by kernel_rfl) ?_;refine xm ?_;refine xd rfl ((aG1 F B (by omega) (by omega)).mono (fun _ _ _ _ h=>h) (dJ h2)) Tryz.func96 (xa rfl) hfr ?_;refine p1 (aJ aB) ?_;refine xd rfl (aB8 (cD F) 1 B b.1 b.2 hB (by omega) h3) Tryz.func95 (xb rfl rfl) hfr ?_;refine p2 (aU (i:=1) rM) ?_;refine p1 (aQ (iR).2) ?_;refine bV (by kernel_rfl) ?_;refine CV.block ?_;refine CV.loop (X:={z:Nat × List (List Rat × Rat) × (List Rat × Rat) // kY B z.1 z.2.1 z.2.2=some L/\aBa z.2.1/\z.2.2.1.length<=1000/\z.2.1.length+z.2.2.1.length<=1001}) (fun z=>[(.s 5,.av (.one (.sl 200 (gD z.1.2.1 B).length))),(.b 200,.row 72 (some 5) (gD z.1.2.1 B)),(.s 6,.av (.one (.ptr 1 0))),(.b 1,.blk 72 [(some 5,EL z.1.2.2.1 B z.1.2.2.2 B)])]) (fun z=>z.1.2.2.1.length) ⟨(n,[a],b),h4,⟨Nat.zero_lt_succ _,fun e he=>by rw[List.mem_singleton.1 he]; exact hal⟩,hbl,by show 1+b.1.length<=1001; omega⟩ (bF.mk ⟨aC _,aC _,aC _,aC _,trivial⟩ rfl rfl) (fun z=>?_);obtain⟨⟨n,l,nx⟩,hs,hok,hnx,hln⟩:=z;simp only at hs hok hnx hln |-;refine CV.seq ?_;refine sr rfl ?_;refine p1 (bH qH) ?_;refine p1 (bI 0 qE cQ) ?_;refine p1 (bJ bB aZ) ?_;refine p1 (gY) ?_;refine RV.done ?_;refine CV.cond rfl (fun hc=>?_) (fun hc=>?_)
 ·have hlt:0<nx.1.length:=(by have:=of_decide_eq_true hc; omega)
  have hn0:=List.length_pos_iff.1 hlt;obtain⟨m,z,o1,o2⟩:=aUt hs hlt;have hzl:=aU6 o1 hn0;have hok0:=hok.1;have hla:=aSo hok;have eg:(l++[nx]).getD (l.length-1) ([],0)=l.getD (l.length-1) ([],0):=(by simp only[List.getD_eq_getElem?_getD]; rw[List.getElem?_append_left (by omega)])
  refine CV.skip ?_;refine CV.seq ?_;refine CV.block ?_;refine CV.region rfl (fun h=>nomatch h) ?_;refine xm ?_;refine p1 (aJ iR) ?_;refine p1 (fZ (k:=some 5) (xs:=[.tmp 34]) (ss:=gD [nx] B) (G:=Dm.gen (bY (some 5) (gD [nx] B))) (cM _ _) oY aNr rfl rfl rfl aKn aDw rfl rfl bd (xa rfl)) ?_;refine iN (aM.plain (mA (r:=200) (r':=201) (k:=some 5) (iZ (by decide) aDw) (by rw[nL,nL]; simp; omega) (by rw[nL,nL]; simp; omega) oY aXw rfl rfl rfl aIz rfl rfl rfl bd rfl rfl rfl rfl rfl rfl rfl rfl) rfl) ?_;refine xn ?_;refine RV.done ?_;refine CV.seq ?_;refine sr rfl ?_;refine p1 (aJ iR) ?_;refine RV.done ?_;refine CV.region rfl (fun h=>nomatch h) ?_;refine p2 (aU (i:=2) rM) ?_;refine p1 (aQ (iR).2) ?_;refine RV.done ?_;refine CV.region rfl (fun _=>by kernel_rfl) ?_;refine xm ?_;refine xm ?_;refine p1 (mO oY) ?_;refine p1 (eB (c:=((l.length-1:Nat):Int)) (by rw[nL,nL,List.length_singleton,bU (by omega) (by omega)]; omega) rfl rfl bd rfl rfl) ?_;refine p1 (mP (i:=l.length-1) (m:=(gD l B).length+(gD [nx] B).length) (l:=gD l B++gD [nx] B) (by rw[nL,nL]; omega) (by rw[List.length_append]; exact Nat.le_refl _) oY aFv rfl rfl bd rfl rfl rfl) ?_;refine p1 (tM (i:=l.length-1) (by rw[<- aCm]; exact aFl (by rw[List.length_append]; omega)) rfl iR (by decide) rfl rfl bd rfl rfl) ?_;refine p1 (aJ iR) ?_;refine xd rfl (aSy (a:=(l++[nx]).getD (l.length-1) ([],0)) hB (by rw[eg]; omega) (by omega) hn0 h0 (by rw[eg]; exact o1)) Tryz.func97 (xb rfl rfl) hfr ?_;refine p1 (aQ (iR).2) ?_;refine bV (by kernel_rfl) ?_;exact⟨⟨(m,l++[nx],z),o2,aSn hok hnx,by show z.1.length<=1000; omega,by show (l++[nx]).length+z.1.length<=1001; rw[List.length_append]; show l.length+1+z.1.length<=1001; omega⟩,jX (fun i=>if i=200 then 201 else if i=1 then 2 else i) ⟨lJ rfl (by rw[aCm,List.length_append]),eO aCm.symm,fun _ _ _ _ h=>h,⟨rfl,fun _ _ _ _ h=>h⟩,trivial⟩ rfl rfl rfl rfl,hzl⟩
 ·refine CV.exit ?_;refine CV.seq ?_;have hL:=aWy hs (by have:=of_decide_eq_false hc; omega);subst hL;refine jU (r:=200) (t:=5) (G:=Dm.gen (bY (some 5) (gD L B))) (cx.bw hfr) rfl rfl rfl rfl rfl (cM _ _) (iF _ _) ?_;refine CV.region rfl (fun h=>nomatch h) ?_;refine xm ?_;refine xn ?_;refine RV.done ?_;refine CV.ret ?_;exact aR rfl (.inr rfl) rfl cC
end
end Vc
end Go.Proofs.YtjmbkipbmbnhjaaGreat
