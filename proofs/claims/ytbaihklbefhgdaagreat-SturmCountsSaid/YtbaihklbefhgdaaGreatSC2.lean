/-
  
-/
import Derived.WalkKit
import Derived.WalkSpells
import Derived.WalkLawsBesides
import Derived.WalkMore
import Derived.Lib.Hide
import Derived.Deep.LoopGhost
import Derived.Deep.RegionHeld3
import Derived.Deep.DeepCutAuto
import Derived.Deep.MidRow
import Derived.OwnWalk
set_option linter.unusedVariables false
set_option linter.unusedSimpArgs false
set_option linter.unusedSectionVars false
namespace Go.Proofs.YtbaihklbefhgdaaGreat
open Go.RowKit
open Go.Lib (hid)
namespace Pu
theorem aO {w a b:World} (h:Below w.heap.size w a) (k:Below a.heap.size a b):Below w.heap.size w b:=h.trans (k.mono h.size)
section
variable {P:Program} {ops:Array Oper} {Q:Exit->Act->World->Prop} {md:Region.Mode}
theorem tN {listed:Array Bool} {i:Nat} (h:i∈Region.ready md ops listed):i<ops.size/\listed.getD i true=false/\∀ o,ops[i]?=some o->∀ e∈o.after,Region.binds md e=true->listed.getD e.on false=true:=by
 unfold Region.ready at h;obtain⟨h1,h2⟩:=List.mem_filter.1 h;have hi:i<ops.size:=List.mem_range.1 h1;rw[Bool.and_eq_true] at h2;refine⟨hi,by simpa using h2.1,fun o ho e he hb=>?_⟩;have h3:=h2.2;rw[ho] at h3;simp only[Option.map_some,Option.getD_some,Array.all_eq_true_iff_forall_mem] at h3;have:=h3 e he;rw[hb] at this;simpa using this
def jO (md:Region.Mode) (ops:Array Oper):Bool:=ops.toList.zipIdx.all fun p=>p.1.after.all fun e => !Region.binds md e||decide (e.on<p.2)
theorem aA0 (h:jO md ops=true) {i:Nat} {o:Oper} (ho:ops[i]?=some o) {e:_} (he:e∈o.after) (hb:Region.binds md e=true):e.on<i:=by
 unfold jO at h;rw[List.all_eq_true] at h;have hm:(o,i)∈ops.toList.zipIdx:=by
  rw[List.mem_zipIdx_iff_getElem?];simpa using ho
 have h2:=h _ hm;rw[Array.all_eq_true_iff_forall_mem] at h2;have h3:=h2 e he;rw[hb] at h3;simpa using h3
theorem aC7 (hb:jO md ops=true) {listed:Array Bool} (hs:listed.size=ops.size) (h:Region.ready md ops listed=[]):∀ n i,i<=n->i<ops.size->listed.getD i false=true:=by
 intro n
 induction n with
 | zero =>
  intro i hi hlt;obtain rfl:i=0:=by omega
  cases hL:listed.getD 0 false with
  | true=>rfl
  | false =>
   exfalso;have hm:0∈Region.ready md ops listed:=by
    unfold Region.ready;refine List.mem_filter.2 ⟨List.mem_range.2 hlt,?_⟩;rw[Bool.and_eq_true];refine⟨?_,?_⟩
    ·simp only[Array.getD_eq_getD_getElem?] at hL |-;rw[Array.getElem?_eq_getElem (by omega)] at hL |-;simpa using hL
    ·rw[Array.getElem?_eq_getElem hlt];simp only[Option.map_some,Option.getD_some,Array.all_eq_true_iff_forall_mem];intro e he;cases hbe:Region.binds md e with
     | false=>rfl
     | true=>have:=aA0 hb (Array.getElem?_eq_getElem hlt) he hbe; omega
   rw[h] at hm;cases hm
 | succ n ih =>
  intro i hi hlt;rcases Nat.lt_or_ge n i with hni | hni
  ·obtain rfl:i=n+1:=by omega
   cases hL:listed.getD (n+1) false with
   | true=>rfl
   | false =>
    exfalso;have hm:n+1∈Region.ready md ops listed:=by
     unfold Region.ready;refine List.mem_filter.2 ⟨List.mem_range.2 hlt,?_⟩;rw[Bool.and_eq_true];refine⟨?_,?_⟩
     ·simp only[Array.getD_eq_getD_getElem?] at hL |-;rw[Array.getElem?_eq_getElem (by omega)] at hL |-;simpa using hL
     ·rw[Array.getElem?_eq_getElem hlt];simp only[Option.map_some,Option.getD_some,Array.all_eq_true_iff_forall_mem];intro e he;cases hbe:Region.binds md e with
      | false=>rfl
      | true =>
       have hlt2:=aA0 hb (Array.getElem?_eq_getElem hlt) he hbe;rw[ih e.on (by omega) (by omega)];rfl
    rw[h] at hm;cases hm
  ·exact ih i hni hlt
def kO (L:Nat->Bool) (i:Nat) (L':Nat->Bool):Prop:=∀ j,L' j=(L j||decide (j=i))
theorem kO.old {L L':Nat->Bool} {i j:Nat} (h:kO L i L') (hne:j≠i) (hj:L' j=true):L j=true:=by
 rw[h j] at hj;simpa[hne] using hj
end
theorem size_put (a:Act) (d:Option Tmp) (v:Value):(a.put d v).tmps.size=a.tmps.size:=by
 cases d<;>simp[Act.put]
theorem tE (a:Act) (d:Option Tmp) (v:Value):(a.put d v).defers=a.defers:=by
 cases d<;>rfl
theorem zJ (a:Act) (d:Option Tmp) (v:Value) (t:Nat) (h:d≠some t):(a.put d v).tmps[t]?=a.tmps[t]?:=by
 cases d with
 | none=>rfl
 | some d =>
  have:d≠t:=fun e=>h (by rw[e]);simp[Act.put,this]
theorem aDy (a:Act) (d:Nat) (v:Value) (h:d<a.tmps.size):(a.put (some d) v).tmps.getD d undef=v:=by
 simp[Act.put,Array.getD_eq_getD_getElem?,h]
theorem vZ {x y:Array Value} {t:Nat} (h:x[t]?=y[t]?):x.getD t undef=y.getD t undef:=by
 simp only[Array.getD_eq_getD_getElem?,h]
theorem aQ3 {ops:Array Oper} {x:Array Value} {j d:Nat} {b:Bool} (h:(ops[j]?).bind (·.dst)=some d) (hv:x.getD d undef=.bool b):yielded ops x j=some b:=by
 unfold yielded;rw[h];rw[Array.getD_eq_getD_getElem?] at hv;show (match x[d]? with | some (.bool b)=>some b | _=>none)=some b;cases hx:x[d]? with
 | none=>rw[hx] at hv; cases hv
 | some y=>rw[hx] at hv; simp only[Option.getD_some] at hv; rw[hv]
section
variable {P:Program} {ops:Array Oper} {Q:Exit->Act->World->Prop}
structure gR (ops:Array Oper) (S:Nat->World->Value->Prop) (a0:Act) (w0:World) (L:Nat->Bool) (a:Act) (w:World):Prop where
 size:a.tmps.size=a0.tmps.size
 defers:a.defers=a0.defers
 below:Below w0.heap.size w0 w
 kept:∀ t,(∀ i o,ops[i]?=some o->o.dst=some t->L i=false)->a.tmps[t]?=a0.tmps[t]?
 holds:∀ i o d,L i=true->ops[i]?=some o->o.dst=some d->S d w (a.tmps.getD d undef)
def ownB (ops:Array Oper) (n:Nat):Bool :=
 (List.range ops.size).all fun i=>match (ops[i]?).bind (·.dst) with
  | none=>true
  | some d=>decide (d<n)&&(List.range ops.size).all fun j=>decide (j=i)||((ops[j]?).bind (·.dst) != some d)
theorem aY9 {n i d:Nat} {o:Oper} (h:ownB ops n=true) (ho:ops[i]?=some o) (hd:o.dst=some d):d<n:=by
 unfold ownB at h;rw[List.all_eq_true] at h;have h1:=h i (List.mem_range.2 (Array.getElem?_eq_some_iff.1 ho).1);rw[ho] at h1;simp only[Option.bind_some,hd,Bool.and_eq_true,decide_eq_true_eq] at h1;exact h1.1
theorem aXo {n i j d:Nat} {o o':Oper} (h:ownB ops n=true) (ho:ops[i]?=some o) (hd:o.dst=some d) (ho':ops[j]?=some o') (hd':o'.dst=some d):j=i:=by
 unfold ownB at h;rw[List.all_eq_true] at h;have h1:=h i (List.mem_range.2 (Array.getElem?_eq_some_iff.1 ho).1);rw[ho] at h1;simp only[Option.bind_some,hd,Bool.and_eq_true,List.all_eq_true] at h1;have h2:=h1.2 j (List.mem_range.2 (Array.getElem?_eq_some_iff.1 ho').1);rw[ho'] at h2;simpa[hd'] using h2
def aBx (ops:Array Oper) (fin:Nat):Bool :=
 (List.range ops.size).all fun j=>decide (j=fin)||(List.range ops.size).any fun k=>match ops[k]? with
  | none=>false
  | some o=>o.after.toList.any fun e=>Region.binds .any e&&decide (e.on=j)
theorem aM7 {fin:Nat} {L:Nat->Bool} (hb:jO .any ops=true) (hc:aBx ops fin=true)
  (hcl:∀ i o,L i=true->ops[i]?=some o->∀ e∈o.after,Region.binds .any e=true->L e.on=true) (hf:L fin=true) :
  ∀ n j,ops.size-j<=n->j<ops.size->L j=true:=by
 intro n
 induction n with
 | zero=>intro j h1 h2; omega
 | succ n ih =>
  intro j h1 h2;by_cases hj:j=fin
  ·rw[hj]; exact hf
  ·unfold aBx at hc;rw[List.all_eq_true] at hc;have h3:=hc j (List.mem_range.2 h2);simp only[hj,decide_false,Bool.false_or,List.any_eq_true] at h3;obtain⟨k,hk,h4⟩:=h3;have hk:=List.mem_range.1 hk;rw[Array.getElem?_eq_getElem hk] at h4;simp only[List.any_eq_true,Bool.and_eq_true,decide_eq_true_eq] at h4;obtain⟨e,he,hbe,hej⟩:=h4;have he:e∈_:=Array.mem_toList_iff.1 he;have hlt:=aA0 hb (Array.getElem?_eq_getElem hk) he hbe;have:=hcl k _ (ih k (by omega) hk) (Array.getElem?_eq_getElem hk) e he hbe;rw[hej] at this;exact this
def aGl (P:Program) (ops:Array Oper) (S:Nat->World->Value->Prop) (Q:Exit->Act->World->Prop) (o:Oper) (a:Act) (w:World):Prop :=
 (Region.wanted o (yielded ops a.tmps)=true/\o.wp P a w (fun a' w'=>∃ v,a'=a.put o.dst v/\Below w.heap.size w w'/\∀ d,o.dst=some d->S d w' v) Q) \/
 (Region.wanted o (yielded ops a.tmps)=false/\∀ d,o.dst=some d->S d w undef)
theorem gR.put {S:Nat->World->Value->Prop} {a0:Act} {w0:World} {L L':Nat->Bool} {a:Act} {w w':World} {i:Nat} {o:Oper} {v:Value}
  (hS:∀ t w w' v,S t w v->Below w.heap.size w w'->S t w' v) (hown:ownB ops a0.tmps.size=true)
  (h:gR ops S a0 w0 L a w) (ho:ops[i]?=some o) (hb:Below w.heap.size w w') (hv:∀ d,o.dst=some d->S d w' v) (hL:kO L i L'):gR ops S a0 w0 L' (a.put o.dst v) w':=by
 refine⟨by rw[size_put,h.size],by rw[tE,h.defers],aO h.below hb,?_,?_⟩
 ·intro t ht;rw[zJ]
  ·refine h.kept t fun j o' ho' hd'=>?_;have:=ht j o' ho' hd';rw[hL j] at this;simpa using (Bool.or_eq_false_iff.1 this).1
  ·intro hd;have:=ht i o ho hd;rw[hL i] at this;simp at this
 ·intro j o' d hj ho' hd';by_cases hji:j=i
  ·subst hji;rw[ho] at ho';obtain rfl:=Option.some.inj ho';rw[hd',aDy _ _ _ (by rw[h.size]; exact aY9 hown ho hd')];exact hv d hd'
  ·have hjL:=hL.old hji hj;have hne:o.dst≠some d:=fun e=>hji (aXo hown ho e ho' hd');rw[vZ (zJ a o.dst v d hne)];exact hS _ _ _ _ (h.holds j o' d hjL ho' hd') hb
theorem rP {id:Nat} {a0:Act} {w:World} (fin:Nat) (S:Nat->World->Value->Prop) (hm:P.follows .mixedOrders=true) (hb:jO .any ops=true) (hown:ownB ops a0.tmps.size=true) (hcov:fin<ops.size->aBx ops fin=true)
  (hS:∀ t w w' v,S t w v->Below w.heap.size w w'->S t w' v)
  (hstep:∀ L a w1 i o,ops[i]?=some o->i≠fin->L i=false->(∀ e∈o.after,Region.binds .any e=true->L e.on=true)->gR ops S a0 w L a w1->aGl P ops S Q o a w1)
  (hfin:∀ L a w1 o,ops[fin]?=some o->L fin=false->(∀ j,j<ops.size->j≠fin->L j=true)->gR ops S a0 w L a w1->Region.wanted o (yielded ops a.tmps)=true/\o.wp P a w1 (Q .normal) Q)
  (hend:ops.size<=fin->∀ L a w1,(∀ j,j<ops.size->L j=true)->gR ops S a0 w L a w1->Q .normal a w1) :
  (Code.region id ops true).wp P Q a0 w:=by
 refine wp_region_any hm ?_
 suffices H:∀ (fuel:Nat) (listed:Array Bool) (a:Act) (w1:World),listed.size=ops.size->listed.toList.countP (fun b => !b)<=fuel->(∀ i o,listed.getD i false=true->ops[i]?=some o->∀ e∈o.after,Region.binds .any e=true->listed.getD e.on false=true) ->
   ((listed.getD fin false=true/\(∀ j,j<ops.size->listed.getD j false=true)/\Q .normal a w1)\/((fin<ops.size->listed.getD fin false=false)/\gR ops S a0 w (fun i=>listed.getD i false) a w1))->wpAny P .any ops Q fuel listed a w1 by
  refine H _ _ _ _ (by simp) ?_ ?_ (.inr ⟨?_,?_⟩)
  ·refine Nat.le_trans (List.countP_le_length ..) (by simp)
  ·intro i o hi;simp only[Array.getD_eq_getD_getElem?,Array.getElem?_replicate] at hi;split at hi<;>cases hi
  ·intro _;simp only[Array.getD_eq_getD_getElem?,Array.getElem?_replicate];split<;>rfl
  ·refine⟨rfl,rfl,(Below.refl _ _).drew,fun _ _=>rfl,?_⟩;intro i o d hi;simp only[Array.getD_eq_getD_getElem?,Array.getElem?_replicate] at hi;split at hi<;>cases hi
 have hfull:∀ (listed:Array Bool) (a:Act) (w1:World),(∀ j,j<ops.size->listed.getD j false=true)->((listed.getD fin false=true/\(∀ j,j<ops.size->listed.getD j false=true)/\Q .normal a w1)\/((fin<ops.size->listed.getD fin false=false)/\gR ops S a0 w (fun i=>listed.getD i false) a w1))->Q .normal a w1:=by
  intro listed a w1 hall h;rcases h with ⟨_,_,h⟩ | ⟨h1,h2⟩
  ·exact h
  ·rcases Nat.lt_or_ge fin ops.size with hlt | hge
   ·rw[hall fin hlt] at h1;exact absurd (h1 hlt) (by simp)
   ·exact hend hge _ a w1 hall h2
 intro fuel
 induction fuel with
 | zero =>
  intro listed a w1 hs hc hcl hI;have hall:∀ i,i<ops.size->listed.getD i false=true:=by
   intro i hi;have h0:=Nat.le_zero.1 hc;rw[List.countP_eq_zero] at h0;have:=h0 (listed[i]'(by omega)) (by simp);simp only[Array.getD_eq_getD_getElem?];rw[Array.getElem?_eq_getElem (by omega)];simpa using this
  refine⟨?_,hfull listed a w1 hall hI⟩;cases hr:Region.ready .any ops listed with
  | nil=>rfl
  | cons x xs =>
   exfalso;obtain⟨h1,h2,_⟩:=tN (show x∈Region.ready .any ops listed by rw[hr]; exact List.mem_cons_self ..);have:=hall x h1;simp only[Array.getD_eq_getD_getElem?] at this h2;rw[Array.getElem?_eq_getElem (by omega)] at this h2;simp at this h2;rw[this] at h2;cases h2
 | succ fuel ih =>
  intro listed a w1 hs hc hcl hI;refine⟨fun hr=>hfull listed a w1 (fun i hi=>aC7 hb hs hr i i (Nat.le_refl _) hi) hI,fun i hi=>?_⟩;obtain⟨h1,h2,h3⟩:=tN hi;have ho:=Array.getElem?_eq_getElem h1;have hLi:listed.getD i false=false:=by
   simp only[Array.getD_eq_getD_getElem?] at h2 |-;rw[Array.getElem?_eq_getElem (by omega)] at h2 |-;simpa using h2
  have hcount:(listed.setIfInBounds i true).toList.countP (fun b => !b)<=fuel:=by
   have hil:i<listed.toList.length:=by simpa[hs] using h1
   have hval:listed.toList[i]=false:=by
    simp only[Array.getD_eq_getD_getElem?] at hLi;rw[Array.getElem?_eq_getElem (by omega)] at hLi;simpa using hLi
   have hset:(listed.setIfInBounds i true).toList=listed.toList.set i true:=Array.toList_setIfInBounds ..;rw[hset,List.countP_set hil,hval];have hpos:0<listed.toList.countP (fun b => !b):=List.countP_pos_iff.2 ⟨false,by rw[<- hval]; exact List.getElem_mem hil,rfl⟩;simp only[Bool.not_false,Bool.not_true,if_true,Bool.false_eq_true,if_false];omega
  have hmore:kO (fun j=>listed.getD j false) i (fun j=>(listed.setIfInBounds i true).getD j false):=by
   intro j;simp only[Array.getD_eq_getD_getElem?,Array.getElem?_setIfInBounds];by_cases e:i=j
   ·subst e;rw[if_pos rfl,if_pos (by omega)];simp
   ·rw[if_neg e];simp[Ne.symm e]
  have hcl':∀ k o,(listed.setIfInBounds i true).getD k false=true->ops[k]?=some o->∀ e∈o.after,Region.binds .any e=true->(listed.setIfInBounds i true).getD e.on false=true:=by
   intro k o hk hok e he hbe;have hm:=hmore e.on;simp only at hm;rw[hm];by_cases hki:k=i
   ·subst hki;rw[h3 o hok e he hbe]; rfl
   ·rw[hcl k o (hmore.old hki hk) hok e he hbe]; rfl
  rcases hI with ⟨_,hA,_⟩ | ⟨hF,hI⟩
  ·rw[hA i h1] at hLi; cases hLi
  by_cases hif:i=fin
  ·subst hif;have hall':=aM7 (L:=fun j=>(listed.setIfInBounds i true).getD j false) hb (hcov h1) hcl' ((hmore i).trans (by simp));have hothers:∀ j,j<ops.size->j≠i->listed.getD j false=true:=fun j hj hne=>hmore.old hne (hall' _ j (Nat.le_refl _) hj);obtain⟨hg,hw⟩:=hfin _ a w1 _ ho hLi hothers hI;unfold wpOp;rw[ho];simp only;rw[if_pos hg];refine .inl (Oper.wp_mono (fun a' w' h=>?_) hw);refine ih _ a' w' (by simpa using hs) hcount hcl' (.inl ⟨hall' _ i (Nat.le_refl _) h1,fun j hj=>hall' _ j (Nat.le_refl _) hj,h⟩)
  ·have hnofin:fin<ops.size->(listed.setIfInBounds i true).getD fin false=false:=by
    intro hlt;have hm:=hmore fin;simp only at hm;rw[hm,hF hlt];simpa using fun e=>hif e.symm
   unfold wpOp;rw[ho];simp only;rcases hstep _ a w1 i _ ho hif hLi (h3 _ ho) hI with ⟨hg,hw⟩ | ⟨hg,hv⟩
   ·rw[if_pos hg];refine .inl (Oper.wp_mono (fun a' w' h=>?_) hw);obtain⟨v,rfl,hbel,hv⟩:=h;exact ih _ _ w' (by simpa using hs) hcount hcl' (.inr ⟨hnofin,hI.put hS hown ho hbel hv hmore⟩)
   ·rw[if_neg (by rw[hg]; simp)];exact ih _ _ w1 (by simpa using hs) hcount hcl' (.inr ⟨hnofin,hI.put hS hown ho (Below.refl _ _) hv hmore⟩)
theorem gR.slot {S:Nat->World->Value->Prop} {a0:Act} {w0:World} {L:Nat->Bool} {a:Act} {w:World} (h:gR ops S a0 w0 L a w) {i d:Nat} (hL:L i=true) (hd:(ops[i]?).bind (·.dst)=some d):S d w (a.tmps.getD d undef):=by
 cases ho:ops[i]? with
 | none=>rw[ho] at hd; cases hd
 | some o=>rw[ho] at hd; exact h.holds i o d hL ho hd
def aO2 (ops:Array Oper) (t:Nat):Bool:=ops.all fun o=>o.dst != some t
theorem gR.free {S:Nat->World->Value->Prop} {a0:Act} {w0:World} {L:Nat->Bool} {a:Act} {w:World} (h:gR ops S a0 w0 L a w) {t:Nat} (hf:aO2 ops t=true):a.tmps.getD t undef=a0.tmps.getD t undef:=by
 refine vZ (h.kept t fun i o ho hd=>?_);unfold aO2 at hf;rw[Array.all_eq_true_iff_forall_mem] at hf;have:=hf o (Array.mem_of_getElem? ho);rw[hd] at this;simp at this
theorem fold_size (g:Nat->Value):∀ (D:List Nat) (x:Array Value),(D.foldl (fun t d=>t.setIfInBounds d (g d)) x).size=x.size
 | [],_=>rfl
 | d::D,x=>by
  rw[List.foldl_cons,fold_size g D];simp
theorem aHj (g:Nat->Value) (t:Nat):∀ (D:List Nat) (x:Array Value),t<x.size->(D.foldl (fun t d=>t.setIfInBounds d (g d)) x)[t]?=if t∈D then some (g t) else x[t]?
 | [],x,_=>by simp
 | d::D,x,h=>by
  rw[List.foldl_cons,aHj g t D _ (by simpa using h)];by_cases h1:t∈D
  ·rw[if_pos h1,if_pos (List.mem_cons_of_mem _ h1)]
  ·rw[if_neg h1,Array.getElem?_setIfInBounds];by_cases e:d=t
   ·subst e;rw[if_pos rfl,if_pos h,if_pos (List.mem_cons_self ..)]
   ·rw[if_neg e,if_neg (fun h2=>by rcases List.mem_cons.1 h2 with h3 | h3<;>first | exact e h3.symm | exact h1 h3)]
theorem aVz (g:Nat->Value) (D:List Nat) (x:Array Value) (t:Nat):(D.foldl (fun t d=>t.setIfInBounds d (g d)) x)[t]?=if t∈D/\t<x.size then some (g t) else x[t]?:=by
 by_cases h:t<x.size
 ·rw[aHj g t D x h];by_cases h1:t∈D
  ·rw[if_pos h1,if_pos ⟨h1,h⟩]
  ·rw[if_neg h1,if_neg (fun h2=>h1 h2.1)]
 ·rw[if_neg (fun h2=>h h2.2),Array.getElem?_eq_none (by rw[fold_size]; omega),Array.getElem?_eq_none (by omega)]
def inB (ops:Array Oper) (D:List Nat):Bool:=ops.toList.all fun o=>match o.dst with | none=>true | some d=>D.contains d
theorem gR.frame {S:Nat->World->Value->Prop} {a0:Act} {w0:World} {L:Nat->Bool} {a:Act} {w:World} (h:gR ops S a0 w0 L a w) (D:List Nat) (hD:inB ops D=true) :
  a=⟨D.foldl (fun t d=>t.setIfInBounds d (a.tmps.getD d undef)) a0.tmps,a0.defers⟩:=by
 obtain⟨tm,df⟩:=a;have h1:df=a0.defers:=h.defers;subst h1;congr 1;refine Array.ext_getElem? fun t=>?_;rw[aVz (fun d=>tm.getD d undef)];have hs:tm.size=a0.tmps.size:=h.size;by_cases ht:t∈D/\t<a0.tmps.size
 ·rw[if_pos ht,Array.getD_eq_getD_getElem?,Array.getElem?_eq_getElem (by omega)];rfl
 ·rw[if_neg ht];by_cases h2:t<a0.tmps.size
  ·refine h.kept t fun i o ho hd=>?_;exfalso;unfold inB at hD;rw[List.all_eq_true] at hD;have:=hD o (Array.mem_toList_iff.2 (Array.mem_of_getElem? ho));rw[hd] at this;exact ht ⟨by simpa using this,h2⟩
  ·rw[Array.getElem?_eq_none (by omega),Array.getElem?_eq_none (by omega)]
end
section
variable {P:Program} {ops:Array Oper} {Q:Exit->Act->World->Prop}
structure RInv (ops:Array Oper) (S:Nat->World->Value->Prop) (I:(Nat->Bool)->World->Prop) (a0:Act) (L:Nat->Bool) (a:Act) (w:World):Prop where
 size:a.tmps.size=a0.tmps.size
 defers:a.defers=a0.defers
 world:I L w
 kept:∀ t,(∀ i o,ops[i]?=some o->o.dst=some t->L i=false)->a.tmps[t]?=a0.tmps[t]?
 holds:∀ i o d,L i=true->ops[i]?=some o->o.dst=some d->S d w (a.tmps.getD d undef)
end
section
variable {P:Program} {ops:Array Oper} {Q:Exit->Act->World->Prop}
theorem aG0 {id:Nat} {a0:Act} {w:World} (fin:Nat) (S:Nat->World->Value->Prop) (hm:P.follows .mixedOrders=true) (hb:jO .any ops=true) (hown:ownB ops a0.tmps.size=true) (hcov:fin<ops.size->aBx ops fin=true)
  (hS:∀ t w w' v,S t w v->Below w.heap.size w w'->S t w' v)
  (hstep:∀ L a w1 i o,ops[i]?=some o->i≠fin->L i=false->(∀ e∈o.after,Region.binds .any e=true->L e.on=true)->(∀ j o',L j=true->ops[j]?=some o'->∀ e∈o'.after,Region.binds .any e=true->L e.on=true)->gR ops S a0 w L a w1->aGl P ops S Q o a w1)
  (hfin:∀ L a w1 o,ops[fin]?=some o->L fin=false->(∀ j,j<ops.size->j≠fin->L j=true)->gR ops S a0 w L a w1->Region.wanted o (yielded ops a.tmps)=true/\o.wp P a w1 (Q .normal) Q)
  (hend:ops.size<=fin->∀ L a w1,(∀ j,j<ops.size->L j=true)->gR ops S a0 w L a w1->Q .normal a w1) :
  (Code.region id ops true).wp P Q a0 w:=by
 refine wp_region_any hm ?_
 suffices H:∀ (fuel:Nat) (listed:Array Bool) (a:Act) (w1:World),listed.size=ops.size->listed.toList.countP (fun b => !b)<=fuel->(∀ i o,listed.getD i false=true->ops[i]?=some o->∀ e∈o.after,Region.binds .any e=true->listed.getD e.on false=true) ->
   ((listed.getD fin false=true/\(∀ j,j<ops.size->listed.getD j false=true)/\Q .normal a w1)\/((fin<ops.size->listed.getD fin false=false)/\gR ops S a0 w (fun i=>listed.getD i false) a w1))->wpAny P .any ops Q fuel listed a w1 by
  refine H _ _ _ _ (by simp) ?_ ?_ (.inr ⟨?_,?_⟩)
  ·refine Nat.le_trans (List.countP_le_length ..) (by simp)
  ·intro i o hi;simp only[Array.getD_eq_getD_getElem?,Array.getElem?_replicate] at hi;split at hi<;>cases hi
  ·intro _;simp only[Array.getD_eq_getD_getElem?,Array.getElem?_replicate];split<;>rfl
  ·refine⟨rfl,rfl,(Below.refl _ _).drew,fun _ _=>rfl,?_⟩;intro i o d hi;simp only[Array.getD_eq_getD_getElem?,Array.getElem?_replicate] at hi;split at hi<;>cases hi
 have hfull:∀ (listed:Array Bool) (a:Act) (w1:World),(∀ j,j<ops.size->listed.getD j false=true)->((listed.getD fin false=true/\(∀ j,j<ops.size->listed.getD j false=true)/\Q .normal a w1)\/((fin<ops.size->listed.getD fin false=false)/\gR ops S a0 w (fun i=>listed.getD i false) a w1))->Q .normal a w1:=by
  intro listed a w1 hall h;rcases h with ⟨_,_,h⟩ | ⟨h1,h2⟩
  ·exact h
  ·rcases Nat.lt_or_ge fin ops.size with hlt | hge
   ·rw[hall fin hlt] at h1;exact absurd (h1 hlt) (by simp)
   ·exact hend hge _ a w1 hall h2
 intro fuel
 induction fuel with
 | zero =>
  intro listed a w1 hs hc hcl hI;have hall:∀ i,i<ops.size->listed.getD i false=true:=by
   intro i hi;have h0:=Nat.le_zero.1 hc;rw[List.countP_eq_zero] at h0;have:=h0 (listed[i]'(by omega)) (by simp);simp only[Array.getD_eq_getD_getElem?];rw[Array.getElem?_eq_getElem (by omega)];simpa using this
  refine⟨?_,hfull listed a w1 hall hI⟩;cases hr:Region.ready .any ops listed with
  | nil=>rfl
  | cons x xs =>
   exfalso;obtain⟨h1,h2,_⟩:=tN (show x∈Region.ready .any ops listed by rw[hr]; exact List.mem_cons_self ..);have:=hall x h1;simp only[Array.getD_eq_getD_getElem?] at this h2;rw[Array.getElem?_eq_getElem (by omega)] at this h2;simp at this h2;rw[this] at h2;cases h2
 | succ fuel ih =>
  intro listed a w1 hs hc hcl hI;refine⟨fun hr=>hfull listed a w1 (fun i hi=>aC7 hb hs hr i i (Nat.le_refl _) hi) hI,fun i hi=>?_⟩;obtain⟨h1,h2,h3⟩:=tN hi;have ho:=Array.getElem?_eq_getElem h1;have hLi:listed.getD i false=false:=by
   simp only[Array.getD_eq_getD_getElem?] at h2 |-;rw[Array.getElem?_eq_getElem (by omega)] at h2 |-;simpa using h2
  have hcount:(listed.setIfInBounds i true).toList.countP (fun b => !b)<=fuel:=by
   have hil:i<listed.toList.length:=by simpa[hs] using h1
   have hval:listed.toList[i]=false:=by
    simp only[Array.getD_eq_getD_getElem?] at hLi;rw[Array.getElem?_eq_getElem (by omega)] at hLi;simpa using hLi
   have hset:(listed.setIfInBounds i true).toList=listed.toList.set i true:=Array.toList_setIfInBounds ..;rw[hset,List.countP_set hil,hval];have hpos:0<listed.toList.countP (fun b => !b):=List.countP_pos_iff.2 ⟨false,by rw[<- hval]; exact List.getElem_mem hil,rfl⟩;simp only[Bool.not_false,Bool.not_true,if_true,Bool.false_eq_true,if_false];omega
  have hmore:kO (fun j=>listed.getD j false) i (fun j=>(listed.setIfInBounds i true).getD j false):=by
   intro j;simp only[Array.getD_eq_getD_getElem?,Array.getElem?_setIfInBounds];by_cases e:i=j
   ·subst e;rw[if_pos rfl,if_pos (by omega)];simp
   ·rw[if_neg e];simp[Ne.symm e]
  have hcl':∀ k o,(listed.setIfInBounds i true).getD k false=true->ops[k]?=some o->∀ e∈o.after,Region.binds .any e=true->(listed.setIfInBounds i true).getD e.on false=true:=by
   intro k o hk hok e he hbe;have hm:=hmore e.on;simp only at hm;rw[hm];by_cases hki:k=i
   ·subst hki;rw[h3 o hok e he hbe]; rfl
   ·rw[hcl k o (hmore.old hki hk) hok e he hbe]; rfl
  rcases hI with ⟨_,hA,_⟩ | ⟨hF,hI⟩
  ·rw[hA i h1] at hLi; cases hLi
  by_cases hif:i=fin
  ·subst hif;have hall':=aM7 (L:=fun j=>(listed.setIfInBounds i true).getD j false) hb (hcov h1) hcl' ((hmore i).trans (by simp));have hothers:∀ j,j<ops.size->j≠i->listed.getD j false=true:=fun j hj hne=>hmore.old hne (hall' _ j (Nat.le_refl _) hj);obtain⟨hg,hw⟩:=hfin _ a w1 _ ho hLi hothers hI;unfold wpOp;rw[ho];simp only;rw[if_pos hg];refine .inl (Oper.wp_mono (fun a' w' h=>?_) hw);refine ih _ a' w' (by simpa using hs) hcount hcl' (.inl ⟨hall' _ i (Nat.le_refl _) h1,fun j hj=>hall' _ j (Nat.le_refl _) hj,h⟩)
  ·have hnofin:fin<ops.size->(listed.setIfInBounds i true).getD fin false=false:=by
    intro hlt;have hm:=hmore fin;simp only at hm;rw[hm,hF hlt];simpa using fun e=>hif e.symm
   unfold wpOp;rw[ho];simp only;rcases hstep _ a w1 i _ ho hif hLi (h3 _ ho) hcl hI with ⟨hg,hw⟩ | ⟨hg,hv⟩
   ·rw[if_pos hg];refine .inl (Oper.wp_mono (fun a' w' h=>?_) hw);obtain⟨v,rfl,hbel,hv⟩:=h;exact ih _ _ w' (by simpa using hs) hcount hcl' (.inr ⟨hnofin,hI.put hS hown ho hbel hv hmore⟩)
   ·rw[if_neg (by rw[hg]; simp)];exact ih _ _ w1 (by simpa using hs) hcount hcl' (.inr ⟨hnofin,hI.put hS hown ho (Below.refl _ _) hv hmore⟩)
def fI (ops:Array Oper) (t J:Nat):Bool:=(List.range ops.size).all fun j=>decide (j=J)||((ops[j]?).bind (·.dst) != some t)
def aNk (ops:Array Oper) (J i:Nat):Bool:=match ops[J]? with
 | none=>false
 | some o=>o.after.toList.any fun e=>Region.binds .any e&&decide (e.on=i)
theorem gR.old {S:Nat->World->Value->Prop} {a0:Act} {w0:World} {L:Nat->Bool} {a:Act} {w:World} (h:gR ops S a0 w0 L a w)
  (hcl:∀ j o',L j=true->ops[j]?=some o'->∀ e∈o'.after,Region.binds .any e=true->L e.on=true) {t J i:Nat} (ho:fI ops t J=true) (hL:L i=false) (hw:aNk ops J i=true):a.tmps.getD t undef=a0.tmps.getD t undef:=by
 refine vZ (h.kept t fun j o' ho' hd'=>?_);unfold fI at ho;rw[List.all_eq_true] at ho;have h1:=ho j (List.mem_range.2 (Array.getElem?_eq_some_iff.1 ho').1);rw[ho'] at h1;simp only[Option.bind_some,hd',bne_self_eq_false,Bool.or_false,decide_eq_true_eq] at h1;subst h1;cases hLJ:L j with
 | false=>rfl
 | true =>
  exfalso;unfold aNk at hw;rw[ho'] at hw;simp only[List.any_eq_true,Bool.and_eq_true,decide_eq_true_eq] at hw;obtain⟨e,he,hbe,hei⟩:=hw;have:=hcl j o' hLJ ho' e (Array.mem_toList_iff.1 he) hbe;rw[hei,hL] at this;cases this
end
section
variable {P:Program} {ops:Array Oper} {Q:Exit->Act->World->Prop}
theorem wpAny_all (J:(Nat->Bool)->Act->World->Prop) (hb:jO .any ops=true)
  (hstep:∀ L a w1 i o,ops[i]?=some o->L i=false->(∀ e∈o.after,Region.binds .any e=true->L e.on=true)->(∀ j o',L j=true->ops[j]?=some o'->∀ e∈o'.after,Region.binds .any e=true->L e.on=true)->J L a w1 ->
   (Region.wanted o (yielded ops a.tmps)=true/\o.wp P a w1 (fun a' w'=>∀ L',kO L i L'->J L' a' w') Q)\/(Region.wanted o (yielded ops a.tmps)=false/\∀ L',kO L i L'->J L' (a.put o.dst undef) w1))
  (hend:∀ L a w1,(∀ j,j<ops.size->L j=true)->J L a w1->Q .normal a w1) :
  ∀ (fuel:Nat) (listed:Array Bool) (a:Act) (w1:World),listed.size=ops.size->listed.toList.countP (fun b => !b)<=fuel->(∀ i o,listed.getD i false=true->ops[i]?=some o->∀ e∈o.after,Region.binds .any e=true->listed.getD e.on false=true)->J (fun i=>listed.getD i false) a w1->wpAny P .any ops Q fuel listed a w1:=by
 intro fuel
 induction fuel with
 | zero =>
  intro listed a w1 hs hc hcl hI;have hall:∀ i,i<ops.size->listed.getD i false=true:=by
   intro i hi;have h0:=Nat.le_zero.1 hc;rw[List.countP_eq_zero] at h0;have:=h0 (listed[i]'(by omega)) (by simp);simp only[Array.getD_eq_getD_getElem?];rw[Array.getElem?_eq_getElem (by omega)];simpa using this
  refine⟨?_,hend _ a w1 hall hI⟩;cases hr:Region.ready .any ops listed with
  | nil=>rfl
  | cons x xs =>
   exfalso;obtain⟨h1,h2,_⟩:=tN (show x∈Region.ready .any ops listed by rw[hr]; exact List.mem_cons_self ..);have:=hall x h1;simp only[Array.getD_eq_getD_getElem?] at this h2;rw[Array.getElem?_eq_getElem (by omega)] at this h2;simp at this h2;rw[this] at h2;cases h2
 | succ fuel ih =>
  intro listed a w1 hs hc hcl hI;refine⟨fun hr=>hend _ a w1 (fun i hi=>aC7 hb hs hr i i (Nat.le_refl _) hi) hI,fun i hi=>?_⟩;obtain⟨h1,h2,h3⟩:=tN hi;have ho:=Array.getElem?_eq_getElem h1;have hLi:listed.getD i false=false:=by
   simp only[Array.getD_eq_getD_getElem?] at h2 |-;rw[Array.getElem?_eq_getElem (by omega)] at h2 |-;simpa using h2
  have hcount:(listed.setIfInBounds i true).toList.countP (fun b => !b)<=fuel:=by
   have hil:i<listed.toList.length:=by simpa[hs] using h1
   have hval:listed.toList[i]=false:=by
    simp only[Array.getD_eq_getD_getElem?] at hLi;rw[Array.getElem?_eq_getElem (by omega)] at hLi;simpa using hLi
   have hset:(listed.setIfInBounds i true).toList=listed.toList.set i true:=Array.toList_setIfInBounds ..;rw[hset,List.countP_set hil,hval];have hpos:0<listed.toList.countP (fun b => !b):=List.countP_pos_iff.2 ⟨false,by rw[<- hval]; exact List.getElem_mem hil,rfl⟩;simp only[Bool.not_false,Bool.not_true,if_true,Bool.false_eq_true,if_false];omega
  have hmore:kO (fun j=>listed.getD j false) i (fun j=>(listed.setIfInBounds i true).getD j false):=by
   intro j;simp only[Array.getD_eq_getD_getElem?,Array.getElem?_setIfInBounds];by_cases e:i=j
   ·subst e;rw[if_pos rfl,if_pos (by omega)];simp
   ·rw[if_neg e];simp[Ne.symm e]
  have hcl':∀ k o,(listed.setIfInBounds i true).getD k false=true->ops[k]?=some o->∀ e∈o.after,Region.binds .any e=true->(listed.setIfInBounds i true).getD e.on false=true:=by
   intro k o hk hok e he hbe;have hm:=hmore e.on;simp only at hm;rw[hm];by_cases hki:k=i
   ·subst hki;rw[h3 o hok e he hbe]; rfl
   ·rw[hcl k o (hmore.old hki hk) hok e he hbe]; rfl
  unfold wpOp;rw[ho];simp only;rcases hstep _ a w1 i _ ho hLi (h3 _ ho) hcl hI with ⟨hg,hw⟩ | ⟨hg,hv⟩
  ·rw[if_pos hg];refine .inl (Oper.wp_mono (fun a' w' h=>?_) hw);exact ih _ _ w' (by simpa using hs) hcount hcl' (h _ hmore)
  ·rw[if_neg (by rw[hg]; simp)];exact ih _ _ w1 (by simpa using hs) hcount hcl' (hv _ hmore)
theorem aPy {id:Nat} {a0:Act} {w:World} (J:(Nat->Bool)->Act->World->Prop) (hm:P.follows .mixedOrders=true) (hb:jO .any ops=true)
  (hstart:∀ L,(∀ i,L i=false)->J L a0 w.drew)
  (hstep:∀ L a w1 i o,ops[i]?=some o->L i=false->(∀ e∈o.after,Region.binds .any e=true->L e.on=true)->(∀ j o',L j=true->ops[j]?=some o'->∀ e∈o'.after,Region.binds .any e=true->L e.on=true)->J L a w1 ->
   (Region.wanted o (yielded ops a.tmps)=true/\o.wp P a w1 (fun a' w'=>∀ L',kO L i L'->J L' a' w') Q)\/(Region.wanted o (yielded ops a.tmps)=false/\∀ L',kO L i L'->J L' (a.put o.dst undef) w1))
  (hend:∀ L a w1,(∀ j,j<ops.size->L j=true)->J L a w1->Q .normal a w1) :
  (Code.region id ops true).wp P Q a0 w:=by
 refine wp_region_any hm ?_;have hz:∀ i,(Array.replicate ops.size false).getD i false=false:=by
  intro i;simp only[Array.getD_eq_getD_getElem?,Array.getElem?_replicate];split<;>rfl
 refine wpAny_all J hb hstep hend _ _ _ _ (by simp) ?_ ?_ (hstart _ hz)
 ·refine Nat.le_trans (List.countP_le_length ..) (by simp)
 ·intro i o hi;rw[hz i] at hi;cases hi
end
end Pu
end Go.Proofs.YtbaihklbefhgdaaGreat
