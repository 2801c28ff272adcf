/-
  
-/
import Derived.RangeFuncNested
import Derived.RangeFuncBound
import Derived.RangeFuncCalls
import Derived.RangeFuncLeaves
import Derived.RangeFuncBox
import Derived.OrdersIn
import Derived.Test.YtbaihklbefhgdaaGreatSC10
set_option linter.unusedVariables false
set_option linter.unusedSimpArgs false
set_option linter.unusedSectionVars false
namespace Go.Proofs.YtbaihklbefhgdaaGreat
open Go.RowKit
namespace Vc
section
variable {P:Program} {ops:Array Oper} {Q:Exit->Act->World->Prop}
theorem aYl {a0:Act} {w:World} (J:(Nat->Bool)->Act->World->Prop) (hb:Pu.jO .any ops=true)
  (hstart:∀ L,(∀ i,L i=false)->J L a0 w.drew)
  (hstep:∀ L a w1 i o,ops[i]?=some o->L i=false->(∀ e∈o.after,Region.binds .any e=true->L e.on=true)->(∀ j o',L j=true->ops[j]?=some o'->∀ e∈o'.after,Region.binds .any e=true->L e.on=true)->J L a w1 ->
   (Region.wanted o (yielded ops a.tmps)=true/\o.wp P a w1 (fun a' w'=>∀ L',Pu.kO L i L'->J L' a' w') Q)\/(Region.wanted o (yielded ops a.tmps)=false/\∀ L',Pu.kO L i L'->J L' (a.put o.dst undef) w1))
  (hend:∀ L a w1,(∀ j,j<ops.size->L j=true)->J L a w1->Q .normal a w1) :
  wpAny P .any ops Q ops.size (Array.replicate ops.size false) a0 w.drew:=by
 have hz:∀ i,(Array.replicate ops.size false).getD i false=false:=by
  intro i;simp only[Array.getD_eq_getD_getElem?,Array.getElem?_replicate];split<;>rfl
 refine Pu.wpAny_all J hb hstep hend _ _ _ _ (by simp) ?_ ?_ (hstart _ hz)
 ·refine Nat.le_trans (List.countP_le_length ..) (by simp)
 ·intro i o hi;rw[hz i] at hi;cases hi
end
section
variable {X:Type} (x0:X) (C:(Key->X)->Act->World->Prop) (P:Program) (ops:Array Oper)
theorem aRf {σ:Key->X} {a:Act} {w:World} {Q:Exit->Act->World->Prop} (st:Nat->Stp X) (l:List (Stp X)) (hl:l.length=ops.size) (hst:∀ i,i<l.length->l[i]?=some (st i))
  (hb:Pu.jO .any ops=true) (hchk:yN ops l=true) (hdrew:∀ a w,C σ a w->C σ a w.drew)
  (hs:∀ i o,ops[i]?=some o->iM C P ops (runN σ st (fun _=>true) i) o (st i))
  (h0:C σ a w) (hend:∀ a' w',C (runN σ st (fun _=>true) ops.size) a' w'->Q .normal a' w'):wpAny P .any ops Q ops.size (Array.replicate ops.size false) a w.drew:=by
 have hmask:aBk ops (kH ops.toList []):=aD5 hb ops.toList [] (fun k=>by simp) (fun L _ i hi=>by simp at hi);have hmlen:(kH ops.toList []).length=ops.size:=by
  have:∀ (l:List Oper) acc,(kH l acc).length=acc.length+l.length:=by
   intro l
   induction l with
   | nil=>intro acc; simp[kH]
   | cons o l ih=>intro acc; simp only[kH,ih,List.length_append,List.length_cons,List.length_nil]; omega
  simp[this]
 have hord:∀ i j,j<i->i<ops.size->clash (st j) (st i)=true->((kH ops.toList []).getD i 0).testBit j=true:=by
  intro i j h1 h2 h3;exact aDn l [] hchk i j (st j) (st i) (Nat.zero_le _) h1 (by rw[List.nil_append]; exact hst i (by omega)) (by rw[List.nil_append]; exact hst j (by omega)) h3
 have hfree:∀ i j,clash (st j) (st i)=false->(∀ k∈keys (st j).wr,k ∉ (st i).rd/\k ∉ keys (st i).wr)/\∀ k∈keys (st i).wr,k ∉ (st j).rd:=by
  intro i j h;unfold clash at h;simp only[Bool.or_eq_false_iff] at h;exact⟨fun k hk=>⟨rV h.1.1 hk,rV h.1.2 hk⟩,fun k hk=>rV h.2 hk⟩
 refine aYl (J:=fun L a w=>C (runN σ st L ops.size) a w) hb ?_ ?_ ?_
 ·intro L hL;have:runN σ st L ops.size=σ:=by
   funext k
   rw[wK (i:=0) ops.size (Nat.zero_le _) (fun j _ _ h=>by rw[hL j] at h; cases h)];rfl
  rw[this];exact hdrew _ _ h0
 ·intro L a1 w1 i o ho hLi hpre hcl hJ;have hi:i<ops.size:=(Array.getElem?_eq_some_iff.1 ho).1;have hbefore:∀ j,j<i->L j=false->clash (st j) (st i)=false:=by
   intro j hj hLj;cases e:clash (st j) (st i) with
   | false=>rfl
   | true =>
    have:=hmask L hcl i (by rw[hmlen]; exact hi) j (hord i j hj hi e) (fun o' ho'=>by rw[ho] at ho'; obtain rfl:=Option.some.inj ho'; exact hpre);rw[hLj] at this;cases this
  have hafter:∀ j,i<j->j<ops.size->L j=true->clash (st i) (st j)=false:=by
   intro j hj hjs hLj;cases e:clash (st i) (st j) with
   | false=>rfl
   | true =>
    have:=hmask L hcl j (by rw[hmlen]; exact hjs) i (hord j i hj hjs e) (fun o' ho'=>hcl j o' hLj ho');rw[hLi] at this;cases this
  have hsame:∀ k,(k∈(st i).rd\/k∈keys (st i).wr)->runN σ st L ops.size k=runN σ st (fun _=>true) i k:=by
   intro k hk;rw[wK (i:=i) ops.size (by omega) ?_]
   ·refine tC i fun j hj hne hkj=>?_;have hLj:L j=false:=by cases e:L j with | false=>rfl | true=>rw[e] at hne; exact absurd rfl hne
    have h:=(hfree i j (hbefore j hj hLj)).1 k hkj;rcases hk with hk | hk
    ·exact h.1 hk
    ·exact h.2 hk
   ·intro j h1 h2 h3 hkj;rcases Nat.eq_or_lt_of_le h1 with e | e
    ·subst e; rw[hLi] at h3; cases h3
    ·have h:=hfree j i (hafter j e h2 h3);rcases hk with hk | hk
     ·exact h.2 k hkj hk
     ·exact(h.1 k hk).2 hkj
  have hmore:∀ L',Pu.kO L i L'->runN σ st L' ops.size=upd (runN σ st L ops.size) (st i).wr:=by
   intro L' hL';refine aIu hi hL' hLi fun j h1 h2 h3 k hk hki=>?_;exact((hfree j i (hafter j h1 h2 h3)).1 k hki).2 hk
  rcases hs i o ho _ a1 w1 Q hJ (fun k hk=>hsame k (.inl hk)) (fun k hk=>hsame k (.inr hk)) with ⟨h1,h2⟩ | ⟨h1,h2⟩
  ·refine .inl ⟨h1,h2 _ fun a' w' hC L' hL'=>?_⟩;show C (runN σ st L' ops.size) a' w';rw[hmore L' hL'];exact hC
  ·refine .inr ⟨h1,fun L' hL'=>?_⟩;show C (runN σ st L' ops.size) _ w1;rw[hmore L' hL'];exact h2
 ·intro L a1 w1 hL hJ;refine hend a1 w1 ?_;have:runN σ st L ops.size=runN σ st (fun _=>true) ops.size:=by
   funext k
   exact tC _ fun j hj hne=>absurd (hL j hj) hne
  rw[<- this];exact hJ
end
/-! From the plain walk to the walk in a round,at the wide fence. -/
abbrev rK (l:Nat):Fence:=Fence.wide.inRound l
def nL (o:Oper):Bool:=match o.op with
 | .defer _=>false
 | _=>true
section
variable {P:Program} {ops:Array Oper} {Q:Exit->Act->World->Prop} {l n:Nat}
theorem aSn {row:String} {args:Array Value} {w:World} {R R':Value->World->Prop} (h:Rows P row args w R) (hR:∀ v w,R v w->R' v w):RowsIn (rK l) n P row args w R':=fun c cs _ =>
 let ⟨v,w',r,s⟩:=h c cs
 ⟨v,w',hR _ _ r,stepsIn_wide.2 s⟩
theorem aOy {o:Oper} {a:Act} {w:World} {K K':Act->World->Prop} (hd:nL o=true) (h:o.wp P a w K Q) (hK:∀ a w,K a w->K' a w):o.wpIn (rK l) n P a w K' Q:=by
 refine⟨fun _ _=>trivial,?_⟩;rw[Oper.semAt_eq _ _ _ (fun c hc=>by unfold nL at hd; rw[hc] at hd; cases hd)];unfold Oper.wp at h;generalize (execOp a.eval o).run P w=r at h |-;unfold Oper.upon at h;unfold Oper.uponIn;split at h
 ·exact hK _ _ h
 ·exact hK _ _ h
 ·exact hK _ _ h
 ·refine⟨fun h=>(by cases h),CallsIn.inRound l (callsIn_wide.2 (Calls.mono h ?_))⟩;intro e w' he;cases e with
  | returned v=>exact hK _ _ he
  | panicked c=>exact he
  | outgrown=>exact he
 ·exact⟨fun h=>(by cases h),aSn h fun v w h=>hK _ _ h⟩
 ·exact h
 ·exact h.elim
theorem uT (hQ:¬ LetsOut Q):∀ (rest:List Oper) (a:Act) (w:World),(rest.all nL)=true->wpList P ops Q rest a w->wpListIn (rK l) n P ops Q rest a w
 | [],_,_,_,h=>h
 | o::rest,a,w,hd,h=>by
  rw[List.all_cons,Bool.and_eq_true] at hd;unfold wpList at h;unfold wpListIn;split at h
  ·rename_i hw;rw[if_pos hw];rcases h with h | ⟨_,h⟩
   ·exact aOy hd.1 h fun a w h=>uT hQ rest a w hd.2 h
   ·exact absurd h hQ
  ·rename_i hw;rw[if_neg hw];exact⟨fun _ _=>trivial,uT hQ rest _ _ hd.2 h⟩
theorem aBj (hQ:¬ LetsOut Q) (hd:∀ (i:Nat) (o:Oper),ops[i]?=some o->nL o=true):∀ (fuel:Nat) (listed:Array Bool) (a:Act) (w:World),wpAny P .any ops Q fuel listed a w->wpAnyIn (rK l) n P .any ops Q fuel listed a w
 | 0,_,_,_,h=>h
 | fuel+1,listed,a,w,⟨h1,h2⟩=>by
  refine⟨h1,fun i hi=>?_⟩;have h:=h2 i hi;unfold wpOp at h;unfold wpOpIn;cases ho:ops[i]? with
  | none =>
   rw[ho] at h;exact aBj hQ hd fuel _ _ _ h
  | some o =>
   rw[ho] at h;simp only at h |-;split at h
   ·rename_i hw;rw[if_pos hw];rcases h with h | ⟨_,h⟩
    ·exact aOy (hd i o ho) h fun a w h=>aBj hQ hd fuel _ _ _ h
    ·exact absurd h hQ
   ·rename_i hw;rw[if_neg hw];exact⟨fun _ _=>trivial,aBj hQ hd fuel _ _ _ h⟩
end
section
variable {X:Type} {x0:X} {C:(Key->X)->Act->World->Prop} {P:Program} {ops:Array Oper} {l0 n:Nat}
def aOr (x0:X) (C:(Key->X)->Act->World->Prop) (K:List (Key × X)->Prop):Exit->Act->World->Prop
 | .normal,a,w=>∃ l,K l/\C (aF x0 l) a w
 | _,_,_=>False
theorem RV.wpIn {id:Nat} {draw:Bool} {l:List (Key × X)} {K:List (Key × X)->Prop} {a:Act} {w:World} (hdrew:∀ a w,C (aF x0 l) a w->C (aF x0 l) a w.drew)
  (hm:P.follows .mixedOrders=true) (hb:draw=true->Pu.jO .any ops=true) (hd:ops.toList.all nL=true) (h:RV x0 C P ops draw ops.toList [] l K) (hC:C (aF x0 l) a w):(Code.region id ops draw).wpIn (rK l0) n P (aOr x0 C K) a w:=by
 have hQ:¬ LetsOut (aOr x0 C K):=by
  rintro⟨a,w,h⟩;exact h
 cases draw with
 | false=>exact wpIn_region_list (uT hQ _ _ _ hd (RV.list (fun l a w k c=>⟨l,k,c⟩) _ _ _ _ _ h hC))
 | true =>
  obtain⟨st,l',h1,h2,h3,h4,h5⟩:=aEq _ _ _ h;rw[Array.length_toList] at h1 h5;refine wpIn_region_any hm (aBj hQ (fun i o ho=>List.all_eq_true.1 hd o (Array.mem_toList_iff.2 (Array.mem_of_getElem? ho))) _ _ _ _ (aRf C P ops (fun j=>st.getD j ⟨[],[]⟩) st h1 ?_ (hb rfl) h2 hdrew ?_ hC ?_))
  ·intro i hi;rw[List.getD_eq_getElem?_getD,List.getElem?_eq_getElem hi];rfl
  ·intro i o ho;obtain⟨s,k1,k2⟩:=h4 i o (by simpa using ho);rw[show st.getD i ⟨[],[]⟩=s by rw[List.getD_eq_getElem?_getD,k1]; rfl];exact k2
  ·intro a' w' hC';rw[h5] at hC';exact⟨_,h3,hC'⟩
end
end Vc
end Go.Proofs.YtbaihklbefhgdaaGreat
