/-
  
-/
import Derived.Test.YtbaihklbefhgdaaGreatSC2
set_option linter.unusedVariables false
set_option linter.unusedSimpArgs false
set_option linter.unusedSectionVars false
namespace Go.Proofs.YtbaihklbefhgdaaGreat
open Go.RowKit
namespace Vc
theorem bd {d n:Nat} (h:Nat.blt d n=true:=by exact rfl):d<n:=by rwa[Nat.blt_eq] at h
inductive Key where
 | s (t:Nat)
 | b (i:Nat)
def Key.beq:Key->Key->Bool
 | .s x,.s y=>Nat.beq x y
 | .b x,.b y=>Nat.beq x y
 | _,_=>false
theorem rT {a b:Key}:Key.beq a b=true ↔ a=b:=by
 cases a<;>cases b<;>simp[Key.beq,Nat.beq_eq]
theorem iE (a:Key):Key.beq a a=true:=rT.2 rfl
theorem iG {a b:Key} (h:a≠b):Key.beq a b=false:=by
 cases e:Key.beq a b with
 | false=>rfl
 | true=>exact absurd (rT.1 e) h
section
variable {X:Type}
def aF (x0:X):List (Key × X)->Key->X
 | [],_=>x0
 | (k,x)::r,q=>bif Key.beq k q then x else aF x0 r q
def upd (σ:Key->X):List (Key × X)->Key->X
 | [],q=>σ q
 | (k,x)::r,q=>bif Key.beq k q then x else upd σ r q
theorem fZ (x0:X) (l wr:List (Key × X)):upd (aF x0 l) wr=aF x0 (wr++l):=by
 funext q
 induction wr with
 | nil=>rfl
 | cons p r ih =>
  obtain⟨k,x⟩:=p;show (bif _ then x else upd (aF x0 l) r q)=(bif _ then x else aF x0 (r++l) q);rw[ih]
def keys (wr:List (Key × X)):List Key:=wr.map (·.1)
theorem lI {σ:Key->X} {wr:List (Key × X)} {q:Key} (h:q ∉ keys wr):upd σ wr q=σ q:=by
 induction wr with
 | nil=>rfl
 | cons p r ih =>
  obtain⟨k,x⟩:=p;simp only[keys,List.map_cons,List.mem_cons,not_or] at h;show (bif Key.beq k q then x else upd σ r q)=_;rw[iG (fun e=>h.1 e.symm)];exact ih h.2
theorem upd_same {σ τ:Key->X} {wr:List (Key × X)} {q:Key} (h:q∈keys wr):upd σ wr q=upd τ wr q:=by
 induction wr with
 | nil=>cases h
 | cons p r ih =>
  obtain⟨k,x⟩:=p;show (bif Key.beq k q then x else upd σ r q)=(bif Key.beq k q then x else upd τ r q);cases e:Key.beq k q with
  | true=>rfl
  | false =>
   simp only[keys,List.map_cons,List.mem_cons] at h;rcases h with h | h
   ·rw[h,iE] at e; cases e
   ·exact ih h
structure Stp (X:Type) where
 rd:List Key
 wr:List (Key × X)
def runN (σ:Key->X) (st:Nat->Stp X) (L:Nat->Bool):Nat->Key->X
 | 0=>σ
 | n+1=>bif L n then upd (runN σ st L n) (st n).wr else runN σ st L n
theorem tC {σ:Key->X} {st:Nat->Stp X} {L M:Nat->Bool} {k:Key}:∀ i,(∀ j,j<i->L j≠M j->k ∉ keys (st j).wr)->runN σ st L i k=runN σ st M i k
 | 0,_=>rfl
 | i+1,h=>by
  have ih:=tC (σ:=σ) i (fun j hj=>h j (by omega));have hi:=h i (by omega);show (bif L i then upd (runN σ st L i) (st i).wr else runN σ st L i) k=(bif M i then upd (runN σ st M i) (st i).wr else runN σ st M i) k;by_cases hk:k∈keys (st i).wr
  ·have e:L i=M i:=Classical.byContradiction fun e=>hi e hk;rw[e];cases M i with
   | true=>exact upd_same hk
   | false=>exact ih
  ·cases L i<;>cases M i<;>simp only[cond_true,cond_false]
   ·exact ih
   ·rw[lI hk]; exact ih
   ·rw[lI hk]; exact ih
   ·rw[lI hk,lI hk]; exact ih
theorem wK {σ:Key->X} {st:Nat->Stp X} {L:Nat->Bool} {k:Key} {i:Nat}:∀ n,i<=n->(∀ j,i<=j->j<n->L j=true->k ∉ keys (st j).wr)->runN σ st L n k=runN σ st L i k:=by
 intro n
 induction n with
 | zero =>
  intro h _;have e:i=0:=by omega
  rw[e]
 | succ n ih =>
  intro h hk;rcases Nat.lt_or_ge n i with h1 | h1
  ·obtain rfl:i=n+1:=by omega
   rfl
  ·rw[<- ih h1 (fun j a b=>hk j a (by omega))];show (bif L n then upd (runN σ st L n) (st n).wr else runN σ st L n) k=_;cases e:L n with
   | true=>exact lI (hk n h1 (by omega) e)
   | false=>rfl
theorem aIu {σ:Key->X} {st:Nat->Stp X} {L L':Nat->Bool} {i n:Nat} (hi:i<n) (hL:Pu.kO L i L') (hLi:L i=false)
  (hd:∀ j,i<j->j<n->L j=true->∀ k,k∈keys (st j).wr->k ∉ keys (st i).wr):runN σ st L' n=upd (runN σ st L n) (st i).wr:=by
 funext k
 have hn:∀ j,j≠i->L' j=L j:=fun j hj=>by rw[hL j]; simp[hj]
 by_cases hk:k∈keys (st i).wr
 ·rw[wK (i:=i+1) n (by omega) (fun j a b c h=>hd j (by omega) b (by rw[hn j (by omega)] at c; exact c) k h hk)];show (bif L' i then upd (runN σ st L' i) (st i).wr else runN σ st L' i) k=_;rw[show L' i=true by rw[hL i]; simp];exact upd_same hk
 ·rw[lI hk];refine tC n fun j _ hne=>?_;by_cases e:j=i
  ·subst e; exact hk
  ·exact absurd (hn j e) hne
def yF (k:Key):List Key->Bool
 | []=>false
 | q::r=>Key.beq q k||yF k r
theorem aVo {k:Key} {l:List Key}:yF k l=true ↔ k∈l:=by
 induction l with
 | nil=>simp[yF]
 | cons q r ih=>simp only[yF,Bool.or_eq_true,ih,rT,List.mem_cons]; constructor<;>rintro(h | h)<;>simp[h]
def vM (l m:List Key):Bool:=l.any fun k=>yF k m
theorem rV {l m:List Key} (h:vM l m=false) {k:Key} (hk:k∈l):k ∉ m:=by
 intro hm;unfold vM at h;rw[List.any_eq_false] at h;exact h k hk (aVo.2 hm)
def clash (a b:Stp X):Bool:=vM (keys a.wr) b.rd||vM (keys a.wr) (keys b.wr)||vM (keys b.wr) a.rd
def aN7 (acc:List Nat) (o:Oper):Nat:=o.after.toList.foldl (fun m e=>bif Region.binds .any e then (m ||| (1 <<< e.on)) ||| acc.getD e.on 0 else m) 0
def kH:List Oper->List Nat->List Nat
 | [],acc=>acc
 | o::r,acc=>kH r (acc++[aN7 acc o])
theorem aJc {acc:List Nat} {j:Nat}:∀ (l:List Edge) (m:Nat),(l.foldl (fun m e=>bif Region.binds .any e then (m ||| (1 <<< e.on)) ||| acc.getD e.on 0 else m) m).testBit j=true ->
  m.testBit j=true\/∃ e∈l,Region.binds .any e=true/\(e.on=j\/(acc.getD e.on 0).testBit j=true)
 | [],m,h=>.inl h
 | e::l,m,h=>by
  rw[List.foldl_cons] at h;rcases aJc l _ h with h | ⟨e',he,h⟩
  ·cases hb:Region.binds .any e with
   | false=>rw[hb] at h; exact .inl h
   | true =>
    rw[hb,cond_true,Nat.testBit_or,Nat.testBit_or] at h;simp only[Bool.or_eq_true] at h;rcases h with (h | h) | h
    ·exact .inl h
    ·refine .inr ⟨e,by simp,hb,.inl ?_⟩;rw[Nat.one_shiftLeft,Nat.testBit_two_pow] at h;simpa using h
    ·exact .inr ⟨e,by simp,hb,.inr h⟩
  ·exact .inr ⟨e',by simp[he],h⟩
def Closed (ops:Array Oper) (L:Nat->Bool):Prop:=∀ i o,L i=true->ops[i]?=some o->∀ e∈o.after,Region.binds .any e=true->L e.on=true
def aBk (ops:Array Oper) (acc:List Nat):Prop:=∀ L,Closed ops L->∀ i,i<acc.length->∀ j,(acc.getD i 0).testBit j=true->(∀ o,ops[i]?=some o->∀ e∈o.after,Region.binds .any e=true->L e.on=true)->L j=true
theorem aD5 {ops:Array Oper} (hback:Pu.jO .any ops=true):∀ (l:List Oper) (acc:List Nat),(∀ k,l[k]?=ops[acc.length+k]?)->aBk ops acc->aBk ops (kH l acc)
 | [],acc,_,h=>h
 | o::l,acc,hl,h=>by
  have ho:ops[acc.length]?=some o:=by have:=hl 0; simpa using this.symm
  refine aD5 hback l (acc++[aN7 acc o]) (fun k=>?_) ?_
  ·have:=hl (k+1);simpa[Nat.add_assoc,Nat.add_comm 1 k] using this
  ·intro L hL i hi j hb hp;rw[List.length_append] at hi;rcases Nat.lt_or_ge i acc.length with h1 | h1
   ·rw[List.getD_eq_getElem?_getD,List.getElem?_append_left h1,<- List.getD_eq_getElem?_getD] at hb;exact h L hL i h1 j hb hp
   ·obtain rfl:i=acc.length:=by simp at hi; omega
    rw[List.getD_eq_getElem?_getD,List.getElem?_append_right (Nat.le_refl _)] at hb;simp only[Nat.sub_self,List.getElem?_cons_zero,Option.getD_some] at hb;rcases aJc _ _ hb with hz | ⟨e,he,hbe,h2⟩
    ·simp at hz
    ·have he':e∈o.after:=Array.mem_toList_iff.1 he;have hLe:=hp o ho e he' hbe;rcases h2 with rfl | h2
     ·exact hLe
     ·have hlt:=Pu.aA0 hback ho he' hbe;exact h L hL e.on hlt j h2 (fun o' ho'=>hL e.on o' hLe ho')
def aBg (ms:List Nat) (i:Nat) (b:Stp X):Nat->List (Stp X)->Bool
 | _,[]=>true
 | j,a::r=>(!clash a b||(ms.getD i 0).testBit j)&&aBg ms i b (j+1) r
def aBh (ms:List Nat):Nat->List (Stp X)->List (Stp X)->Bool
 | _,_,[]=>true
 | i,done,b::r=>aBg ms i b 0 done&&aBh ms (i+1) (done++[b]) r
theorem aJw {ms:List Nat} {i:Nat} {b:Stp X}:∀ (l:List (Stp X)) (j:Nat),aBg ms i b j l=true->∀ k a,l[k]?=some a->clash a b=true->(ms.getD i 0).testBit (j+k)=true
 | [],_,_,k,a,h,_=>by cases k<;>cases h
 | c::l,j,h,k,a,hk,hc=>by
  simp only[aBg,Bool.and_eq_true] at h;cases k with
  | zero =>
   obtain rfl:c=a:=by simpa using hk
   have:=h.1;rw[hc] at this;simpa using this
  | succ k =>
   have:=aJw l (j+1) h.2 k a (by simpa using hk) hc;rwa[Nat.add_assoc,Nat.add_comm 1 k] at this
theorem aDn {ms:List Nat}:∀ (l done:List (Stp X)),aBh ms done.length done l=true->∀ i j a b,done.length<=i->j<i->(done++l)[i]?=some b->(done++l)[j]?=some a->clash a b=true->(ms.getD i 0).testBit j=true
 | [],done,_,i,j,a,b,h1,_,h3,_,_=>by rw[List.append_nil,List.getElem?_eq_none h1] at h3; cases h3
 | c::l,done,h,i,j,a,b,h1,h2,h3,h4,h5=>by
  simp only[aBh,Bool.and_eq_true] at h;rcases Nat.eq_or_lt_of_le h1 with e | e
  ·subst e;rw[List.getElem?_append_right (Nat.le_refl _)] at h3;simp only[Nat.sub_self,List.getElem?_cons_zero] at h3;obtain rfl:=Option.some.inj h3;rw[List.getElem?_append_left h2] at h4;have:=aJw done 0 h.1 j a h4 h5;rwa[Nat.zero_add] at this
  ·refine aDn l (done++[c]) (by rw[List.length_append]; exact h.2) i j a b (by rw[List.length_append]; exact e) h2 ?_ ?_ h5
   ·simpa using h3
   ·simpa using h4
def yN (ops:Array Oper) (l:List (Stp X)):Bool:=aBh (kH ops.toList []) 0 [] l
end
section
variable {X:Type} (x0:X) (C:(Key->X)->Act->World->Prop) (P:Program) (ops:Array Oper)
def iM (σ:Key->X) (o:Oper) (st:Stp X):Prop :=
 ∀ σ' a w (Q:Exit->Act->World->Prop),C σ' a w->(∀ k∈st.rd,σ' k=σ k)->(∀ k∈keys st.wr,σ' k=σ k) ->
  (Region.wanted o (yielded ops a.tmps)=true/\∀ K:Act->World->Prop,(∀ a' w',C (upd σ' st.wr) a' w'->K a' w')->o.wp P a w K Q) \/
  (Region.wanted o (yielded ops a.tmps)=false/\C (upd σ' st.wr) (a.put o.dst undef) w)
theorem aP5 {id:Nat} {σ:Key->X} {a:Act} {w:World} {Q:Exit->Act->World->Prop} (st:Nat->Stp X) (l:List (Stp X)) (hl:l.length=ops.size) (hst:∀ i,i<l.length->l[i]?=some (st i))
  (hm:P.follows .mixedOrders=true) (hb:Pu.jO .any ops=true) (hchk:yN ops l=true) (hdrew:∀ a w,C σ a w->C σ a w.drew)
  (hs:∀ i o,ops[i]?=some o->iM C P ops (runN σ st (fun _=>true) i) o (st i))
  (h0:C σ a w) (hend:∀ a' w',C (runN σ st (fun _=>true) ops.size) a' w'->Q .normal a' w'):(Code.region id ops true).wp P Q a w:=by
 have hmask:aBk ops (kH ops.toList []):=aD5 hb ops.toList [] (fun k=>by simp) (fun L _ i hi=>by simp at hi);have hmlen:(kH ops.toList []).length=ops.size:=by
  have:∀ (l:List Oper) acc,(kH l acc).length=acc.length+l.length:=by
   intro l
   induction l with
   | nil=>intro acc; simp[kH]
   | cons o l ih=>intro acc; simp only[kH,ih,List.length_append,List.length_cons,List.length_nil]; omega
  simp[this]
 have hord:∀ i j,j<i->i<ops.size->clash (st j) (st i)=true->((kH ops.toList []).getD i 0).testBit j=true:=by
  intro i j h1 h2 h3;exact aDn l [] hchk i j (st j) (st i) (Nat.zero_le _) h1 (by rw[List.nil_append]; exact hst i (by omega)) (by rw[List.nil_append]; exact hst j (by omega)) h3
 have hfree:∀ i j,clash (st j) (st i)=false->(∀ k∈keys (st j).wr,k ∉ (st i).rd/\k ∉ keys (st i).wr)/\∀ k∈keys (st i).wr,k ∉ (st j).rd:=by
  intro i j h;unfold clash at h;simp only[Bool.or_eq_false_iff] at h;exact⟨fun k hk=>⟨rV h.1.1 hk,rV h.1.2 hk⟩,fun k hk=>rV h.2 hk⟩
 refine Pu.aPy (J:=fun L a w=>C (runN σ st L ops.size) a w) hm hb ?_ ?_ ?_
 ·intro L hL;have:runN σ st L ops.size=σ:=by
   funext k
   rw[wK (i:=0) ops.size (Nat.zero_le _) (fun j _ _ h=>by rw[hL j] at h; cases h)];rfl
  rw[this];exact hdrew _ _ h0
 ·intro L a1 w1 i o ho hLi hpre hcl hJ;have hi:i<ops.size:=(Array.getElem?_eq_some_iff.1 ho).1;have hbefore:∀ j,j<i->L j=false->clash (st j) (st i)=false:=by
   intro j hj hLj;cases e:clash (st j) (st i) with
   | false=>rfl
   | true =>
    have:=hmask L hcl i (by rw[hmlen]; exact hi) j (hord i j hj hi e) (fun o' ho'=>by rw[ho] at ho'; obtain rfl:=Option.some.inj ho'; exact hpre);rw[hLj] at this;cases this
  have hafter:∀ j,i<j->j<ops.size->L j=true->clash (st i) (st j)=false:=by
   intro j hj hjs hLj;cases e:clash (st i) (st j) with
   | false=>rfl
   | true =>
    have:=hmask L hcl j (by rw[hmlen]; exact hjs) i (hord j i hj hjs e) (fun o' ho'=>hcl j o' hLj ho');rw[hLi] at this;cases this
  have hsame:∀ k,(k∈(st i).rd\/k∈keys (st i).wr)->runN σ st L ops.size k=runN σ st (fun _=>true) i k:=by
   intro k hk;rw[wK (i:=i) ops.size (by omega) ?_]
   ·refine tC i fun j hj hne hkj=>?_;have hLj:L j=false:=by cases e:L j with | false=>rfl | true=>rw[e] at hne; exact absurd rfl hne
    have h:=(hfree i j (hbefore j hj hLj)).1 k hkj;rcases hk with hk | hk
    ·exact h.1 hk
    ·exact h.2 hk
   ·intro j h1 h2 h3 hkj;rcases Nat.eq_or_lt_of_le h1 with e | e
    ·subst e; rw[hLi] at h3; cases h3
    ·have h:=hfree j i (hafter j e h2 h3);rcases hk with hk | hk
     ·exact h.2 k hkj hk
     ·exact(h.1 k hk).2 hkj
  have hmore:∀ L',Pu.kO L i L'->runN σ st L' ops.size=upd (runN σ st L ops.size) (st i).wr:=by
   intro L' hL';refine aIu hi hL' hLi fun j h1 h2 h3 k hk hki=>?_;exact((hfree j i (hafter j h1 h2 h3)).1 k hki).2 hk
  rcases hs i o ho _ a1 w1 Q hJ (fun k hk=>hsame k (.inl hk)) (fun k hk=>hsame k (.inr hk)) with ⟨h1,h2⟩ | ⟨h1,h2⟩
  ·refine .inl ⟨h1,h2 _ fun a' w' hC L' hL'=>?_⟩;show C (runN σ st L' ops.size) a' w';rw[hmore L' hL'];exact hC
  ·refine .inr ⟨h1,fun L' hL'=>?_⟩;show C (runN σ st L' ops.size) _ w1;rw[hmore L' hL'];exact h2
 ·intro L a1 w1 hL hJ;refine hend a1 w1 ?_;have:runN σ st L ops.size=runN σ st (fun _=>true) ops.size:=by
   funext k
   exact tC _ fun j hj hne=>absurd (hL j hj) hne
  rw[<- this];exact hJ
def RV (draw:Bool):List Oper->List (Stp X)->List (Key × X)->(List (Key × X)->Prop)->Prop
 | [],done,l,K=>(draw=true->yN ops done.reverse=true)/\K l
 | o::rest,done,l,K=>∃ st,iM C P ops (aF x0 l) o st/\RV draw rest (st::done) (st.wr++l) K
variable {x0 C P ops}
theorem gJ {draw:Bool} {o:Oper} {rest:List Oper} {done:List (Stp X)} {l:List (Key × X)} {K:List (Key × X)->Prop} {rd:List Key} {q:Key} {x:X}
  (h:iM C P ops (aF x0 l) o ⟨rd,[(q,x)]⟩) (k:RV x0 C P ops draw rest (⟨rd,[(q,x)]⟩::done) ((q,x)::l) K):RV x0 C P ops draw (o::rest) done l K:=⟨_,h,k⟩
theorem aLx {draw:Bool} {o:Oper} {rest:List Oper} {done:List (Stp X)} {l:List (Key × X)} {K:List (Key × X)->Prop} {rd:List Key} {q r:Key} {x y:X}
  (h:iM C P ops (aF x0 l) o ⟨rd,[(q,x),(r,y)]⟩) (k:RV x0 C P ops draw rest (⟨rd,[(q,x),(r,y)]⟩::done) ((q,x)::(r,y)::l) K):RV x0 C P ops draw (o::rest) done l K:=⟨_,h,k⟩
theorem RV.done {done:List (Stp X)} {l:List (Key × X)} {K:List (Key × X)->Prop} (k:K l):RV x0 C P ops false [] done l K:=⟨fun h=>Bool.noConfusion h,k⟩
theorem bU {done:List (Stp X)} {l:List (Key × X)} {K:List (Key × X)->Prop} (h:yN ops done.reverse=true) (k:K l):RV x0 C P ops true [] done l K:=⟨fun _=>h,k⟩
theorem RV.list {Q:Exit->Act->World->Prop} {K:List (Key × X)->Prop} (hK:∀ l a w,K l->C (aF x0 l) a w->Q .normal a w) :
  ∀ (rest:List Oper) (done:List (Stp X)) (l:List (Key × X)) (a:Act) (w:World),RV x0 C P ops false rest done l K->C (aF x0 l) a w->wpList P ops Q rest a w
 | [],_,l,a,w,h,hC=>hK l a w h.2 hC
 | o::rest,done,l,a,w,⟨st,hs,hr⟩,hC=>by
  refine wpList_step fun K' hK'=>?_;rcases hs _ a w Q hC (fun _ _=>rfl) (fun _ _=>rfl) with ⟨h1,h2⟩ | ⟨h1,h2⟩
  ·rw[if_pos h1];refine h2 _ fun a' w' hC'=>hK' _ _ ?_;rw[fZ] at hC';exact RV.list hK rest _ _ a' w' hr hC'
  ·rw[if_neg (by rw[h1]; simp)];refine hK' _ _ ?_;rw[fZ] at h2;exact RV.list hK rest _ _ _ w hr h2
theorem aEq:∀ (rest:List Oper) (done:List (Stp X)) (l:List (Key × X)) {K:List (Key × X)->Prop},RV x0 C P ops true rest done l K ->
  ∃ (st:List (Stp X)) (l':List (Key × X)),st.length=rest.length/\yN ops (done.reverse++st)=true/\K l' /\
   (∀ i o,rest[i]?=some o->∃ s,st[i]?=some s/\iM C P ops (runN (aF x0 l) (fun j=>st.getD j ⟨[],[]⟩) (fun _=>true) i) o s) /\
   runN (aF x0 l) (fun j=>st.getD j ⟨[],[]⟩) (fun _=>true) rest.length=aF x0 l'
 | [],done,l,K,h=>⟨[],l,rfl,by rw[List.append_nil]; exact h.1 rfl,h.2,fun i o h=>(by cases i<;>cases h),rfl⟩
 | o::rest,done,l,K,⟨s,hs,hr⟩=>by
  obtain⟨st,l',h1,h2,h3,h4,h5⟩:=aEq rest (s::done) (s.wr++l) hr;have key:∀ n,runN (aF x0 l) (fun j=>(s::st).getD j ⟨[],[]⟩) (fun _=>true) (n+1)=runN (aF x0 (s.wr++l)) (fun j=>st.getD j ⟨[],[]⟩) (fun _=>true) n:=by
   intro n
   induction n with
   | zero=>show upd (aF x0 l) s.wr=_; rw[fZ]; rfl
   | succ n ih =>
    show upd (runN (aF x0 l) (fun j=>(s::st).getD j ⟨[],[]⟩) (fun _=>true) (n+1)) _=upd (runN (aF x0 (s.wr++l)) (fun j=>st.getD j ⟨[],[]⟩) (fun _=>true) n) _;rw[ih];rfl
  refine⟨s::st,l',by simp[h1],?_,h3,?_,?_⟩
  ·rw[List.reverse_cons,List.append_assoc] at h2;exact h2
  ·intro i o' ho;cases i with
   | zero =>
    obtain rfl:o=o':=by simpa using ho
    exact⟨s,rfl,hs⟩
   | succ i =>
    obtain⟨s',k1,k2⟩:=h4 i o' (by simpa using ho);exact⟨s',by simpa using k1,by rw[key i]; exact k2⟩
  ·show runN _ _ _ (rest.length+1)=_;rw[key];exact h5
theorem RV.wp {id:Nat} {draw:Bool} {l:List (Key × X)} {K:List (Key × X)->Prop} {a:Act} {w:World} {Q:Exit->Act->World->Prop} (hdrew:∀ a w,C (aF x0 l) a w->C (aF x0 l) a w.drew)
  (hm:P.follows .mixedOrders=true) (hb:draw=true->Pu.jO .any ops=true) (h:RV x0 C P ops draw ops.toList [] l K) (hC:C (aF x0 l) a w)
  (hK:∀ l a w,K l->C (aF x0 l) a w->Q .normal a w):(Code.region id ops draw).wp P Q a w:=by
 cases draw with
 | false=>exact wp_region_list (RV.list hK _ _ _ _ _ h hC)
 | true =>
  obtain⟨st,l',h1,h2,h3,h4,h5⟩:=aEq _ _ _ h;rw[Array.length_toList] at h1 h5;refine aP5 C P ops (fun j=>st.getD j ⟨[],[]⟩) st h1 ?_ hm (hb rfl) h2 hdrew ?_ hC ?_
  ·intro i hi;rw[List.getD_eq_getElem?_getD,List.getElem?_eq_getElem hi];rfl
  ·intro i o ho;obtain⟨s,k1,k2⟩:=h4 i o (by simpa using ho);rw[show st.getD i ⟨[],[]⟩=s by rw[List.getD_eq_getElem?_getD,k1]; rfl];exact k2
  ·intro a' w' hC';rw[h5] at hC';exact hK _ _ _ h3 hC'
end
end Vc
end Go.Proofs.YtbaihklbefhgdaaGreat
