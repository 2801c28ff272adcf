/-
  
-/
import Derived.Test.YtbaihklbefhgdaaGreatSC8
import Derived.Deep.MidRow
set_option linter.unusedVariables false
set_option linter.unusedSimpArgs false
set_option linter.unusedSectionVars false
namespace Go.Proofs.YtbaihklbefhgdaaGreat
open Go.RowKit
namespace Vc
section
variable {D:Type} [bO D] {P:Program} {cx:Cx D} {n:Nat} {σ:St D} {o:Oper} {ops:Array Oper}
def opd (σ:St D):Operand->XV D
 | .tmp t=>σ (.s t)
 | .const v=>.av (.one (.v v))
 | .func f=>.av (.one (.v (.func (.func f) #[] #[])))
 | .global g=>.av (.one (.v (.pointer (some ⟨g,0,none⟩))))
def bH:Operand->List Key
 | .tmp t=>[.s t]
 | _=>[]
omit [bO D] in
theorem cR {σ':St D} {x:Operand} (h:∀ k∈bH x,σ' k=σ k):opd σ' x=opd σ x:=by
 cases x with
 | tmp t=>exact h _ (by simp[bH])
 | const v=>rfl
 | func f=>rfl
 | global g=>rfl
theorem Conc.opd {ρ:aR} {a:Act} {w:World} {x:Operand} {av:AV D} (h:Conc cx n ρ σ a w) (hx:opd σ x=.av av):av.is (aT cx σ ρ) ρ w (a.eval x):=by
 cases x with
 | tmp t=>exact h.slt t av hx
 | const v=>obtain rfl:=(XV.av.injEq _ _).mp hx; exact rfl
 | func f=>obtain rfl:=(XV.av.injEq _ _).mp hx; exact rfl
 | global g=>obtain rfl:=(XV.av.injEq _ _).mp hx; exact rfl
theorem Conc.opd_own {ρ:aR} {a:Act} {w:World} {x:Operand} {av:AV D} (h:Conc cx n ρ σ a w) (hx:Vc.opd σ x=.av av):∀ b∈av.ptrs,σ (.b b)≠.no:=by
 cases x with
 | tmp t=>intro b hb; exact h.own (.s t) b (by rw[show σ (.s t)=_ from hx]; exact hb)
 | const v=>obtain rfl:=(XV.av.injEq _ _).mp hx; intro b hb; cases hb
 | func f=>obtain rfl:=(XV.av.injEq _ _).mp hx; intro b hb; cases hb
 | global g=>obtain rfl:=(XV.av.injEq _ _).mp hx; intro b hb; cases hb
def aN (P:Program) (cx:Cx D) (n:Nat) (σ:St D) (o:Oper) (rd:List Key) (wr:List (Key × XV D)):Prop :=
 ∀ σ' a w (Q:Exit->Act->World->Prop),CC cx n σ' a w->(∀ k∈rd,σ' k=σ k)->(∀ k∈keys wr,σ' k=σ k)->∀ K:Act->World->Prop,(∀ a' w',CC cx n (upd σ' wr) a' w'->K a' w')->o.wp P a w K Q
theorem aN.plain {rd:List Key} {wr:List (Key × XV D)} (h:aN P cx n σ o rd wr) (hg:o.guard=none):iM (CC cx n) P ops σ o ⟨rd,wr⟩ :=
 fun σ' a w Q hC h1 h2=>.inl ⟨by simp[Region.wanted,hg],h σ' a w Q hC h1 h2⟩
theorem aCb {σ':St D} {a:Act} {w:World} {j dj:Nat} {b:Bool} (hC:CC cx n σ' a w) (hj:(ops[j]?).bind (·.dst)=some dj) (hv:σ' (.s dj)=.av (.one (.v (.bool b)))):yielded ops a.tmps j=some b:=by
 obtain⟨ρ,h⟩:=hC;exact Pu.aQ3 hj (h.slt dj _ hv)
theorem aN.yes {rd:List Key} {wr:List (Key × XV D)} (h:aN P cx n σ o rd wr) {j dj:Nat} {b:Bool} (hg:o.guard=some (j,b)) (hj:(ops[j]?).bind (·.dst)=some dj) (hv:σ (.s dj)=.av (.one (.v (.bool b)))) :
  iM (CC cx n) P ops σ o ⟨.s dj::rd,wr⟩:=by
 intro σ' a w Q hC h1 h2;refine .inl ⟨?_,h σ' a w Q hC (fun k hk=>h1 k (List.mem_cons_of_mem _ hk)) h2⟩;have hy:=aCb hC hj ((h1 (.s dj) List.mem_cons_self).trans hv);unfold Region.wanted;rw[hg];show (yielded ops a.tmps j==some b)=true;rw[hy];simp
theorem aMb {j dj d:Nat} {b:Bool} {rd:List Key} (hg:o.guard=some (j,b)) (hrd:.s dj∈rd) (hy:∀ σ' a w,CC cx n σ' a w->σ' (.s dj)=σ (.s dj)->(yielded ops a.tmps j==some b)=false) (hd:o.dst=some d) (hn:d<n) :
  iM (CC cx n) P ops σ o ⟨rd,[(.s d,.av (.one (.v undef)))]⟩:=by
 intro σ' a w Q hC h1 h2;refine .inr ⟨?_,?_⟩
 ·unfold Region.wanted;rw[hg];exact hy σ' a w hC (h1 (.s dj) hrd)
 ·obtain⟨ρ,h⟩:=hC;rw[hd];exact⟨ρ,h.put (Below.refl _ _) hn rfl (by intro b hb; cases hb)⟩
theorem aN.skip {j dj d:Nat} {b b':Bool} (hg:o.guard=some (j,b)) (hj:(ops[j]?).bind (·.dst)=some dj) (hv:σ (.s dj)=.av (.one (.v (.bool b')))) (hb:b' = !b) (hd:o.dst=some d) (hn:d<n) :
  iM (CC cx n) P ops σ o ⟨[.s dj],[(.s d,.av (.one (.v undef)))]⟩ :=
 aMb (rd:=[.s dj]) hg List.mem_cons_self (fun σ' a w hC h1=>by
  have hy:=aCb hC hj (h1.trans hv);rw[hy,hb];cases b<;>rfl) hd hn
theorem nY {j dj d:Nat} {b:Bool} (hg:o.guard=some (j,b)) (hj:(ops[j]?).bind (·.dst)=some dj) (hv:σ (.s dj)=.av (.one (.v undef))) (hd:o.dst=some d) (hn:d<n) :
  iM (CC cx n) P ops σ o ⟨[.s dj],[(.s d,.av (.one (.v undef)))]⟩ :=
 aMb (rd:=[.s dj]) hg List.mem_cons_self (fun σ' a w hC h1=>by
  obtain⟨ρ,h⟩:=hC;have hval:a.tmps.getD dj undef=undef:=h.slt dj _ (h1.trans hv);have:yielded ops a.tmps j=none:=by
   unfold yielded;rw[hj];rw[Array.getD_eq_getD_getElem?] at hval;show (match a.tmps[dj]? with | some (.bool b)=>some b | _=>none)=none;cases hx:a.tmps[dj]? with
   | none=>rfl
   | some y=>rw[hx] at hval; simp only[Option.getD_some] at hval; rw[hval]; rfl
  rw[this];rfl) hd hn
theorem fE {rd:List Key} {d:Nat} {av:AV D} (hd:o.dst=some d) (hn:d<n) (hp:av.ptrs=[])
  (hrun:∀ σ' ρ a w,Conc cx n ρ σ' a w->(∀ k∈rd,σ' k=σ k)->∃ v,(execOp a.eval o).run P w=.ok (.value v) w/\av.is (aT cx σ' ρ) ρ w v) :
  aN P cx n σ o rd [(.s d,.av av)]:=by
 intro σ' a w Q ⟨ρ,h⟩ h1 _ K hK;obtain⟨v,hr,hv⟩:=hrun σ' ρ a w h h1;unfold Oper.wp;rw[hr,Oper.upon_value,hd];exact hK _ _ ⟨ρ,h.put (Below.refl _ _) hn hv (by rw[hp]; intro b hb; cases hb)⟩
theorem cB {d:Nat} {x:Operand} {av:AV D} (ho:o.op=.move x\/o.op=.assign x) (hd:o.dst=some d:=by exact rfl) (hn:d<n:=by exact bd) (hx:opd σ x=.av av:=by exact rfl):aN P cx n σ o (bH x) [(.s d,.av av)]:=by
 intro σ' a w Q ⟨ρ,h⟩ h1 _ K hK;have hx':=(cR h1).trans hx;have hr:(execOp a.eval o).run P w=.ok (.value (a.eval x)) w:=by rcases ho with ho | ho<;>simp[execOp,ho]
 unfold Oper.wp;rw[hr,Oper.upon_value,hd];exact hK _ _ ⟨ρ,h.put (Below.refl _ _) hn (h.opd hx') (h.opd_own hx')⟩
def SA.kind:SA D->Option (Option Nat)
 | .v (.agg cs)=>if cs.toList.all (·.oneCell') then some (some cs.size) else none
 | .v (.tuple _)=>none
 | .v _=>some none
 | .d x=>some (bO.shape x)
 | .ptr _ _=>some none
 | .sl _ _=>some none
 | .ar _ _=>some none
 | .lk x=>if x.cell then some none else none
theorem mG {L:Nat->Prop} {ρ:aR} {w:World} {s:SA D} {k:Option Nat} {v:Value} (hk:s.kind=some k) (h:s.is L ρ w v):∃ cs,Shaped k v cs:=by
 cases s with
 | v x =>
  have e:v=x:=h;subst e;cases v
  case agg cs =>
   simp only[SA.kind] at hk;split at hk
   ·rename_i h1;obtain rfl:=Option.some.inj hk;exact⟨cs.toList,by simp[Shaped],by simp,fun c hc=>List.all_eq_true.1 h1 c hc⟩
   ·cases hk
  case tuple=>cases hk
  all_goals
   obtain rfl:=Option.some.inj hk;exact⟨_,rfl,rfl⟩
 | d x =>
  obtain rfl:=Option.some.inj hk;exact bO.shape_ok x w v (h w (Agree.refl _ _))
 | ptr b o =>
  obtain rfl:=Option.some.inj hk;have e:v=.pointer (some ⟨(ρ b).1,o,none⟩):=h;subst e;exact⟨_,rfl,rfl⟩
 | sl b m =>
  obtain rfl:=Option.some.inj hk;obtain⟨a,e,_⟩:=h;subst e;exact⟨_,rfl,rfl⟩
 | ar b m =>
  obtain rfl:=Option.some.inj hk;have e:v=.slice (some ⟨(ρ b).1,0,none⟩) m m:=h;subst e;exact⟨_,rfl,rfl⟩
 | lk x =>
  simp only[SA.kind] at hk;split at hk
  ·rename_i hx;obtain rfl:=Option.some.inj hk;exact⟨[v],rfl,(x.one hx ρ w v (h w (Agree.refl _ _))).1⟩
  ·cases hk
theorem cC {d i:Nat} {ty:TypeId} {x:Operand} {s:SA D} {k:Option Nat} (ho:o.op=.box ty x:=by exact rfl) (hd:o.dst=some d:=by exact rfl) (hn:d<n:=by exact bd) (hx:opd σ x=.av (.one s):=by exact rfl) (hk:s.kind=some k:=by exact rfl) (hi:σ (.b i)=.no:=by exact rfl) (hp:s.plain=true:=by exact rfl) (hiK:Nat.beq i 1000000=false:=by exact rfl) :
  aN P cx n σ o (bH x) [(.s d,.av (.one (.ptr i 0))),(.b i,.blk ty [(k,s)])]:=by
 intro σ' a w Q ⟨ρ,h⟩ h1 h2 K hK;have hx':=(cR h1).trans hx;have hs:=h.opd hx';obtain⟨cs,hcs⟩:=mG hk hs;have hr:(execOp a.eval o).run P w=.ok (.value (.pointer (some ⟨w.heap.size,0,none⟩))) (w.alloc (.cells cs.toArray ty)):=by
  rw[<- hcs.cells];simp only[execOp,ho,Sem.run_bind,Instr.box,newVar,newRow,run_newObj_alloc,Sem.run_pure,Result.andThen_ok]
 unfold Oper.wp;rw[hr,Oper.upon_value,hd];refine hK _ _ (h.new (c:=0) ((Below.refl _ _).alloc (Nat.le_refl _) _) hn ((h2 (.b i) (by simp[keys])).trans hi) (fun e=>by subst e; cases hiK) (by simp) (Nat.le_refl _) (fun ρ' hρ=>by show _=_; rw[hρ]) (fun b hb=>by simpa[AV.ptrs,SA.ptrs] using hb)
  (fun T ch e=>by injection e with e1 e2; subst e1; subst e2; exact⟨by simp[gV,hp],cs,heap_alloc_new w _,cs,[],_,by simp,hcs,hs,rfl⟩) (fun T k l e=>by cases e) ?_ (fun _ _ _ _ _ q=>q))
 intro b hb;have hb2:b∈s.ptrs:=by simpa[XV.ptrs,kD] using hb
 exact h.opd_own hx' b hb2
theorem aU {d i:Nat} {ty:TypeId} {z:Value} {k:Option Nat} (hz:(P.info? ty).map (·.zero)=some (some z)) (ho:o.op=.alloc ty:=by exact rfl) (hd:o.dst=some d:=by exact rfl) (hn:d<n:=by exact bd) (hk:(SA.v z:SA D).kind=some k:=by exact rfl) (hi:σ (.b i)=.no:=by exact rfl) (hp:(SA.v z:SA D).plain=true:=by exact rfl) (hiK:Nat.beq i 1000000=false:=by exact rfl) :
  aN P cx n σ o [] [(.s d,.av (.one (.ptr i 0))),(.b i,.blk ty [(k,.v z)])]:=by
 intro σ' a w Q ⟨ρ,h⟩ h1 h2 K hK;obtain⟨cs,hcs⟩:=mG (L:=fun _=>False) (ρ:=ρ) (w:=w) hk (v:=z) rfl;have hzr:(zeroValue ty).run P w=.ok z w:=by
  cases hq:P.info? ty with
  | none=>simp[hq] at hz
  | some inf =>
   simp only[hq,Option.map_some,Option.some.injEq] at hz;simp[zeroValue,typeInfo,hq,hz]
 have hr:(execOp a.eval o).run P w=.ok (.value (.pointer (some ⟨w.heap.size,0,none⟩))) (w.alloc (.cells cs.toArray ty)):=by
  rw[<- hcs.cells];simp only[execOp,ho,Sem.run_bind,Instr.alloc,hzr,newVar,newRow,run_newObj_alloc,Sem.run_pure,Result.andThen_ok]
 unfold Oper.wp;rw[hr,Oper.upon_value,hd];exact hK _ _ (h.new (c:=0) ((Below.refl _ _).alloc (Nat.le_refl _) _) hn ((h2 (.b i) (by simp[keys])).trans hi) (fun e=>by subst e; cases hiK) (by simp) (Nat.le_refl _) (fun ρ' hρ=>by show _=_; rw[hρ]) (fun b hb=>by simpa[AV.ptrs,SA.ptrs] using hb)
  (fun T ch e=>by injection e with e1 e2; subst e1; subst e2; exact⟨by simp[gV,hp],cs,heap_alloc_new w _,cs,[],z,by simp,hcs,rfl,rfl⟩) (fun T k l e=>by cases e) (by intro b hb; simp[XV.ptrs,kD,SA.ptrs] at hb) (fun _ _ _ _ _ q=>q))
def dL (P:Program) (ty:TypeId):Option Nat->Prop
 | some m=>(∃ d,P.underlying ty=some d/\d.isRow=true)/\(P.info? ty).map (·.size)=some m
 | none=>(∃ d,P.underlying ty=some d/\d.isRow=false)/\(P.info? ty).map (·.size)=some 1
omit [bO D] in
theorem dL.row {ty:TypeId} {m:Nat} (h1:(P.underlying ty).map (·.isRow)=some true) (h2:(P.info? ty).map (·.size)=some m):dL P ty (some m):=by
 cases h:P.underlying ty with
 | none=>rw[h] at h1; cases h1
 | some d=>rw[h] at h1; exact⟨⟨d,h,by simpa using h1⟩,h2⟩
omit [bO D] in
theorem dL.one {ty:TypeId} (h1:(P.underlying ty).map (·.isRow)=some false) (h2:(P.info? ty).map (·.size)=some 1):dL P ty none:=by
 cases h:P.underlying ty with
 | none=>rw[h] at h1; cases h1
 | some d=>rw[h] at h1; exact⟨⟨d,h,by simpa using h1⟩,h2⟩
omit [bO D] in
theorem sY {w:World} {g:Nat} {pre p post:List Value} {T:TypeId} {fr:Nat × Nat} (hg:w.heap[g]?=some (.cells (pre++p++post).toArray T fr)):∀ j v,p[j]?=some v->w.cell? ⟨g,pre.length+j,none⟩=some v:=by
 intro j v hj;rw[cell_of_row w g _ _ T fr hg,List.getElem?_toArray,List.append_assoc,List.getElem?_append_right (by omega),Nat.add_sub_cancel_left,List.getElem?_append_left (List.getElem?_eq_some_iff.1 hj).1];exact hj
theorem yQ {w:World} {g:Nat} {pre p post:List Value} {T:TypeId} {fr:Nat × Nat} {ty:TypeId} {k:Option Nat} {v:Value} (hg:w.heap[g]?=some (.cells (pre++p++post).toArray T fr))
  (hs:Shaped k v p) (hty:dL P ty k):(loadVar ty ⟨g,pre.length,none⟩).run P w=.ok v w:=by
 cases k with
 | some m =>
  obtain⟨⟨d,hu,hd⟩,hi⟩:=hty;rw[hs.1];exact run_loadVar_mid w g pre.length ty p d (sY hg) hu hd (by rw[hi,hs.2.1])
 | none =>
  obtain⟨⟨d,hu,hd⟩,hi⟩:=hty;have hc:=sY hg 0 v (by rw[hs.1]; rfl);have hagg:(isAgg ty).run P w=.ok false w:=by
   unfold isAgg;rw[Sem.run_bind,run_underlying hu w];cases d<;>simp_all
  rw[Nat.add_zero] at hc;simp[loadVar,Sem.run_bind,hagg,load,Sem.run,hc]
theorem aJ {d t i off:Nat} {ty T:TypeId} {ch:List (Ch D)} {k:Option Nat} {s:SA D} (hty:dL P ty k) (ho:o.op=.load ty (.tmp t):=by exact rfl) (hd:o.dst=some d:=by exact rfl) (hn:d<n:=by exact bd) (ht:σ (.s t)=.av (.one (.ptr i off)):=by exact rfl) (hb:σ (.b i)=.blk T ch:=by exact rfl) (hc:lT ch off=some (k,s):=by exact rfl) :
  aN P cx n σ o [.s t,.b i] [(.s d,.av (.one s))]:=by
 intro σ' a w Q ⟨ρ,h⟩ h1 _ K hK;have ht':=(h1 (.s t) (by simp)).trans ht;have hb':=(h1 (.b i) (by simp)).trans hb;obtain⟨cs,hcs,hch⟩:=h.blk i T ch hb';obtain⟨pre,p,post,v,rfl,rfl,k3,k4,k5,_⟩:=hch.at hc;have hev:a.eval (.tmp t)=.pointer (some ⟨(ρ i).1,pre.length,none⟩):=h.slt t _ ht';have hr:(execOp a.eval o).run P w=.ok (.value v) w:=by
  simp only[execOp,ho,hev,Sem.run_bind,Instr.loadAt,Instr.sureAddr,Sem.run_pure,Result.andThen_ok,yQ hcs k3 hty]
 unfold Oper.wp;rw[hr,Oper.upon_value,hd];exact hK _ _ ⟨ρ,h.put (Below.refl _ _) hn k4 fun b hb2=>h.own (.b i) b (by rw[hb']; exact k5 hb2)⟩
def SA.at:SA D->World->Value->Prop
 | .v x,_,y=>y=x
 | .d x,w,y=>bO.dat x w y
 | .ptr _ _,_,_=>False
 | .sl _ _,_,_=>False
 | .ar _ _,_,_=>False
 | .lk _,_,_=>False
def mA (x:D) (f:Nat) (k:Option Nat) (s:SA D):Prop:=∀ w (cs:List Value),bO.dat x w (.agg cs.toArray)->∃ pre p post v,cs=pre++p++post/\pre.length=f/\Shaped k v p/\s.at w v
theorem mA.is {x:D} {f:Nat} {k:Option Nat} {s:SA D} (hF:mA x f k s) {L:Nat->Prop} {ρ:aR} {w:World} {cs:List Value} (h:(SA.d x).is L ρ w (.agg cs.toArray)) :
  ∃ pre p post v,cs=pre++p++post/\pre.length=f/\Shaped k v p/\s.is L ρ w v/\s.ptrs=[]:=by
 obtain⟨pre,p,post,v,h1,h2,h3,h4⟩:=hF w cs (h w (Agree.refl _ _));refine⟨pre,p,post,v,h1,h2,h3,?_,?_⟩
 ·cases s with
  | v y=>exact h4
  | d y =>
   intro w' hw;obtain⟨pre',p',post',v',k1,k2,k3,k4⟩:=hF w' cs (h w' hw);have e1:pre=pre'/\p++post=p'++post':=List.append_inj (by rw[<- List.append_assoc,<- List.append_assoc,<- h1,<- k1]) (by rw[h2,k2]);have e2:p=p':=(List.append_inj e1.2 (by rw[h3.length,k3.length])).1;subst e2;rw[h3.same k3];exact k4
  | ptr _ _=>exact h4.elim
  | sl _ _=>exact h4.elim
  | ar _ _=>exact h4.elim
  | lk _=>exact h4.elim
 ·cases s with
  | v y=>rfl
  | d y=>rfl
  | ptr _ _=>exact h4.elim
  | sl _ _=>exact h4.elim
  | ar _ _=>exact h4.elim
  | lk _=>exact h4.elim
theorem bM {d t i off base m:Nat} {ty T:TypeId} {ch:List (Ch D)} {k:Option Nat} {x:D} {s:SA D} (f:Nat) (hF:mA x f k s) (hty:dL P ty k) (ho:o.op=.load ty (.tmp t):=by exact rfl) (hd:o.dst=some d:=by exact rfl) (hn:d<n:=by exact bd) (ht:σ (.s t)=.av (.one (.ptr i off)):=by exact rfl) (hb:σ (.b i)=.blk T ch:=by exact rfl) (hf:off=base+f:=by exact rfl) (hc:lT ch base=some (some m,.d x):=by exact rfl) :
  aN P cx n σ o [.s t,.b i] [(.s d,.av (.one s))]:=by
 intro σ' a w Q ⟨ρ,h⟩ h1 _ K hK;have ht':=(h1 (.s t) (by simp)).trans ht;have hb':=(h1 (.b i) (by simp)).trans hb;obtain⟨cs,hcs,hch⟩:=h.blk i T ch hb';obtain⟨pre,p,post,v,rfl,rfl,k3,k4,k5,_⟩:=hch.at hc;have hv:v=.agg p.toArray:=k3.1;rw[hv] at k4;obtain⟨q1,q2,q3,u,e1,e2,e3,e4,e5⟩:=hF.is k4;have hev:a.eval (.tmp t)=.pointer (some ⟨(ρ i).1,(pre++q1).length,none⟩):=by
  have:=h.slt t _ ht';rw[hf] at this;rw[List.length_append,e2];exact this
 rw[e1,show pre++(q1++q2++q3)++post=(pre++q1)++q2++(q3++post) by simp] at hcs;have hr:(execOp a.eval o).run P w=.ok (.value u) w:=by
  simp only[execOp,ho,hev,Sem.run_bind,Instr.loadAt,Instr.sureAddr,Sem.run_pure,Result.andThen_ok,yQ hcs e3 hty]
 unfold Oper.wp;rw[hr,Oper.upon_value,hd];exact hK _ _ ⟨ρ,h.put (Below.refl _ _) hn e4 (by show ∀ b∈s.ptrs,_; rw[e5]; intro b hb2; cases hb2)⟩
def iK (P:Program) (ty:TypeId) (f fo:Nat):Prop:=∃ fs fd,P.underlying ty=some (.struct fs)/\fs[f]?=some fd/\fd.offset=fo/\∃ sz,(P.info? fd.type).map (·.size)=some (sz+1)
def aJn (P:Program) (ty:TypeId) (f:Nat):Option (Nat × Option Nat) :=
 match P.underlying ty with
 | some (.struct fs)=>(fs[f]?).map fun fd=>(fd.offset,(P.info? fd.type).map (·.size))
 | _=>none
omit [bO D] in
theorem iK.of {ty:TypeId} {f fo sz:Nat} (h:aJn P ty f=some (fo,some (sz+1))):iK P ty f fo:=by
 unfold aJn at h;split at h
 ·rename_i fs hu;cases hf:fs[f]? with
  | none=>rw[hf] at h; cases h
  | some fd =>
   rw[hf] at h;simp only[Option.map_some,Option.some.injEq,Prod.mk.injEq] at h;exact⟨fs,fd,hu,hf,h.1,sz,h.2⟩
 ·cases h
theorem bJ {d t i off f fo:Nat} {ty:TypeId} (hF:iK P ty f fo) (ho:o.op=.fieldAddr ty (.tmp t) f:=by exact rfl) (hd:o.dst=some d:=by exact rfl) (hn:d<n:=by exact bd) (ht:σ (.s t)=.av (.one (.ptr i off)):=by exact rfl) :
  aN P cx n σ o [.s t] [(.s d,.av (.one (.ptr i (off+fo))))]:=by
 intro σ' a w Q ⟨ρ,h⟩ h1 _ K hK;have ht':=(h1 (.s t) (by simp)).trans ht;obtain⟨fs,fd,hu,hfd,rfl,sz,hsz⟩:=hF;have hev:a.eval (.tmp t)=.pointer (some ⟨(ρ i).1,off,none⟩):=h.slt t _ ht';have hso:(sizeOf fd.type).run P w=.ok (sz+1) w:=by
  cases hq:P.info? fd.type with
  | none=>simp[hq] at hsz
  | some inf =>
   have:inf.size=sz+1:=by simpa[hq] using hsz
   simp[sizeOf,typeInfo,hq,this]
 have hr:(execOp a.eval o).run P w=.ok (.value (.pointer (some ⟨(ρ i).1,off+fd.offset,none⟩))) w:=by
  simp[execOp,ho,hev,Instr.fieldAt,run_underlying hu,hfd,Instr.sureAddr,fieldPlace,hso,Addr.add_mid]
 unfold Oper.wp;rw[hr,Oper.upon_value,hd];exact hK _ _ ⟨ρ,h.put (Below.refl _ _) hn rfl fun b hb=>h.own (.s t) b (by rw[ht']; exact hb)⟩
theorem cO {d t j:Nat} {l:List (SA D)} {s:SA D} (ho:o.op=.extract (.tmp t) j:=by exact rfl) (hd:o.dst=some d:=by exact rfl) (hn:d<n:=by exact bd) (ht:σ (.s t)=.av (.tup l):=by exact rfl) (hj:l[j]?=some s:=by exact rfl):aN P cx n σ o [.s t] [(.s d,.av (.one s))]:=by
 intro σ' a w Q ⟨ρ,h⟩ h1 _ K hK;have ht':=(h1 (.s t) (by simp)).trans ht;obtain⟨vs,hev,hvs⟩:=h.slt t _ ht';have key:∀ (l:List (SA D)) (vs:List Value) (j:Nat),dR (aT cx σ' ρ) ρ w l vs->l[j]?=some s->∃ v,vs[j]?=some v/\s.is (aT cx σ' ρ) ρ w v:=by
  intro l
  induction l with
  | nil=>intro vs j _ hj; cases j<;>cases hj
  | cons x l ih =>
   intro vs j hvs hj;cases vs with
   | nil=>exact hvs.elim
   | cons y vs =>
    cases j with
    | zero =>
     obtain rfl:x=s:=by simpa using hj
     exact⟨y,rfl,hvs.1⟩
    | succ j =>
     obtain⟨v,h1,h2⟩:=ih vs j hvs.2 (by simpa using hj);exact⟨v,by simpa using h1,h2⟩
 obtain⟨v,hv,hs⟩:=key l vs j hvs hj;have hev':a.eval (.tmp t)=.tuple vs.toArray:=hev;have hr:(execOp a.eval o).run P w=.ok (.value v) w:=by
  simp[execOp,ho,hev',Instr.extract,hv]
 unfold Oper.wp;rw[hr,Oper.upon_value,hd];refine hK _ _ ⟨ρ,h.put (Below.refl _ _) hn hs fun b hb=>h.own (.s t) b ?_⟩;rw[ht'];exact List.mem_flatMap.2 ⟨s,List.mem_of_getElem? hj,hb⟩
theorem nU (b:Nat):∀ (vs:List Value) (o:Nat) (w:World),(w.setCells b o vs).tape=w.tape
 | [],_,_=>rfl
 | v::r,o,w=>by rw[World.setCells,nU b r]; rfl
theorem nV (b:Nat):∀ (vs:List Value) (o:Nat) (w:World),(w.setCells b o vs).output=w.output
 | [],_,_=>rfl
 | v::r,o,w=>by rw[World.setCells,nV b r]; rfl
theorem os_setCells (b:Nat):∀ (vs:List Value) (o:Nat) (w:World),(w.setCells b o vs).os=w.os
 | [],_,_=>rfl
 | v::r,o,w=>by rw[World.setCells,os_setCells b r]; rfl
theorem lC (b:Nat):∀ (vs:List Value) (o:Nat) (w:World),(w.setCells b o vs).heap.size=w.heap.size
 | [],_,_=>rfl
 | v::r,o,w=>by rw[World.setCells,lC b r]; simp[World.setCell]
theorem mD (b:Nat):∀ (vs:List Value) (o:Nat) (w:World) (j:Nat),j≠b->(w.setCells b o vs).heap[j]?=w.heap[j]?
 | [],_,_,_,_=>rfl
 | v::r,o,w,j,h=>by rw[World.setCells,mD b r _ _ j h]; exact Below.heap_setCell _ _ _ _ h
theorem oY (b:Nat) (T:TypeId) {fr:Nat × Nat}:∀ (p' p pre post:List Value) (w:World),p'.length=p.length->w.heap[b]?=some (.cells (pre++p++post).toArray T fr) ->
  (w.setCells b pre.length p').heap[b]?=some (.cells (pre++p'++post).toArray T fr)
 | [],[],pre,post,w,_,h=>h
 | v::r,u::p,pre,post,w,hl,h=>by
  rw[World.setCells];have h1:(w.setCell ⟨b,pre.length,none⟩ v).heap[b]?=some (.cells ((pre++[v])++p++post).toArray T fr):=by
   simp only[World.setCell,Array.getElem?_modify,h];simp
  have:=oY b T r p (pre++[v]) post _ (by simpa using hl) h1;rw[List.length_append] at this;simpa using this
 | [],_::_,_,_,_,hl,_=>by cases hl
 | _::_,[],_,_,_,hl,_=>by cases hl
theorem aQ {t i off:Nat} {ty T:TypeId} {y:Operand} {ch ch':List (Ch D)} {k:Option Nat} {s s0:SA D} (hsz:(P.info? ty).map (·.size)=some (k.getD 1)) (ho:o.op=.store ty (.tmp t) y:=by exact rfl) (hd:o.dst=none:=by exact rfl) (ht:σ (.s t)=.av (.one (.ptr i off)):=by exact rfl) (hb:σ (.b i)=.blk T ch:=by exact rfl) (hc:lT ch off=some (k,s0):=by exact rfl) (hy:opd σ y=.av (.one s):=by exact rfl) (hk:s.kind=some k:=by exact rfl) (hch:oN ch off (k,s)=ch':=by exact rfl) (hp:gV ch'=true:=by exact rfl) (hpt:kD ch'=[]:=by exact rfl) (hiK:Nat.beq i 1000000=false:=by exact rfl) :
  aN P cx n σ o (.s t::.b i::bH y) [(.b i,.blk T ch')]:=by
 subst hch;intro σ' a w Q ⟨ρ,h⟩ h1 _ K hK;have ht':=(h1 (.s t) (by simp)).trans ht;have hb':=(h1 (.b i) (by simp)).trans hb;have hy':=(cR (σ':=σ') (x:=y) fun q hq=>h1 q (by simp[hq])).trans hy;obtain⟨cs,hcs,hcc⟩:=h.blk i T ch hb';obtain⟨pre,p,post,v,rfl,rfl,k3,k4,k5,k6⟩:=hcc.at hc;have hs:=h.opd hy';obtain⟨p',hp'⟩:=mG hk hs;have hlen:p'.length=p.length:=by rw[hp'.length,k3.length]
 have hev:a.eval (.tmp t)=.pointer (some ⟨(ρ i).1,pre.length,none⟩):=h.slt t _ ht';have hr:(execOp a.eval o).run P w=.ok .skip (w.setCells (ρ i).1 pre.length p'):=by
  have hst:=run_storeCells_cells (P:=P) (ρ i).1 pre.length p' 0 w (fun j hj=>by
    rw[Nat.add_zero,sY hcs j p[j] (List.getElem?_eq_getElem (by omega))]; rfl) (fun j hj=>by
    simp[World.frozen?,hcs]) hp'.one
  rw[Nat.add_zero] at hst;cases hq:P.info? ty with
  | none=>simp[hq] at hsz
  | some inf =>
   have e1:inf.size=k.getD 1:=by simpa[hq] using hsz
   have e2:(a.eval y).cells.size=inf.size:=by rw[hp'.cells,e1,<- hp'.length]; simp
   simp[execOp,ho,hev,Instr.storeAt,Instr.sureAddr,storeVar,sizeOf,typeInfo,hq,hp'.cells,hst];rw[show p'.length=inf.size by rw[e1,hp'.length]]
 unfold Oper.wp;rw[hr,Oper.upon_skip,hd];refine hK _ _ ⟨ρ,h.sto (jJ hb') (by simp) (jJ kM) (fun e=>by subst e; cases hiK) (os_setCells ..) (nU ..) (nV ..) (lC ..) (fun j hj=>mD _ _ _ _ j hj) ?_ (fun T k l e=>by cases e) (by intro b hb; rw[show XV.ptrs (XV.blk T _:XV D)=_ from hpt] at hb; cases hb)⟩;intro T1 c1 e;injection e with e1 e2;subst e1; subst e2;exact⟨hp,_,oY _ T p' p pre post w hlen hcs,k6 (k,s) _ p' rfl hp' hs⟩
def aD (P:Program) (f:FuncId) (args:List (SA D)) (r:AV D):Prop :=
 ∀ (L:Nat->Prop) (ρ:aR) (w:World) (vs:List Value),(∀ b,L b->b<w.heap.size)->gO L w->bO.W D w->dR L ρ w args vs ->
  Calls P f vs.toArray w fun e w'=>∃ v,e=.returned v/\Below w.heap.size w w'/\r.is L ρ w' v
def cT (s s':SA D):Prop:=s'.ptrs=[]/\∀ L ρ w v,s.is L ρ w v->s'.is L ρ w v
theorem cT.any {s:SA D} (h:s.ptrs=[]:=by exact rfl):cT s s:=⟨h,fun _ _ _ _ h=>h⟩
def dY (σ:St D):List Operand->List (SA D)->Prop
 | [],[]=>True
 | x::xs,s::ss=>(∃ s0,opd σ x=.av (.one s0)/\cT s0 s)/\dY σ xs ss
 | _,_=>False
theorem dY.nil:dY σ [] ([]:List (SA D)):=trivial
theorem dY.cons {x:Operand} {xs:List Operand} {s0 s:SA D} {ss:List (SA D)} (h:opd σ x=.av (.one s0)) (hc:cT s0 s) (h2:dY σ xs ss):dY σ (x::xs) (s::ss):=⟨⟨s0,h,hc⟩,h2⟩
theorem dY.is {σ':St D} {ρ:aR} {a:Act} {w:World} (h:Conc cx n ρ σ' a w):∀ {xs:List Operand} {ss:List (SA D)},dY σ xs ss->(∀ k∈xs.flatMap bH,σ' k=σ k)->dR (aT cx σ' ρ) ρ w ss (xs.map a.eval)
 | [],[],_,_=>trivial
 | x::xs,s::ss,⟨⟨s0,h1,h2⟩,h3⟩,hk=>⟨h2.2 _ _ _ _ (h.opd ((cR fun k hk'=>hk k (by simp only[List.flatMap_cons,List.mem_append]; exact .inl hk')).trans h1)),dY.is h h3 fun k hk'=>hk k (by simp only[List.flatMap_cons,List.mem_append]; exact .inr hk')⟩
theorem Conc.noInt {ρ:aR} {a:Act} {w:World} (h:Conc cx n ρ σ a w) (hfr:cx.fr=false) (hK:bR (σ KP)=[]):gO (aT cx σ ρ) w:=by
 rintro b (hb | ⟨i,hi,rfl⟩) cs T' fr hc c hcm
 ·rw[h.kept.block b (cx.lt b hb) (cx.bw hfr b)] at hc;exact cx.ni hfr b hb cs T' fr hc c hcm
 ·rcases gH hi with ⟨T,ch,e⟩ | ⟨T,k,l,e,hcap⟩
  ·obtain⟨cs',hc',hch⟩:=h.blk i T ch e;rw[hc] at hc';obtain⟨rfl,-,-⟩:=(Obj.cells.injEq _ _ _ _ _ _).mp (Option.some.inj hc');exact hch.plain (h.pln i T ch e (by rw[hK]; simp)) c (by simpa using hcm)
  ·obtain⟨cs',sp,⟨_,hc',_⟩,h2,h3,h5⟩:=(h.row i T k l e).2 hcap;rw[hc] at hc';obtain⟨rfl,-,-⟩:=(Obj.cells.injEq _ _ _ _ _ _).mp (Option.some.inj hc');exact h5 (by rw[hK]; simp) c (by simpa using hcm)
theorem xC {d f:Nat} {fn:Func} {args:Array Operand} {tys:Array TypeId} {a:Act} {w:World} (ho:o.op=.call ⟨.value (.func f),args,tys⟩)
  (hf : P.funcs[f]? = some fn) (hname : (fn.name == "runtime.NumGoroutine") = false) (hb : fn.body.isSome = true) : (execOp a.eval o).run P w = .ok (.enter f (args.toList.map a.eval).toArray) w := by
 obtain ⟨c, hc⟩ := Option.isSome_iff_exists.1 hb;have h1 : fn.name ≠ "runtime.NumGoroutine" := by simpa using hname
 have h2:args.map a.eval=(args.toList.map a.eval).toArray:=Array.ext' (by simp);simp[execOp,ho,resolve,Deferred.ofValue,invoke,Act.eval,callFunc,hf,h1,hc,h2]
theorem cG {d f:Nat} {fn:Func} {args:Array Operand} {tys:Array TypeId} {sas:List (SA D)} {r:AV D} (hcon:aD P f sas r) (ho:o.op=.call ⟨.value (.func f),args,tys⟩) (hd:o.dst=some d) (hn:d<n)
  (hf : P.funcs[f]? = some fn) (hname : (fn.name == "runtime.NumGoroutine") = false) (hb : fn.body.isSome = true) (hargs : dY σ args.toList sas) (hr : r.ptrs = []) (hfr : cx.fr = false) (hKP : bR (σ KP) = []) :
  aN P cx n σ o (KP::args.toList.flatMap bH) [(.s d,.av r)]:=by
 intro σ' a w Q ⟨ρ,h⟩ h1 _ K hK;unfold Oper.wp;rw[xC (d:=d) ho hf hname hb,Oper.upon_enter];refine(hcon (aT cx σ' ρ) ρ w _ h.lofLt (h.noInt hfr (by rw[h1 KP (by simp)]; exact hKP)) (cx.wf hfr w h.kept) (hargs.is h fun k hk=>h1 k (List.mem_cons_of_mem _ hk))).mono ?_;rintro e w' ⟨v,rfl,hbel,hv⟩;show K (a.put o.dst v) w';rw[hd];exact hK _ _ ⟨ρ,h.put hbel hn hv (by rw[hr]; intro b hb; cases hb)⟩
end
end Vc
end Go.Proofs.YtbaihklbefhgdaaGreat
