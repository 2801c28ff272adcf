/-
  
-/
import Derived.Test.YtbaihklbefhgdaaGreatSC7
set_option linter.unusedVariables false
set_option linter.unusedSimpArgs false
set_option linter.unusedSectionVars false
namespace Go.Proofs.YtbaihklbefhgdaaGreat
open Go.RowKit
namespace Vc
def cZ:Value->Bool
 | .int .i64 z=>decide (z=0)
 | _=>true
abbrev aR:=Nat->Nat × Nat
def Agree (L:Nat->Prop) (w w':World):Prop:=w.heap.size<=w'.heap.size/\∀ b,b<w.heap.size->¬ L b->w'.heap[b]?=w.heap[b]?
theorem Agree.refl (L:Nat->Prop) (w:World):Agree L w w:=⟨Nat.le_refl _,fun _ _ _=>rfl⟩
theorem Agree.trans {L:Nat->Prop} {a b c:World} (h:Agree L a b) (k:Agree L b c):Agree L a c :=
 ⟨Nat.le_trans h.1 k.1,fun i hi hL=>(k.2 i (Nat.lt_of_lt_of_le hi h.1) hL).trans (h.2 i hi hL)⟩
theorem Agree.below {L:Nat->Prop} {w w':World} (h:Below w.heap.size w w'):Agree L w w':=⟨h.size,fun i hi _=>h.block i hi⟩
def Goes (L:Nat->Prop) (w:World) (L':Nat->Prop) (w':World):Prop:=∀ w'',Agree L' w' w''->Agree L w w''
theorem Goes.refl (L:Nat->Prop) (w:World):Goes L w L w:=fun _ h=>h
theorem oC {L L':Nat->Prop} {w:World} (h:∀ b,L' b->L b):Goes L w L' w:=fun _ k=>⟨k.1,fun b hb hL=>k.2 b hb fun h'=>hL (h b h')⟩
theorem Goes.store {L:Nat->Prop} {w w':World} {g:Nat} (hs:w'.heap.size=w.heap.size) (hb:∀ j,j≠g->w'.heap[j]?=w.heap[j]?) (hg:L g):Goes L w L w' :=
 fun _ k=>⟨by rw[<- hs]; exact k.1,fun b hbs hL=>(k.2 b (by rw[hs]; exact hbs) hL).trans (hb b fun e=>hL (e ▸ hg))⟩
def Shaped:Option Nat->Value->List Value->Prop
 | some n,v,cs=>v=.agg cs.toArray/\cs.length=n/\∀ c∈cs,c.oneCell'=true
 | none,v,cs=>cs=[v]/\v.oneCell'=true
theorem Shaped.cells {k:Option Nat} {v:Value} {cs:List Value} (h:Shaped k v cs):v.cells=cs.toArray:=by
 cases k with
 | some n=>obtain⟨rfl,_,_⟩:=h; rfl
 | none =>
  obtain⟨rfl,h⟩:=h;cases v<;>first | rfl | cases h
theorem Shaped.length {k:Option Nat} {v:Value} {cs:List Value} (h:Shaped k v cs):cs.length=k.getD 1:=by
 cases k with
 | some n=>exact h.2.1
 | none=>rw[h.1]; rfl
theorem Shaped.one {k:Option Nat} {v:Value} {cs:List Value} (h:Shaped k v cs):∀ c∈cs,c.oneCell'=true:=by
 cases k with
 | some n=>exact h.2.2
 | none=>intro c hc; rw[h.1] at hc; rw[List.mem_singleton.1 hc]; exact h.2
theorem Shaped.same {k:Option Nat} {v v':Value} {cs:List Value} (h:Shaped k v cs) (h':Shaped k v' cs):v=v':=by
 cases k with
 | some n=>rw[h.1,h'.1]
 | none =>
  have:=h.1.symm.trans h'.1;simpa using this
class bO (D:Type) where
 dat:D->World->Value->Prop
 shape:D->Option Nat
 plain:D->Bool
 shape_ok:∀ x w v,dat x w v->∃ cs,Shaped (shape x) v cs
 plain_ok:∀ x w v,plain x=true->dat x w v->∀ c∈v.cells.toList,cZ c=true
 W:World->Prop
 W_keep:∀ w w',Below w.heap.size w w'->W w->W w'
structure RG where
 is:aR->World->Value->Prop
 pts:List Nat
 ne:pts≠[]
 cong:∀ ρ ρ' w y,(∀ b∈pts,ρ' b=ρ b)->is ρ w y->is ρ' w y
 cell:Bool
 one:cell=true->∀ ρ w y,is ρ w y->y.oneCell'=true/\cZ y=true
inductive SA (D:Type) where
 | v (x:Value)
 | d (x:D)
 | ptr (b o:Nat)
 | sl (b n:Nat)
 | ar (b n:Nat)
 | lk (x:RG)
abbrev Ch (D:Type):=Option Nat × SA D
inductive AV (D:Type) where
 | one (s:SA D)
 | tup (l:List (SA D))
inductive XV (D:Type) where
 | no
 | av (x:AV D)
 | blk (T:TypeId) (ch:List (Ch D))
 | row (T:TypeId) (k:Option Nat) (l:List (SA D))
 | dead
 | np (l:List Nat)
abbrev Sg (D:Type):=List (Key × XV D)
abbrev St (D:Type):=Key->XV D
def KP:Key:=.b 1000000
section
variable {D:Type} [bO D]
def SA.is (L:Nat->Prop) (ρ:aR) (w:World):SA D->Value->Prop
 | .v x,y=>y=x
 | .d x,y=>∀ w',Agree L w w'->bO.dat x w' y
 | .ptr b o,y=>y=.pointer (some ⟨(ρ b).1,o,none⟩)
 | .sl b n,y=>∃ a,y=.slice a n (ρ b).2/\(0<(ρ b).2->a=some ⟨(ρ b).1,0,none⟩)
 | .ar b n,y=>y=.slice (some ⟨(ρ b).1,0,none⟩) n n
 | .lk x,y=>∀ w',Agree L w w'->x.is ρ w' y
def SA.ptrs:SA D->List Nat
 | .ptr b _=>[b]
 | .sl b _=>[b]
 | .ar b _=>[b]
 | .lk x=>x.pts
 | _=>[]
theorem SA.is.go {L L':Nat->Prop} {ρ ρ':aR} {w w':World} {s:SA D} {y:Value} (h:s.is L ρ w y) (g:Goes L w L' w') (hr:∀ b∈s.ptrs,ρ' b=ρ b):s.is L' ρ' w' y:=by
 cases s with
 | v x=>exact h
 | d x=>exact fun w'' hw=>h w'' (g w'' hw)
 | ptr b o=>show y=_; rw[hr b (by simp[SA.ptrs])]; exact h
 | sl b n=>show ∃ a,_; rw[hr b (by simp[SA.ptrs])]; exact h
 | ar b n=>show y=_; rw[hr b (by simp[SA.ptrs])]; exact h
 | lk x=>exact fun w'' hw=>x.cong ρ ρ' w'' y hr (h w'' (g w'' hw))
def dR (L:Nat->Prop) (ρ:aR) (w:World):List (SA D)->List Value->Prop
 | [],[]=>True
 | s::l,v::m=>s.is L ρ w v/\dR L ρ w l m
 | _,_=>False
def gK (l:List (SA D)):List Nat:=l.flatMap SA.ptrs
theorem dR.go {L L':Nat->Prop} {ρ ρ':aR} {w w':World}:∀ {l:List (SA D)} {m:List Value},dR L ρ w l m->Goes L w L' w'->(∀ b∈gK l,ρ' b=ρ b)->dR L' ρ' w' l m
 | [],[],_,_,_=>trivial
 | s::l,v::m,h,g,hr=>⟨h.1.go g fun b hb=>hr b (by simp only[gK,List.flatMap_cons,List.mem_append]; exact .inl hb),h.2.go g fun b hb=>hr b (by simp only[gK,List.flatMap_cons,List.mem_append]; exact .inr hb)⟩
def AV.is (L:Nat->Prop) (ρ:aR) (w:World):AV D->Value->Prop
 | .one s,y=>s.is L ρ w y
 | .tup l,y=>∃ vs:List Value,y=.tuple vs.toArray/\dR L ρ w l vs
def AV.ptrs:AV D->List Nat
 | .one s=>s.ptrs
 | .tup l=>gK l
theorem AV.is.go {L L':Nat->Prop} {ρ ρ':aR} {w w':World} {s:AV D} {y:Value} (h:s.is L ρ w y) (g:Goes L w L' w') (hr:∀ b∈s.ptrs,ρ' b=ρ b):s.is L' ρ' w' y:=by
 cases s with
 | one s=>exact SA.is.go h g hr
 | tup l=>obtain⟨vs,rfl,h⟩:=h; exact⟨vs,rfl,h.go g hr⟩
def bZ (L:Nat->Prop) (ρ:aR) (w:World):List (Ch D)->List Value->Prop
 | [],cs=>cs=[]
 | c::l,cs=>∃ p r v,cs=p++r/\Shaped c.1 v p/\c.2.is L ρ w v/\bZ L ρ w l r
def kD (l:List (Ch D)):List Nat:=l.flatMap fun c=>c.2.ptrs
theorem bZ.go {L L':Nat->Prop} {ρ ρ':aR} {w w':World}:∀ {l:List (Ch D)} {cs:List Value},bZ L ρ w l cs->Goes L w L' w'->(∀ b∈kD l,ρ' b=ρ b)->bZ L' ρ' w' l cs
 | [],_,h,_,_=>h
 | c::l,_,⟨p,r,v,h1,h2,h3,h4⟩,g,hr=>⟨p,r,v,h1,h2,h3.go g fun b hb=>hr b (by simp only[kD,List.flatMap_cons,List.mem_append]; exact .inl hb),bZ.go h4 g fun b hb=>hr b (by simp only[kD,List.flatMap_cons,List.mem_append]; exact .inr hb)⟩
def lT:List (Ch D)->Nat->Option (Ch D)
 | [],_=>none
 | c::l,o=>bif Nat.beq o 0 then some c else bif Nat.blt o (c.1.getD 1) then none else lT l (o-c.1.getD 1)
def oN:List (Ch D)->Nat->Ch D->List (Ch D)
 | [],_,_=>[]
 | c::l,o,c'=>bif Nat.beq o 0 then c'::l else c::oN l (o-c.1.getD 1) c'
theorem bZ.at {L:Nat->Prop} {ρ:aR} {w:World}:∀ {l:List (Ch D)} {cs:List Value} {o:Nat} {c:Ch D},bZ L ρ w l cs->lT l o=some c ->
  ∃ pre p post v,cs=pre++p++post/\pre.length=o/\Shaped c.1 v p/\c.2.is L ρ w v/\c.2.ptrs ⊆ kD l /\
   ∀ c' v' p',c'.1=c.1->Shaped c'.1 v' p'->c'.2.is L ρ w v'->bZ L ρ w (oN l o c') (pre++p'++post)
 | [],_,_,_,_,h=>by cases h
 | d::l,_,o,c,⟨p,r,v,h1,h2,h3,h4⟩,h=>by
  unfold lT at h;cases e:Nat.beq o 0 with
  | true =>
   rw[e,cond_true] at h;obtain rfl:=Option.some.inj h;obtain rfl:=Nat.eq_of_beq_eq_true e;refine⟨[],p,r,v,by simpa using h1,rfl,h2,h3,fun b hb=>by simp only[kD,List.flatMap_cons,List.mem_append]; exact .inl hb,?_⟩;intro c' v' p' k1 k2 k3;exact⟨p',r,v',by simp,k2,k3,h4⟩
  | false =>
   rw[e,cond_false] at h;cases e2:Nat.blt o (d.1.getD 1) with
   | true=>rw[e2] at h; cases h
   | false =>
    rw[e2,cond_false] at h;obtain⟨pre,q,post,u,k1,k2,k3,k4,k5,k6⟩:=bZ.at h4 h;have hge:d.1.getD 1<=o:=by
     rcases Nat.lt_or_ge o (d.1.getD 1) with hlt | hge
     ·rw[show Nat.blt o (d.1.getD 1)=true by rw[Nat.blt_eq]; exact hlt] at e2; cases e2
     ·exact hge
    have hpl:=h2.length;refine⟨p++pre,q,post,u,by rw[h1,k1]; simp,by rw[List.length_append]; omega,k3,k4,fun b hb=>by simp only[kD,List.flatMap_cons,List.mem_append]; exact .inr (k5 hb),?_⟩;intro c' v' p' m1 m2 m3;unfold oN;rw[e,cond_false];exact⟨p,pre++p'++post,v,by simp,h2,h3,k6 c' v' p' m1 m2 m3⟩
def SA.plain:SA D->Bool
 | .v x=>x.cells.toList.all cZ
 | .d x=>bO.plain x
 | .ptr _ _=>true
 | .sl _ _=>true
 | .ar _ _=>true
 | .lk x=>x.cell
def gV (l:List (Ch D)):Bool:=l.all fun c=>c.2.plain
theorem yU {L:Nat->Prop} {ρ:aR} {w:World} {s:SA D} {v:Value} (hp:s.plain=true) (h:s.is L ρ w v):∀ c∈v.cells.toList,cZ c=true:=by
 intro c hm;cases s with
 | v x =>
  have hx:v=x:=h;subst hx;exact(List.all_eq_true.1 hp) c hm
 | d x=>exact bO.plain_ok x w v hp (h w (Agree.refl _ _)) c hm
 | ptr b o =>
  have hx:v=.pointer (some ⟨(ρ b).1,o,none⟩):=h;subst hx;simp only[Value.cells,List.mem_singleton] at hm;subst hm;rfl
 | sl b n =>
  obtain⟨a,hx,_⟩:=h;subst hx;simp only[Value.cells,List.mem_singleton] at hm;subst hm;rfl
 | ar b n =>
  have hx:v=.slice (some ⟨(ρ b).1,0,none⟩) n n:=h;subst hx;simp only[Value.cells,List.mem_singleton] at hm;subst hm;rfl
 | lk x =>
  obtain⟨h1,h2⟩:=x.one hp ρ w v (h w (Agree.refl _ _));rw[Shaped.cells (k:=none) (cs:=[v]) ⟨rfl,h1⟩] at hm;simp only[List.mem_singleton] at hm;subst hm;exact h2
theorem bZ.plain {L:Nat->Prop} {ρ:aR} {w:World}:∀ {l:List (Ch D)} {cs:List Value},bZ L ρ w l cs->gV l=true->∀ c∈cs,cZ c=true
 | [],_,h,_,c,hc=>by rw[show _=[] from h] at hc; cases hc
 | d::l,_,⟨p,r,v,h1,h2,h3,h4⟩,hp,c,hc=>by
  simp only[gV,List.all_cons,Bool.and_eq_true] at hp;rw[h1,List.mem_append] at hc;rcases hc with hc | hc
  ·have hv:=h2.cells;exact yU hp.1 h3 c (by rw[hv]; simpa using hc)
  ·exact bZ.plain h4 hp.2 c hc
theorem bZ.one {L:Nat->Prop} {ρ:aR} {w:World}:∀ {l:List (Ch D)} {cs:List Value},bZ L ρ w l cs->∀ c∈cs,c.oneCell'=true
 | [],_,h,c,hc=>by rw[show _=[] from h] at hc; cases hc
 | d::l,_,⟨p,r,v,h1,h2,h3,h4⟩,c,hc=>by
  rw[h1,List.mem_append] at hc;rcases hc with hc | hc
  ·exact h2.one c hc
  ·exact bZ.one h4 c hc
def dB (k:Option Nat) (l:List (SA D)):List (Ch D):=l.map fun s=>(k,s)
omit [bO D] in
theorem uE (k:Option Nat) (l:List (SA D)):kD (dB k l)=l.flatMap SA.ptrs:=by
 simp[kD,dB,List.flatMap_map]
theorem bZ.length {L:Nat->Prop} {ρ:aR} {w:World} {k:Option Nat}:∀ {l:List (SA D)} {cs:List Value},bZ L ρ w (dB k l) cs->cs.length=l.length*k.getD 1
 | [],_,h=>by rw[show _=[] from h]; simp
 | s::l,_,⟨p,r,v,h1,h2,h3,h4⟩=>by
  rw[h1,List.length_append,h2.length,bZ.length h4,List.length_cons,Nat.succ_mul,Nat.add_comm]
def XV.ptrs:XV D->List Nat
 | .av x=>x.ptrs
 | .blk _ ch=>kD ch
 | _=>[]
def bR:XV D->List Nat
 | .np l=>l
 | _=>[]
def fB (w:World) (g:Nat) (cs:List Value) (T:TypeId):Prop:=∃ fr:Nat × Nat,w.heap[g]?=some (.cells cs.toArray T fr)/\∀ j,j<cs.length->¬ (fr.1<=j/\j<fr.2)
theorem uN {w:World} {g:Nat} {cs:List Value} {T:TypeId} (h:w.heap[g]?=some (.cells cs.toArray T (0,0))):fB w g cs T:=⟨_,h,fun j _ q=>by have:=q.2; exact absurd this (Nat.not_lt_zero _)⟩
theorem fB.eq {w w':World} {g:Nat} {cs:List Value} {T:TypeId} (h:fB w g cs T) (e:w'.heap[g]?=w.heap[g]?):fB w' g cs T:=⟨h.choose,e.trans h.choose_spec.1,h.choose_spec.2⟩
theorem fB.lt {w:World} {g:Nat} {cs:List Value} {T:TypeId} (h:fB w g cs T):g<w.heap.size:=(Array.getElem?_eq_some_iff.1 h.choose_spec.1).1
theorem fB.cell {w:World} {g:Nat} {cs:List Value} {T:TypeId} (h:fB w g cs T) (j:Nat):w.cell? ⟨g,j,none⟩=cs[j]?:=by
 obtain⟨fr,h,_⟩:=h;unfold World.cell?;rw[h];simp
theorem fB.warm {w:World} {g:Nat} {cs:List Value} {T:TypeId} (h:fB w g cs T) (j:Nat) (hj:j<cs.length):w.frozen? ⟨g,j,none⟩=false:=by
 obtain⟨fr,h,hf⟩:=h;unfold World.frozen?;rw[h];have:=hf j hj;simp only[Bool.and_eq_false_iff,decide_eq_false_iff_not];by_cases h1:fr.1<=j
 ·exact .inr fun h2=>this ⟨h1,h2⟩
 ·exact .inl h1
def rI (L:Nat->Prop) (ρ:aR) (w:World) (pl:Prop) (i:Nat) (T:TypeId) (k:Option Nat) (l:List (SA D)):Prop :=
 (l.length<=(ρ i).2/\(ρ i).2<=maxLen/\l.flatMap SA.ptrs=[])/\(0<(ρ i).2->∃ cs sp:List Value,fB w (ρ i).1 (cs++sp) T/\bZ L ρ w (dB k l) cs/\(cs++sp).length=(ρ i).2*k.getD 1/\(pl->∀ c∈cs++sp,cZ c=true))
theorem rI.go {L L':Nat->Prop} {ρ ρ':aR} {w w':World} {pl pl':Prop} {i:Nat} {T:TypeId} {k:Option Nat} {l:List (SA D)} (h:rI L ρ w pl i T k l) (g:Goes L w L' w') (hi:ρ' i=ρ i)
  (hb:0<(ρ i).2->w'.heap[(ρ i).1]?=w.heap[(ρ i).1]?) (hp:pl'->pl):rI L' ρ' w' pl' i T k l:=by
 refine⟨by rw[hi]; exact h.1,fun hc=>?_⟩;rw[hi] at hc |-;obtain⟨cs,sp,h1,h2,h3,h5⟩:=h.2 hc;exact⟨cs,sp,h1.eq (hb hc),h2.go g (by rw[uE,h.1.2.2]; intro b hb; cases hb),h3,fun q=>h5 (hp q)⟩
def gO (L:Nat->Prop) (w:World):Prop:=∀ b,L b->∀ cs T fr,w.heap[b]?=some (.cells cs T fr)->∀ c∈cs.toList,cZ c=true
structure Kept (base:Nat) (B:Nat->Prop) (w w':World):Prop where
 os:w'.os=w.os
 tape:w'.tape=w.tape
 output:w'.output=w.output
 size:w.heap.size<=w'.heap.size
 block:∀ b,b<base->¬ B b->w'.heap[b]?=w.heap[b]?
theorem Kept.refl (base:Nat) (B:Nat->Prop) (w:World):Kept base B w w:=⟨rfl,rfl,rfl,Nat.le_refl _,fun _ _ _=>rfl⟩
theorem Kept.trans {base base':Nat} {B B':Nat->Prop} {a b c:World} (h:Kept base B a b) (k:Kept base' B' b c) (hs:base<=base') (hB:∀ i,i<base->B' i->B i):Kept base B a c :=
 ⟨k.os.trans h.os,k.tape.trans h.tape,k.output.trans h.output,Nat.le_trans h.size k.size,fun i hi hn=>(k.block i (Nat.lt_of_lt_of_le hi hs) fun q=>hn (hB i hi q)).trans (h.block i hi hn)⟩
theorem Kept.below {base:Nat} {B:Nat->Prop} {w w':World} (h:Kept base B w w') (hB:∀ b,¬ B b):Below base w w':=⟨h.os,h.tape,h.output,h.size,fun b hb=>h.block b hb (hB b)⟩
structure jD (D:Type) [bO D] where
 w0:World
 L0:Nat->Prop
 lt:∀ b,L0 b->b<w0.heap.size
 fr:Bool
 Bw:Nat->Prop
 bl:∀ b,Bw b->L0 b
 bw:fr=false->∀ b,¬ Bw b
 ni:fr=false->gO L0 w0
 wf:fr=false->∀ w,Kept w0.heap.size Bw w0 w->bO.W D w
abbrev Cx (D:Type) [bO D]:=jD D
abbrev jD.cx (c:jD D):Cx D:=c
def live (σ:St D) (ρ:aR) (i:Nat):Prop:=match σ (.b i) with
 | .blk _ _=>True
 | .row _ _ _=>0<(ρ i).2
 | _=>False
def aT (cx:Cx D) (σ:St D) (ρ:aR) (b:Nat):Prop:=cx.L0 b\/∃ i,live σ ρ i/\(ρ i).1=b
omit [bO D] in
theorem jJ {σ:St D} {ρ:aR} {i:Nat} {T:TypeId} {ch:List (Ch D)} (h:σ (.b i)=.blk T ch):live σ ρ i:=by unfold live; rw[h]; trivial
omit [bO D] in
theorem jI {σ:St D} {ρ:aR} {i:Nat} {T:TypeId} {k:Option Nat} {l:List (SA D)} (h:σ (.b i)=.row T k l):live σ ρ i ↔ 0<(ρ i).2:=by unfold live; rw[h]
omit [bO D] in
theorem fY {σ σ':St D} {ρ ρ':aR} {i:Nat} (h:σ' (.b i)=σ (.b i)) (hr:ρ' i=ρ i):live σ' ρ' i ↔ live σ ρ i:=by unfold live; rw[h,hr]
omit [bO D] in
theorem gH {σ:St D} {ρ:aR} {i:Nat} (h:live σ ρ i):(∃ T ch,σ (.b i)=.blk T ch)\/∃ T k l,σ (.b i)=.row T k l/\0<(ρ i).2:=by
 unfold live at h;split at h
 ·exact .inl ⟨_,_,by assumption⟩
 ·exact .inr ⟨_,_,_,by assumption,h⟩
 ·exact h.elim
omit [bO D] in
theorem xJ {σ:St D} {ρ:aR} {i:Nat} (h:live σ ρ i):σ (.b i)≠.no:=by
 rcases gH h with ⟨T,ch,e⟩ | ⟨T,k,l,e,_⟩<;>rw[e]<;>simp
structure Conc (cx:Cx D) (n:Nat) (ρ:aR) (σ:St D) (a:Act) (w:World):Prop where
 size:a.tmps.size=n
 defers:a.defers=[]
 kept:Kept cx.w0.heap.size cx.Bw cx.w0 w
 mine:∀ i,live σ ρ i->cx.w0.heap.size<=(ρ i).1\/cx.Bw (ρ i).1
 blk:∀ i T ch,σ (.b i)=.blk T ch->∃ cs:List Value,w.heap[(ρ i).1]?=some (.cells cs.toArray T (0,0))/\bZ (aT cx σ ρ) ρ w ch cs
 row:∀ i T k l,σ (.b i)=.row T k l->rI (aT cx σ ρ) ρ w (i ∉ bR (σ KP)) i T k l
 inj:∀ i j,live σ ρ i->live σ ρ j->(ρ i).1=(ρ j).1->i=j
 slt:∀ t av,σ (.s t)=.av av->av.is (aT cx σ ρ) ρ w (a.tmps.getD t undef)
 own:∀ k b,b∈(σ k).ptrs->σ (.b b)≠.no
 pln:∀ i T ch,σ (.b i)=.blk T ch->i ∉ bR (σ KP)->gV ch=true
def CC (cx:Cx D) (n:Nat) (σ:St D) (a:Act) (w:World):Prop:=∃ ρ,Conc cx n ρ σ a w
theorem Conc.lt {cx:Cx D} {n:Nat} {ρ:aR} {σ:St D} {a:Act} {w:World} (h:Conc cx n ρ σ a w) {i:Nat} (hi:live σ ρ i):(ρ i).1<w.heap.size:=by
 rcases gH hi with ⟨T,ch,e⟩ | ⟨T,k,l,e,hc⟩
 ·obtain⟨cs,hc,_⟩:=h.blk i T ch e;exact(Array.getElem?_eq_some_iff.1 hc).1
 ·obtain⟨cs,sp,h1,_⟩:=(h.row i T k l e).2 hc;exact h1.lt
theorem Conc.lofLt {cx:Cx D} {n:Nat} {ρ:aR} {σ:St D} {a:Act} {w:World} (h:Conc cx n ρ σ a w):∀ b,aT cx σ ρ b->b<w.heap.size:=by
 rintro b (hb | ⟨i,hi,rfl⟩)
 ·exact Nat.lt_of_lt_of_le (cx.lt b hb) h.kept.size
 ·exact h.lt hi
theorem Conc.stepN {cx:Cx D} {n:Nat} {ρ ρ':aR} {σ σ':St D} {a a':Act} {w w':World} (h:Conc cx n ρ σ a w) (M:Nat->Prop) (C:Key->Prop)
  (hsz:a'.tmps.size=n) (hdf:a'.defers=[]) (hos:w'.os=w.os) (htape:w'.tape=w.tape) (hout:w'.output=w.output) (hsize:w.heap.size<=w'.heap.size)
  (hblk:∀ b,b<w.heap.size->¬ M b->w'.heap[b]?=w.heap[b]?) (hM:∀ b,M b->(∃ i,live σ ρ i/\(ρ i).1=b)\/(cx.L0 b/\cx.Bw b))
  (hC:∀ k,¬ C k->σ' k=σ k) (hρ:∀ i,σ (.b i)≠.no->ρ' i=ρ i) (hMC:∀ i,live σ ρ i->M (ρ i).1->C (.b i))
  (hL:∀ b,b<w.heap.size->aT cx σ' ρ' b->aT cx σ ρ b)
  (hmine:∀ i,C (.b i)->live σ' ρ' i->cx.w0.heap.size<=(ρ' i).1\/cx.Bw (ρ' i).1)
  (hblk':∀ i T ch,C (.b i)->σ' (.b i)=.blk T ch->(i ∉ bR (σ' KP)->gV ch=true)/\∃ cs:List Value,w'.heap[(ρ' i).1]?=some (.cells cs.toArray T (0,0))/\bZ (aT cx σ' ρ') ρ' w' ch cs)
  (hrow':∀ i T k l,C (.b i)->σ' (.b i)=.row T k l->rI (aT cx σ' ρ') ρ' w' (i ∉ bR (σ' KP)) i T k l)
  (hnp:∀ i,¬ C (.b i)->i ∉ bR (σ' KP)->i ∉ bR (σ KP))
  (hinj:∀ i j,live σ' ρ' i->live σ' ρ' j->(ρ' i).1=(ρ' j).1->i=j)
  (hslt:∀ t av,C (.s t)->σ' (.s t)=.av av->av.is (aT cx σ' ρ') ρ' w' (a'.tmps.getD t undef)) (htmp:∀ t,¬ C (.s t)->a'.tmps.getD t undef=a.tmps.getD t undef)
  (hown:∀ k b,C k->b∈(σ' k).ptrs->σ' (.b b)≠.no) (hkeep:∀ i,σ (.b i)≠.no->σ' (.b i)≠.no):Conc cx n ρ' σ' a' w':=by
 have g:Goes (aT cx σ ρ) w (aT cx σ' ρ') w':=by
  intro w'' hw;refine⟨Nat.le_trans hsize hw.1,fun b hbs hnL=>?_⟩;have hnM:¬ M b:=fun hm=>hnL ((hM b hm).elim .inr fun q=>.inl q.1);exact(hw.2 b (Nat.lt_of_lt_of_le hbs hsize) fun q=>hnL (hL b hbs q)).trans (hblk b hbs hnM)
 have hkp:Kept cx.w0.heap.size cx.Bw w w':=by
  refine⟨hos,htape,hout,hsize,fun b hb hB=>hblk b (Nat.lt_of_lt_of_le hb h.kept.size) fun hm=>?_⟩;rcases hM b hm with ⟨i,hi,rfl⟩ | ⟨_,q⟩
  ·rcases h.mine i hi with q | q
   ·omega
   ·exact hB q
  ·exact hB q
 have hptr:∀ k b,b∈(σ k).ptrs->ρ' b=ρ b:=fun k b hb=>hρ b (h.own k b hb);refine⟨hsz,hdf,h.kept.trans hkp (Nat.le_refl _) (fun _ _ q=>q),?_,?_,?_,hinj,?_,?_,?_⟩
 ·intro i hi;by_cases e:C (.b i)
  ·exact hmine i e hi
  ·have e1:=hC _ e;have hne:σ (.b i)≠.no:=fun q=>by have:=xJ hi; rw[e1] at this; exact this q
   have e2:=hρ i hne;rw[e2];exact h.mine i ((fY e1 e2).1 hi)
 ·intro i T ch hi;by_cases e:C (.b i)
  ·exact(hblk' i T ch e hi).2
  ·rw[hC _ e] at hi;obtain⟨cs,h2,h3⟩:=h.blk i T ch hi;have e2:=hρ i (by rw[hi]; simp);rw[e2];exact⟨cs,(hblk _ (h.lt (jJ hi)) fun hm=>e (hMC i (jJ hi) hm)).trans h2,h3.go g fun b hb=>hptr (.b i) b (by rw[hi]; exact hb)⟩
 ·intro i T k l hi;by_cases e:C (.b i)
  ·exact hrow' i T k l e hi
  ·rw[hC _ e] at hi;have e2:=hρ i (by rw[hi]; simp);refine(h.row i T k l hi).go g e2 (fun hc=>?_) (hnp i e);exact hblk _ (h.lt ((jI hi).2 hc)) fun hm=>e (hMC i ((jI hi).2 hc) hm)
 ·intro t av ht;by_cases e:C (.s t)
  ·exact hslt t av e ht
  ·rw[hC _ e] at ht;rw[htmp t e];exact(h.slt t av ht).go g fun b hb=>hptr (.s t) b (by rw[ht]; exact hb)
 ·intro k b hb;by_cases e:C k
  ·exact hown k b e hb
  ·rw[hC _ e] at hb;exact hkeep b (h.own k b hb)
 ·intro i T ch hi hq;by_cases e:C (.b i)
  ·exact(hblk' i T ch e hi).1 hq
  ·rw[hC _ e] at hi;exact h.pln i T ch hi (hnp i e hq)
theorem Conc.step {cx:Cx D} {n:Nat} {ρ ρ':aR} {σ σ':St D} {a a':Act} {w w':World} (h:Conc cx n ρ σ a w) (M:Nat->Prop) (C:Key->Prop)
  (hsz:a'.tmps.size=n) (hdf:a'.defers=[]) (hos:w'.os=w.os) (htape:w'.tape=w.tape) (hout:w'.output=w.output) (hsize:w.heap.size<=w'.heap.size)
  (hblk:∀ b,b<w.heap.size->¬ M b->w'.heap[b]?=w.heap[b]?) (hM:∀ b,M b->∃ i,live σ ρ i/\(ρ i).1=b)
  (hC:∀ k,¬ C k->σ' k=σ k) (hρ:∀ i,σ (.b i)≠.no->ρ' i=ρ i) (hMC:∀ i,live σ ρ i->M (ρ i).1->C (.b i))
  (hL:∀ b,b<w.heap.size->aT cx σ' ρ' b->aT cx σ ρ b)
  (hmine:∀ i,C (.b i)->live σ' ρ' i->cx.w0.heap.size<=(ρ' i).1\/cx.Bw (ρ' i).1)
  (hblk':∀ i T ch,C (.b i)->σ' (.b i)=.blk T ch->gV ch=true/\∃ cs:List Value,w'.heap[(ρ' i).1]?=some (.cells cs.toArray T (0,0))/\bZ (aT cx σ' ρ') ρ' w' ch cs)
  (hrow':∀ i T k l,C (.b i)->σ' (.b i)=.row T k l->rI (aT cx σ' ρ') ρ' w' (i ∉ bR (σ' KP)) i T k l)
  (hnp:∀ i,¬ C (.b i)->i ∉ bR (σ' KP)->i ∉ bR (σ KP))
  (hinj:∀ i j,live σ' ρ' i->live σ' ρ' j->(ρ' i).1=(ρ' j).1->i=j)
  (hslt:∀ t av,C (.s t)->σ' (.s t)=.av av->av.is (aT cx σ' ρ') ρ' w' (a'.tmps.getD t undef)) (htmp:∀ t,¬ C (.s t)->a'.tmps.getD t undef=a.tmps.getD t undef)
  (hown:∀ k b,C k->b∈(σ' k).ptrs->σ' (.b b)≠.no) (hkeep:∀ i,σ (.b i)≠.no->σ' (.b i)≠.no):Conc cx n ρ' σ' a' w' :=
 h.stepN M C hsz hdf hos htape hout hsize hblk (fun b hm=>.inl (hM b hm)) hC hρ hMC hL hmine (fun i T ch q1 q2=>⟨fun _=>(hblk' i T ch q1 q2).1,(hblk' i T ch q1 q2).2⟩) hrow' hnp hinj hslt htmp hown hkeep
theorem Conc.drew {cx:Cx D} {n:Nat} {ρ:aR} {σ:St D} {a:Act} {w:World} (h:Conc cx n ρ σ a w):Conc cx n ρ σ a w.drew :=
 h.step (fun _=>False) (fun _=>False) h.size h.defers rfl rfl rfl (Nat.le_refl _) (fun _ _ _=>rfl) (fun _ q=>q.elim) (fun _ _=>rfl) (fun _ _=>rfl) (fun _ _ q=>q.elim) (fun _ _ q=>q) (fun _ q=>q.elim) (fun _ _ _ q=>q.elim) (fun _ _ _ _ q=>q.elim) (fun _ _ q=>q) h.inj (fun _ _ q=>q.elim) (fun _ _=>rfl) (fun _ _ q=>q.elim) (fun _ q=>q)
theorem CC.drew {cx:Cx D} {n:Nat} {σ:St D} {a:Act} {w:World} (h:CC cx n σ a w):CC cx n σ a w.drew:=let ⟨ρ,h⟩:=h; ⟨ρ,h.drew⟩
omit [bO D] in
theorem kM {σ:St D} {k:Key} {x:XV D}:upd σ [(k,x)] k=x:=by
 show (bif Key.beq k k then _ else _)=_; rw[iE]; rfl
omit [bO D] in
theorem mM {σ:St D} {k k':Key} {x:XV D} (h:k'≠k):upd σ [(k,x)] k'=σ k':=lI (by simpa[keys] using h)
theorem jK {a:Act} {n d t:Nat} {v:Value} (hd:d<n) (hs:a.tmps.size=n):(a.put (some d) v).tmps.getD t undef=if t=d then v else a.tmps.getD t undef:=by
 by_cases e:t=d
 ·subst e; rw[if_pos rfl]; exact Pu.aDy _ _ _ (by rw[hs]; exact hd)
 ·rw[if_neg e,Pu.vZ (Pu.zJ a (some d) v t (fun h'=>e (Option.some.inj h').symm))]
theorem Conc.putX {cx:Cx D} {n:Nat} {ρ:aR} {σ:St D} {a:Act} {w w':World} {v:Value} {x:XV D} {d:Nat} (h:Conc cx n ρ σ a w) (hb:Below w.heap.size w w')
  (hv:∀ av,x=.av av->d<n/\av.is (aT cx σ ρ) ρ w' v) (hp:∀ b∈x.ptrs,σ (.b b)≠.no):Conc cx n ρ (upd σ [(.s d,x)]) (a.put (some d) v) w':=by
 have hk:∀ i,upd σ [(.s d,x)] (.b i)=σ (.b i):=fun i=>mM (by simp);have hL:aT cx (upd σ [(.s d,x)]) ρ=aT cx σ ρ:=by unfold aT live; simp only[hk]
 refine h.step (fun _=>False) (fun k=>k=.s d) (by rw[Pu.size_put]; exact h.size) (by rw[Pu.tE]; exact h.defers) hb.os hb.tape hb.output hb.size (fun b hb' _=>hb.block b hb') (fun _ q=>q.elim)
  (fun k hk'=>mM hk') (fun _ _=>rfl) (fun _ _ q=>q.elim) (fun b _ q=>by rw[hL] at q; exact q) (fun _ q=>by cases q) (fun _ _ _ q=>by cases q) (fun _ _ _ _ q=>by cases q) (fun i _ q=>by rw[show upd σ [(.s d,x)] KP=σ KP from hk _] at q; exact q)
  (fun i j hi hj=>h.inj i j ((fY (hk i) rfl).1 hi) ((fY (hk j) rfl).1 hj)) ?_ ?_ ?_ (fun i q=>by rw[hk]; exact q)
 ·intro t av ht hav;injection ht with ht;subst ht;rw[kM] at hav;obtain⟨hd,hv⟩:=hv av hav;rw[hL,jK hd h.size,if_pos rfl];exact hv
 ·intro t ht;rw[Pu.vZ (Pu.zJ a (some d) v t (fun h'=>ht (by rw[Option.some.inj h'])))]
 ·intro k b hk' hb';subst hk';rw[kM] at hb';rw[hk];exact hp b hb'
theorem Conc.put {cx:Cx D} {n:Nat} {ρ:aR} {σ:St D} {a:Act} {w w':World} {v:Value} {av:AV D} {d:Nat} (h:Conc cx n ρ σ a w) (hb:Below w.heap.size w w') (hd:d<n)
  (hv:av.is (aT cx σ ρ) ρ w' v) (hp:∀ b∈av.ptrs,σ (.b b)≠.no):Conc cx n ρ (upd σ [(.s d,.av av)]) (a.put (some d) v) w' :=
 h.putX hb (fun av' e=>by obtain rfl:=(XV.av.injEq _ _).mp e; exact⟨hd,hv⟩) hp
theorem Conc.lose {cx:Cx D} {n:Nat} {ρ:aR} {σ:St D} {a:Act} {w w':World} {v:Value} {d:Nat} (h:Conc cx n ρ σ a w) (hb:Below w.heap.size w w'):Conc cx n ρ (upd σ [(.s d,.no)]) (a.put (some d) v) w' :=
 h.putX hb (fun av' e=>by cases e) (by intro b hb; cases hb)
omit [bO D] in
theorem aFq {σ:St D} {d i:Nat} {x y:XV D}:upd σ [(.s d,x),(.b i,y)] (.s d)=x:=by
 show (bif Key.beq (.s d) (.s d) then _ else _)=_; rw[iE]; rfl
omit [bO D] in
theorem aA5 {σ:St D} {d i:Nat} {x y:XV D}:upd σ [(.s d,x),(.b i,y)] (.b i)=y:=by
 show (bif Key.beq (.b i) (.b i) then _ else _)=_; rw[iE]; rfl
omit [bO D] in
theorem aAj {σ:St D} {d i:Nat} {x y:XV D} {k:Key} (h1:k≠.s d) (h2:k≠.b i):upd σ [(.s d,x),(.b i,y)] k=σ k:=lI (by simp[keys,h1,h2])
theorem Conc.newN {cx:Cx D} {n:Nat} {ρ:aR} {σ:St D} {a:Act} {w w':World} {d i g c:Nat} {av:AV D} {x:XV D} {v:Value} (h:Conc cx n ρ σ a w) (hb:Below w.heap.size w w') (hd:d<n)
  (hi:σ (.b i)=.no) (hiK:i≠1000000) (hx0:x≠.no) (hg:w.heap.size<=g) (hv:∀ ρ':aR,ρ' i=(g,c)->av.is (fun _=>True) ρ' w' v) (hvp:∀ b∈av.ptrs,b=i)
  (hbx:∀ T ch,x=.blk T ch->(i ∉ bR (σ KP)->gV ch=true)/\∃ cs:List Value,w'.heap[g]?=some (.cells cs.toArray T (0,0))/\bZ (aT cx σ ρ) ρ w ch cs)
  (hrx:∀ T k l,x=.row T k l->(l.length<=c/\c<=maxLen/\l.flatMap SA.ptrs=[])/\(0<c->∃ cs sp:List Value,fB w' g (cs++sp) T/\bZ (aT cx σ ρ) ρ w (dB k l) cs/\(cs++sp).length=c*k.getD 1/\(i ∉ bR (σ KP)->∀ c∈cs++sp,cZ c=true)))
  (hp:∀ b∈x.ptrs,σ (.b b)≠.no) (hav:∀ L w1 w2 ρ' y,av.is (fun _=>True) ρ' w1 y->av.is L ρ' w2 y) :
  CC cx n (upd σ [(.s d,.av av),(.b i,x)]) (a.put (some d) v) w':=by
 obtain⟨ρ',hρ⟩:∃ ρ':aR,ρ'=fun j=>if j=i then (g,c) else ρ j:=⟨_,rfl⟩
 have hρi:ρ' i=(g,c):=by rw[hρ]; simp
 have hρo:∀ j,j≠i->ρ' j=ρ j:=fun j hj=>by rw[hρ]; simp[hj]
 obtain⟨σ',hσ⟩:∃ σ',σ'=upd σ [(.s d,.av av),(.b i,x)]:=⟨_,rfl⟩
 have k1:σ' (.s d)=.av av:=by rw[hσ]; exact aFq
 have k2:σ' (.b i)=x:=by rw[hσ]; exact aA5
 have k3:∀ k,k≠.s d->k≠.b i->σ' k=σ k:=fun k h1 h2=>by rw[hσ]; exact aAj h1 h2
 have hKP:σ' KP=σ KP:=k3 _ (by simp[KP]) (by simp[KP]; omega);have hne:∀ j,σ (.b j)≠.no->j≠i:=fun j hj e=>by rw[e] at hj; exact hj hi
 have hρ2:∀ j,σ (.b j)≠.no->ρ' j=ρ j:=fun j hj=>hρo j (hne j hj);have hlive:∀ j,j≠i->(live σ' ρ' j ↔ live σ ρ j):=fun j hj=>fY (k3 _ (by simp) (by simpa using hj)) (hρo j hj);have hL:∀ b,b<w.heap.size->aT cx σ' ρ' b->aT cx σ ρ b:=by
  rintro b hbs (hL | ⟨j,h1,h2⟩)
  ·exact .inl hL
  ·by_cases e:j=i
   ·subst e; rw[hρi] at h2; simp only at h2; omega
   ·exact .inr ⟨j,(hlive j e).1 h1,by rw[<- hρo j e]; exact h2⟩
 have g2:Goes (aT cx σ ρ) w (aT cx σ' ρ') w':=fun w'' hw=>⟨Nat.le_trans hb.size hw.1,fun b hbs hnL=>(hw.2 b (Nat.lt_of_lt_of_le hbs hb.size) fun h'=>hnL (hL b hbs h')).trans (hb.block b hbs)⟩
 refine⟨ρ',?_⟩;rw[<- hσ];refine h.stepN (fun _=>False) (fun k=>k=.s d\/k=.b i) (by rw[Pu.size_put]; exact h.size) (by rw[Pu.tE]; exact h.defers) hb.os hb.tape hb.output hb.size (fun b hb' _=>hb.block b hb') (fun _ q=>q.elim)
  (fun k hk=>k3 k (fun q=>hk (.inl q)) (fun q=>hk (.inr q))) hρ2 (fun _ _ q=>q.elim) hL ?_ ?_ ?_ (fun j _ q=>by rw[hKP] at q; exact q) ?_ ?_ ?_ ?_ ?_
 ·rintro j (q | q) _
  ·cases q
  ·injection q with q; subst q; rw[hρi]; exact .inl (Nat.le_trans h.kept.size hg)
 ·rintro j T ch (q | q) hj
  ·cases q
  ·injection q with q;subst q;rw[k2] at hj;obtain⟨e1,cs,e2,e3⟩:=hbx T ch hj;rw[hρi];exact⟨fun q=>e1 (by rw[hKP] at q; exact q),cs,e2,e3.go g2 fun b hb'=>hρ2 b (hp b (by rw[hj]; exact hb'))⟩
 ·rintro j T k l (q | q) hj
  ·cases q
  ·injection q with q;subst q;rw[k2] at hj;obtain⟨e1,e2⟩:=hrx T k l hj;refine⟨by rw[hρi]; exact e1,fun hc=>?_⟩;rw[hρi] at hc |-;obtain⟨cs,sp,e3,e4,e5,e7⟩:=e2 hc;exact⟨cs,sp,e3,e4.go g2 (fun b hb'=>by rw[uE,e1.2.2] at hb'; cases hb'),e5,fun q=>e7 (by rw[hKP] at q; exact q)⟩
 ·intro j k hj hk he;by_cases e1:j=i
  ·by_cases e2:k=i
   ·rw[e1,e2]
   ·rw[e1,hρi,hρo k e2] at he;have:=h.lt ((hlive k e2).1 hk);simp only at he;omega
  ·by_cases e2:k=i
   ·rw[e2,hρi,hρo j e1] at he;have:=h.lt ((hlive j e1).1 hj);simp only at he;omega
   ·rw[hρo j e1,hρo k e2] at he;exact h.inj j k ((hlive j e1).1 hj) ((hlive k e2).1 hk) he
 ·rintro t av' (q | q) ht
  ·injection q with q;subst q;rw[k1] at ht;obtain rfl:=(XV.av.injEq _ _).mp ht;rw[jK hd h.size,if_pos rfl];exact hav _ _ _ _ _ (hv ρ' hρi)
  ·cases q
 ·intro t ht;rw[jK hd h.size,if_neg (fun e=>ht (.inl (by rw[e])))]
 ·rintro k b (q | q) hb'
  ·subst q;rw[k1] at hb';rw[hvp b hb',k2];exact hx0
  ·subst q;rw[k2] at hb';rw[k3 _ (by simp) (by simpa using hne b (hp b hb'))];exact hp b hb'
 ·intro j hj;rw[k3 _ (by simp) (by simpa using hne j hj)];exact hj
theorem Conc.new {cx:Cx D} {n:Nat} {ρ:aR} {σ:St D} {a:Act} {w w':World} {d i g c:Nat} {av:AV D} {x:XV D} {v:Value} (h:Conc cx n ρ σ a w) (hb:Below w.heap.size w w') (hd:d<n)
  (hi:σ (.b i)=.no) (hiK:i≠1000000) (hx0:x≠.no) (hg:w.heap.size<=g) (hv:∀ ρ':aR,ρ' i=(g,c)->av.is (fun _=>True) ρ' w' v) (hvp:∀ b∈av.ptrs,b=i)
  (hbx:∀ T ch,x=.blk T ch->gV ch=true/\∃ cs:List Value,w'.heap[g]?=some (.cells cs.toArray T (0,0))/\bZ (aT cx σ ρ) ρ w ch cs)
  (hrx:∀ T k l,x=.row T k l->(l.length<=c/\c<=maxLen/\l.flatMap SA.ptrs=[])/\(0<c->∃ cs sp:List Value,fB w' g (cs++sp) T/\bZ (aT cx σ ρ) ρ w (dB k l) cs/\(cs++sp).length=c*k.getD 1/\(i ∉ bR (σ KP)->∀ c∈cs++sp,cZ c=true)))
  (hp:∀ b∈x.ptrs,σ (.b b)≠.no) (hav:∀ L w1 w2 ρ' y,av.is (fun _=>True) ρ' w1 y->av.is L ρ' w2 y) :
  CC cx n (upd σ [(.s d,.av av),(.b i,x)]) (a.put (some d) v) w' :=
 h.newN hb hd hi hiK hx0 hg hv hvp (fun T ch q=>⟨fun _=>(hbx T ch q).1,(hbx T ch q).2⟩) hrx hp hav
theorem Conc.stoN {cx:Cx D} {n:Nat} {ρ:aR} {σ:St D} {a:Act} {w w':World} {i:Nat} {x:XV D} (h:Conc cx n ρ σ a w)
  (hi:live σ ρ i) (hx0:x≠.no) (hxl:live (upd σ [(.b i,x)]) ρ i) (hiK:i≠1000000) (hos:w'.os=w.os) (htape:w'.tape=w.tape) (hout:w'.output=w.output) (hs:w'.heap.size=w.heap.size) (hbl:∀ j,j≠(ρ i).1->w'.heap[j]?=w.heap[j]?)
  (hbx:∀ T ch,x=.blk T ch->(i ∉ bR (σ KP)->gV ch=true)/\∃ cs:List Value,w'.heap[(ρ i).1]?=some (.cells cs.toArray T (0,0))/\bZ (aT cx σ ρ) ρ w ch cs)
  (hrx:∀ T k l,x=.row T k l->(l.length<=(ρ i).2/\(ρ i).2<=maxLen/\l.flatMap SA.ptrs=[])/\(0<(ρ i).2->∃ cs sp:List Value,fB w' (ρ i).1 (cs++sp) T/\bZ (aT cx σ ρ) ρ w (dB k l) cs/\(cs++sp).length=(ρ i).2*k.getD 1/\(i ∉ bR (σ KP)->∀ c∈cs++sp,cZ c=true)))
  (hp:∀ b∈x.ptrs,σ (.b b)≠.no):Conc cx n ρ (upd σ [(.b i,x)]) a w':=by
 have k2:upd σ [(.b i,x)] (.b i)=x:=kM;have k3:∀ k,k≠.b i->upd σ [(.b i,x)] k=σ k:=fun k hk=>mM hk;obtain⟨σ',hσ⟩:∃ σ',σ'=upd σ [(.b i,x)]:=⟨_,rfl⟩
 rw[<- hσ] at k2 k3 hxl |-;have hKP:σ' KP=σ KP:=k3 _ (by simp[KP]; omega);have hlive:∀ j,live σ' ρ j ↔ live σ ρ j:=fun j=>by
  by_cases e:j=i
  ·subst e; exact⟨fun _=>hi,fun _=>hxl⟩
  ·exact fY (k3 _ (by simpa using e)) rfl
 have hL:aT cx σ' ρ=aT cx σ ρ:=by unfold aT; simp only[hlive]
 have g:Goes (aT cx σ ρ) w (aT cx σ ρ) w':=Goes.store hs hbl (.inr ⟨i,hi,rfl⟩);refine h.stepN (fun b=>b=(ρ i).1) (fun k=>k=.b i) h.size h.defers hos htape hout (by rw[hs]; exact Nat.le_refl _) (fun b _ hm=>hbl b hm) (fun b hm=>.inl ⟨i,hi,hm.symm⟩)
  (fun k hk=>k3 k hk) (fun _ _=>rfl) (fun j hj hm=>by rw[h.inj j i hj hi hm]) (fun b _ q=>by rw[hL] at q; exact q) ?_ ?_ ?_ (fun j _ q=>by rw[hKP] at q; exact q)
  (fun j k hj hk=>h.inj j k ((hlive j).1 hj) ((hlive k).1 hk)) (fun t av q=>by cases q) (fun _ _=>rfl) ?_ ?_
 ·intro j q _;injection q with q; subst q; exact h.mine _ hi
 ·intro j T ch q hj;injection q with q;subst q;rw[k2] at hj;obtain⟨e1,cs,e2,e3⟩:=hbx T ch hj;rw[hL];exact⟨fun q=>e1 (by rw[hKP] at q; exact q),cs,e2,e3.go g fun _ _=>rfl⟩
 ·intro j T k l q hj;injection q with q;subst q;rw[k2] at hj;obtain⟨e1,e2⟩:=hrx T k l hj;refine⟨e1,fun hc=>?_⟩;obtain⟨cs,sp,e3,e4,e5,e7⟩:=e2 hc;rw[hL];exact⟨cs,sp,e3,e4.go g (fun _ _=>rfl),e5,fun q=>e7 (by rw[hKP] at q; exact q)⟩
 ·intro k b q hb';subst q;rw[k2] at hb';by_cases e:b=i
  ·subst e; rw[k2]; exact hx0
  ·rw[k3 _ (by simpa using e)]; exact hp b hb'
 ·intro j hj;by_cases e:j=i
  ·subst e; rw[k2]; exact hx0
  ·rw[k3 _ (by simpa using e)]; exact hj
theorem Conc.sto {cx:Cx D} {n:Nat} {ρ:aR} {σ:St D} {a:Act} {w w':World} {i:Nat} {x:XV D} (h:Conc cx n ρ σ a w)
  (hi:live σ ρ i) (hx0:x≠.no) (hxl:live (upd σ [(.b i,x)]) ρ i) (hiK:i≠1000000) (hos:w'.os=w.os) (htape:w'.tape=w.tape) (hout:w'.output=w.output) (hs:w'.heap.size=w.heap.size) (hbl:∀ j,j≠(ρ i).1->w'.heap[j]?=w.heap[j]?)
  (hbx:∀ T ch,x=.blk T ch->gV ch=true/\∃ cs:List Value,w'.heap[(ρ i).1]?=some (.cells cs.toArray T (0,0))/\bZ (aT cx σ ρ) ρ w ch cs)
  (hrx:∀ T k l,x=.row T k l->(l.length<=(ρ i).2/\(ρ i).2<=maxLen/\l.flatMap SA.ptrs=[])/\(0<(ρ i).2->∃ cs sp:List Value,fB w' (ρ i).1 (cs++sp) T/\bZ (aT cx σ ρ) ρ w (dB k l) cs/\(cs++sp).length=(ρ i).2*k.getD 1/\(i ∉ bR (σ KP)->∀ c∈cs++sp,cZ c=true)))
  (hp:∀ b∈x.ptrs,σ (.b b)≠.no):Conc cx n ρ (upd σ [(.b i,x)]) a w' :=
 h.stoN hi hx0 hxl hiK hos htape hout hs hbl (fun T ch q=>⟨fun _=>(hbx T ch q).1,(hbx T ch q).2⟩) hrx hp
end
end Vc
end Go.Proofs.YtbaihklbefhgdaaGreat
