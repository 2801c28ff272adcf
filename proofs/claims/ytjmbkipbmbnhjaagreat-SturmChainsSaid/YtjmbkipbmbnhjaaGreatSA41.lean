/-
  
-/
import Derived.Test.YtjmbkipbmbnhjaaGreatSA15
import Derived.Test.YtjmbkipbmbnhjaaGreatSA39
import Derived.Test.YtjmbkipbmbnhjaaGreatSA36
set_option linter.unusedVariables false
set_option linter.unusedSimpArgs false
set_option linter.unusedSectionVars false
namespace Go.Proofs.YtjmbkipbmbnhjaaGreat
open Go.RowKit
open Dg Zn
namespace Vc
def jU (L:Nat->Prop) (W W':World):Prop:=W.heap.size<=W'.heap.size/\∀ b,¬ L b->∀ off u,W.cell? ⟨b,off,none⟩=some u->W'.cell? ⟨b,off,none⟩=some u
theorem jU.trans {L:Nat->Prop} {A B C:World} (h:jU L A B) (k:jU L B C):jU L A C:=⟨Nat.le_trans h.1 k.1,fun b hb off u hu=>k.2 b hb off u (h.2 b hb off u hu)⟩
theorem tZ {W:World} {b off:Nat} {u:Value} (h:W.cell? ⟨b,off,none⟩=some u):b<W.heap.size:=by
 rcases Nat.lt_or_ge b W.heap.size with hl | hl
 ·exact hl
 ·simp[World.cell?,Array.getElem?_eq_none hl] at h
theorem jU.agree {L:Nat->Prop} {W W':World} (h:Agree L W W'):jU L W W':=⟨h.1,fun b hb off u hu=>(World.cell?_of_block (h.2 b (tZ hu) hb)).trans hu⟩
def Loc (s:SA Dm):Prop:=∀ W W' v,(∀ b off u,W.cell? ⟨b,off,none⟩=some u->W'.cell? ⟨b,off,none⟩=some u)->s.at W v->s.at W' v
theorem aJh {W W':World} {v:Value} {ds:List Nat} (hc:∀ b off u,W.cell? ⟨b,off,none⟩=some u->W'.cell? ⟨b,off,none⟩=some u) (h:aL W v ds):aL W' v ds:=by
 obtain⟨ao,cap,h1,h2,h3,h4⟩:=h;refine⟨ao,cap,h1,h2,h3,fun hl=>?_⟩;obtain⟨b,off,h5,h6⟩:=h4 hl;exact⟨b,off,h5,fun i hi=>hc _ _ _ (h6 i hi)⟩
theorem aEu {p q:Int} {k:Nat}:Loc (.d (Dm.rt p q k)):=by
 rintro W W' v hc ⟨s,t,h1,h2,h3,h4,h5⟩;exact⟨s,t,h1,aJh hc h2,aJh hc h3,h4,h5⟩
def iX (L:Nat->Prop) (W:World) (s:SA Dm) (v:Value):Prop:=∀ W',jU L W W'->s.at W' v
theorem iX.keep {L:Nat->Prop} {W W':World} {s:SA Dm} {v:Value} (h:iX L W s v) (hc:jU L W W'):iX L W' s v:=fun _ hk=>h _ (hc.trans hk)
theorem iX.at {L:Nat->Prop} {W:World} {s:SA Dm} {v:Value} (h:iX L W s v):s.at W v:=h W ⟨Nat.le_refl _,fun _ _ _ _ h=>h⟩
open Classical in
theorem aKu {L:Nat->Prop} {W:World} {s:SA Dm} {v:Value} (hl:Loc s) (h:∀ W',Agree L W W'->s.at W' v):iX L W s v:=by
 rintro W' ⟨h1,h2⟩;obtain⟨W2,hW2⟩:∃ W2:World,W2={ W' with heap:=W'.heap.mapIdx fun b o=>if b<W.heap.size/\¬ L b then W.heap[b]?.getD o else o }:=⟨_,rfl⟩
 have hs:W2.heap.size=W'.heap.size:=by rw[hW2]; simp
 have hb:∀ b,b<W'.heap.size->W2.heap[b]?=if b<W.heap.size/\¬ L b then W.heap[b]? else W'.heap[b]?:=by
  intro b hb;rw[hW2];simp only[Array.getElem?_mapIdx,Array.getElem?_eq_getElem hb,Option.map_some];split
  ·rename_i hc;rw[Array.getElem?_eq_getElem hc.1];rfl
  ·rfl
 have hag:Agree L W W2:=by
  refine⟨by rw[hs]; exact h1,fun b hbl hnl=>?_⟩;rw[hb b (by omega),if_pos ⟨hbl,hnl⟩]
 refine hl W2 W' v (fun b off u hu=>?_) (h W2 hag);have hbl:b<W'.heap.size:=by have:=tZ hu; omega
 by_cases hc:b<W.heap.size/\¬ L b
 ·have e:W2.cell? ⟨b,off,none⟩=W.cell? ⟨b,off,none⟩:=World.cell?_of_block (by rw[hb b hbl,if_pos hc]);exact h2 b hc.2 off u (e ▸ hu)
 ·have e:W2.cell? ⟨b,off,none⟩=W'.cell? ⟨b,off,none⟩:=World.cell?_of_block (by rw[hb b hbl,if_neg hc]);exact e ▸ hu
theorem aKv {L:Nat->Prop} {ρ:aR} {W:World} {x:Dm} {v:Value} (hl:Loc (.d x)) (h:(SA.d x).is L ρ W v):iX L W (.d x) v:=aKu hl h
theorem aG2 {L:Nat->Prop} {W W':World} {row:Option Nat} (hg:W.grownBy W' row) (hr:∀ r,row=some r->∃ o:Obj,W.heap[r]?=some o/\o.isCells=false):jU L W W':=by
 refine⟨hg.size,fun b _ off u hu=>?_⟩;have hb:=tZ hu;by_cases e:some b=row
 ·obtain⟨o,ho,hc⟩:=hr b e.symm;cases o<;>simp[World.cell?,ho,Obj.isCells] at hu hc
 ·exact(World.cell?_of_block (hg.block b hb e)).trans hu
theorem aG3 {L:Nat->Prop} {W W':World} (h:Below W.heap.size W W'):jU L W W':=.agree (Agree.below h)
theorem aJo {L:Nat->Prop} {W:World} {b o:Nat} {vs:List Value} (hb:L b):jU L W (W.setCells b o vs):=by
 refine⟨Nat.le_of_eq (lC ..).symm,fun c hc off u hu=>?_⟩;exact(World.cell?_of_block (lW _ _ _ _ c (fun e=>hc (e ▸ hb)))).trans hu
def FK:Key:=.b 2000000
def nF (W:World) (L:Nat->Prop) (hlt:∀ b,L b->b<W.heap.size) (hni:gA L W):jB Dm:={ w0:=W,L0:=L,lt:=hlt,fr:=false,Bw:=fun _=>False,bl:=fun _ h=>h.elim,bw:=fun _ _ h=>h,ni:=fun _=>hni,wf:=fun _ _ _=>trivial }
def aM1 (W:World) (L:Nat->Prop) (B:Nat) (k:Option Nat) (s:SA Dm) (w:World):Prop:=∃ w1 v,∃ cs:List Value,Below W.heap.size W w1/\iX L w1 s v/\Shaped k v cs/\w=w1.setCells B 0 cs
section
variable {W:World} {L:Nat->Prop} {hlt:∀ b,L b->b<W.heap.size} {hni:gA L W} {B n:Nat} {k:Option Nat} {s:SA Dm} {P:Program} {ops:Array Oper} {σ:St Dm} {o:Oper}
def CS (W:World) (L:Nat->Prop) (hlt:∀ b,L b->b<W.heap.size) (hni:gA L W) (n B:Nat) (k:Option Nat) (s:SA Dm) (σ:St Dm) (a:Act) (w:World):Prop :=
 (σ FK=.no/\CC (nF W L hlt hni).cx n σ a w)\/(σ FK=.dead/\aM1 W L B k s w)
theorem CS.drew {l:Sg Dm} {a:Act} {w:World} (h0:aF .no l FK=.no) (h:CS W L hlt hni n B k s (aF .no l) a w):CS W L hlt hni n B k s (aF .no l) a w.drew:=by
 rcases h with ⟨h1,h2⟩ | ⟨h1,_⟩
 ·exact .inl ⟨h1,h2.drew⟩
 ·rw[h0] at h1; cases h1
theorem vP {rd:List Key} {wr:List (Key × XV Dm)} (h:aM P (nF W L hlt hni).cx n σ o rd wr) (hg:o.guard=none) (hσ:σ FK=.no) (hk:uM (keys wr) [FK]=false):gI (CS W L hlt hni n B k s) P ops σ o ⟨FK::rd,wr⟩:=by
 intro σ' a w Q hC h1 h2;have hF:σ' FK=.no:=(h1 FK List.mem_cons_self).trans hσ;rcases hC with ⟨_,hC⟩ | ⟨e,_⟩
 ·refine .inl ⟨by simp[Region.wanted,hg],fun K hK=>h σ' a w Q hC (fun q hq=>h1 q (List.mem_cons_of_mem _ hq)) h2 K fun a' w' hc=>hK a' w' (.inl ⟨?_,hc⟩)⟩;rw[lG (fun hm=>qX hk hm List.mem_cons_self)];exact hF
 ·rw[hF] at e; cases e
end
section
variable {cx:Cx Dm} {n:Nat} {P:Program} {σ:St Dm} {o:Oper}
theorem aCa {ρ:aR} {l:Sg Dm} {a:Act} (hsz:a.tmps.size=n) (hdf:a.defers=[]) (hb:∀ i,aF .no l (.b i)=.no) (hs:∀ t,aF .no l (.s t)=.no\/∃ av,aF .no l (.s t)=.av av/\av.ptrs=[]/\av.is cx.L0 ρ cx.w0 (a.tmps.getD t undef)):Conc cx n ρ (aF .no l) a cx.w0:=by
 have hlive:∀ i,¬ live (aF .no l) ρ i:=fun i h=>wE h (hb i);have hL:aS cx (aF .no l) ρ=cx.L0:=by
  funext b
  unfold aS;refine propext ⟨fun h=>?_,.inl⟩;rcases h with h | ⟨i,h,_⟩
  ·exact h
  ·exact absurd h (hlive i)
 refine⟨hsz,hdf,Kept.refl _ _ _,fun i h=>absurd h (hlive i),fun i T ch h=>?_,fun i T k l h=>?_,fun i j h=>absurd h (hlive i),fun t av h=>?_,fun q b h=>?_,fun i T ch h=>?_⟩
 ·rw[hb] at h; cases h
 ·rw[hb] at h; cases h
 ·rcases hs t with e | ⟨av',e,_,h2⟩
  ·rw[e] at h; cases h
  ·rw[e] at h;obtain rfl:=(XV.av.injEq _ _).mp h;rw[hL];exact h2
 ·cases q with
  | s t =>
   rcases hs t with e | ⟨av',e,h1,_⟩
   ·rw[e] at h; cases h
   ·rw[e,show XV.ptrs (XV.av av')=av'.ptrs from rfl,h1] at h;cases h
  | b i=>rw[hb] at h; cases h
 ·rw[hb] at h; cases h
end
section
variable {W:World} {L:Nat->Prop} {hlt:∀ b,L b->b<W.heap.size} {hni:gA L W} {B n:Nat} {k:Option Nat} {s:SA Dm} {P:Program} {ops:Array Oper} {σ:St Dm} {o:Oper}
theorem vS {ρ:aR} {a:Act} {w:World} (h:Conc (nF W L hlt hni).cx n ρ σ a w):Below W.heap.size W w :=
 ⟨h.kept.os,h.kept.tape,h.kept.output,h.kept.size,fun b hb=>h.kept.block b hb (fun q=>q)⟩
theorem aQ0 {ρ:aR} {a:Act} {w w':World} (h:Conc (nF W L hlt hni).cx n ρ σ a w) (hag:Agree (aS (nF W L hlt hni).cx σ ρ) w w'):jU L W w':=by
 have hb:=vS h;refine⟨Nat.le_trans hb.size hag.1,fun b hnl off u hu=>?_⟩;have hbl:=tZ hu;have e1:w.heap[b]?=W.heap[b]?:=hb.block b hbl;have e2:w'.heap[b]?=w.heap[b]?:=hag.2 b (Nat.lt_of_lt_of_le hbl hb.size) (by
  rintro(q | ⟨i,q1,q2⟩)
  ·exact hnl q
  ·rcases h.mine i q1 with m | m
   ·have:W.heap.size<=(ρ i).1:=m;omega
   ·exact m)
 exact(World.cell?_of_block (e2.trans e1)).trans hu
theorem aQt {L':Nat->Prop} {w:World} {v:Value} (hL:∀ b,L b->L' b) (h:iX L' w s v):iX L w s v:=fun W' hk=>h W' ⟨hk.1,fun b hb=>hk.2 b fun q=>hb (hL b q)⟩
theorem aTr {ty:TypeId} {t d:Nat} {v0:Value} {cs0:List Value} {T:TypeId} (hB:W.heap[B]?=some (.cells cs0.toArray T (0,0))) (hsh:Shaped k v0 cs0) (hst:iX L W s v0) (hs0:s.ptrs=[]) (hty:dI P ty k) (ho:o.op=.load ty (.tmp t)) (hd:o.dst=some d) (hn:d<n) (ht:σ (.s t)=.av (.one (.v (.pointer (some ⟨B,0,none⟩))))) :
  aM P (nF W L hlt hni).cx n σ o [.s t] [(.s d,.av (.one s))]:=by
 intro σ' a w Q ⟨ρ,h⟩ h1 _ K hK;have ht':=(h1 (.s t) (by simp)).trans ht;have e1:a.eval (.tmp t)=.pointer (some ⟨B,0,none⟩):=h.slt t _ ht';have hBl:B<W.heap.size:=by
  rcases Nat.lt_or_ge B W.heap.size with hl | hl
  ·exact hl
  ·rw[Array.getElem?_eq_none hl] at hB; cases hB
 have hBw:w.heap[B]?=some (.cells cs0.toArray T (0,0)):=((vS h).block B hBl).trans hB;have hr:(execOp a.eval o).run P w=.ok (.value v0) w:=by
  have hl:=uW (P:=P) (w:=w) (b:=B) (off:=0) (cs:=cs0) (ty:=ty) (k:=k) (v:=v0) (fun j c hj=>by rw[Nat.zero_add]; simpa[World.cell?,hBw] using hj) hsh hty;simp only[execOp,ho,e1,Sem.run_bind,Instr.loadAt,Instr.sureAddr,Sem.run_pure,Result.andThen_ok,hl]
 unfold Oper.wp;rw[hr,Oper.upon_value,hd];exact hK _ _ ⟨ρ,h.put (Below.refl _ _) hn (xA fun w'' hag=>hst w'' (aQ0 h hag)) (by show ∀ b∈s.ptrs,_; rw[hs0]; intro b hb; cases hb)⟩
theorem aOm {ty T:TypeId} {t u:Nat} {x:Dm} {cs0:List Value} (hB:W.heap[B]?=some (.cells cs0.toArray T (0,0))) (hlen:cs0.length=k.getD 1) (hl:Loc (.d x)) (hk:(SA.d x:SA Dm).kind=some k) (hsz:(P.info? ty).map (·.size)=some (k.getD 1)) (hg:o.guard=none) (ho:o.op=.store ty (.tmp t) (.tmp u)) (hd:o.dst=none)
  (hF:σ FK=.no) (ht:σ (.s t)=.av (.one (.v (.pointer (some ⟨B,0,none⟩))))) (hu:σ (.s u)=.av (.one (.d x))):gI (CS W L hlt hni n B k (.d x)) P ops σ o ⟨[FK,.s t,.s u],[(FK,.dead)]⟩:=by
 intro σ' a w Q hC h1 h2;have hF':σ' FK=.no:=(h1 FK (by simp)).trans hF;rcases hC with ⟨_,ρ,h⟩ | ⟨e,_⟩
 ·refine .inl ⟨by simp[Region.wanted,hg],fun K hK=>?_⟩;have e1:a.eval (.tmp t)=.pointer (some ⟨B,0,none⟩):=h.slt t _ ((h1 (.s t) (by simp)).trans ht);have hv:(SA.d x:SA Dm).is (aS (nF W L hlt hni).cx σ' ρ) ρ w (a.eval (.tmp u)):=h.slt u _ ((h1 (.s u) (by simp)).trans hu);obtain⟨p',hp'⟩:=lY hk hv;have hBl:B<W.heap.size:=by
   rcases Nat.lt_or_ge B W.heap.size with hl | hl
   ·exact hl
   ·rw[Array.getElem?_eq_none hl] at hB; cases hB
  have hBw:w.heap[B]?=some (.cells cs0.toArray T (0,0)):=((vS h).block B hBl).trans hB;have hr:(execOp a.eval o).run P w=.ok .skip (w.setCells B 0 p'):=by
   have hst:=run_storeCells_cells (P:=P) B 0 p' 0 w (fun j hj=>by
     have:j<cs0.length:=by rw[hlen,<- hp'.length]; exact hj
     simp[World.cell?,hBw,this]) (fun j hj=>by simp[World.frozen?,hBw]) hp'.one
   rw[Nat.add_zero] at hst;cases hq:P.info? ty with
   | none=>simp[hq] at hsz
   | some inf =>
    have e2:inf.size=k.getD 1:=by simpa[hq] using hsz
    have e3:(a.eval (.tmp u)).cells.size=inf.size:=by rw[hp'.cells,e2,<- hp'.length]; simp
    simp[execOp,ho,e1,Instr.storeAt,Instr.sureAddr,storeVar,sizeOf,typeInfo,hq,hp'.cells,hst];rw[show p'.length=inf.size by rw[e2,hp'.length]]
  unfold Oper.wp;rw[hr,Oper.upon_skip,hd];refine hK _ _ (.inr ⟨kI,w,a.eval (.tmp u),p',vS h,?_,hp',rfl⟩);exact aQt (fun b hb=>.inl hb) (aKv hl hv)
 ·rw[hF'] at e; cases e
end
section
variable {P:Program}
theorem aWw {o:Oper} {a:Act} {w:World} {K:Act->World->Prop} {Q:Exit->Act->World->Prop} (h:o.wp P a w K Q):o.wp P a w (fun a' w'=>K a' w'/\∀ t,o.dst≠some t->a'.tmps.getD t undef=a.tmps.getD t undef) Q:=by
 have hp:∀ (a0:Act) v t,a0.tmps=a.tmps->o.dst≠some t->(a0.put o.dst v).tmps.getD t undef=a.tmps.getD t undef:=by
  intro a0 v t h0 ht;rw[<- h0];exact Pu.qV (Pu.sU a0 o.dst v t ht)
 unfold Oper.wp at h |-;generalize (execOp a.eval o).run P w=r at h |-;cases r with
 | ok x w' =>
  cases x with
  | value v=>exact⟨h,fun t ht=>hp a v t rfl ht⟩
  | skip=>exact⟨h,fun t ht=>hp a _ t rfl ht⟩
  | defer d=>exact⟨h,fun t ht=>hp _ _ t rfl ht⟩
  | enter f args =>
   refine Calls.mono h ?_;rintro e w2 he;cases e with
   | returned v=>exact⟨he,fun t ht=>hp a v t rfl ht⟩
   | panicked c=>exact he
   | outgrown=>exact he
  | row s args =>
   exact Rows.mono h fun v w2 hv=>⟨hv,fun t ht=>hp a v t rfl ht⟩
  | _=>exact h.elim
 | halt h0 w'=>cases h0<;>exact h
theorem aU6 {o:Oper} {a:Act} {w:World} {K K':Act->World->Prop} {Q:Exit->Act->World->Prop} (h:o.wp P a w K Q) (hk:∀ a' w',K a' w'->K' a' w'):o.wp P a w K' Q:=by
 unfold Oper.wp at h |-;generalize (execOp a.eval o).run P w=r at h |-;cases r with
 | ok x w' =>
  cases x with
  | value v=>exact hk _ _ h
  | skip=>exact hk _ _ h
  | defer d=>exact hk _ _ h
  | enter f args =>
   refine Calls.mono h ?_;rintro e w2 he;cases e with
   | returned v=>exact hk _ _ he
   | panicked c=>exact he
   | outgrown=>exact he
  | row s args=>exact Rows.mono h fun v w2 hv=>hk _ _ hv
  | _=>exact h.elim
 | halt h0 w'=>cases h0<;>exact h
end
def aAu (T:List Nat) (o:Oper):Bool:=match o.dst with
 | some d=>dJ d T
 | none=>true
section
variable {P:Program} {cx:Cx Dm} {n:Nat} {l:Sg Dm}
def CT (cx:Cx Dm) (n:Nat) (T:List Nat) (ys:Nat->Value) (σ:St Dm) (a:Act) (w:World):Prop:=CC cx n σ a w/\∀ t,dJ t T=false->a.tmps.getD t undef=ys t
theorem gI.ct {ops:Array Oper} {T:List Nat} {ys:Nat->Value} {σ:St Dm} {o:Oper} {st:Stp (XV Dm)} (hT:aAu T o=true) (h:gI (CC cx n) P ops σ o st):gI (CT cx n T ys) P ops σ o st:=by
 have hd:∀ t,dJ t T=false->o.dst≠some t:=by
  intro t ht e;unfold aAu at hT;rw[e] at hT;rw[show dJ t T=true from hT] at ht;cases ht
 intro σ' a w Q hC h1 h2;rcases h σ' a w Q hC.1 h1 h2 with ⟨q1,q2⟩ | ⟨q1,q2⟩
 ·refine .inl ⟨q1,fun K hK=>?_⟩;exact aU6 (aWw (q2 (fun a' w'=>CC cx n (upd σ' st.wr) a' w') fun _ _ hc=>hc)) fun a' w' hq=>hK a' w' ⟨hq.1,fun t ht=>(hq.2 t (hd t ht)).trans (hC.2 t ht)⟩
 ·exact .inr ⟨q1,q2,fun t ht=>(Pu.qV (Pu.sU a o.dst undef t (hd t ht))).trans (hC.2 t ht)⟩
theorem RV.ct {ops:Array Oper} {T:List Nat} {ys:Nat->Value} {draw:Bool} {K:Sg Dm->Prop}:∀ {rest:List Oper} {done:List (Stp (XV Dm))} {l:Sg Dm},rest.all (aAu T)=true->RV .no (CC cx n) P ops draw rest done l K->RV .no (CT cx n T ys) P ops draw rest done l K
 | [],_,_,_,h=>h
 | o::rest,done,l,hT,⟨st,h1,h2⟩=>by
  rw[List.all_cons,Bool.and_eq_true] at hT;exact⟨st,h1.ct hT.1,RV.ct hT.2 h2⟩
def aFc:XV Dm->XV Dm
 | .av (.one (.v v))=>.av (.one (.v v))
 | .av (.one (.d x))=>.av (.one (.d x))
 | _=>.no
def aAp:XV Dm->XV Dm
 | .av (.one (.v v))=>.av (.one (.v v))
 | _=>.no
def aAq:Key->XV Dm->XV Dm
 | .s _,x=>aFc x
 | .b _,_=>.no
def xE (l:Sg Dm):Sg Dm:=l.map fun p=>(p.1,aAq p.1 p.2)
def wY (T:List Nat) (m:Sg Dm):Sg Dm:=T.map fun t=>(.s t,aAp (aF .no m (.s t)))
theorem aIb (l:Sg Dm) (k:Key):aF .no (xE l) k=aAq k (aF .no l k):=by
 induction l with
 | nil=>cases k<;>rfl
 | cons p r ih =>
  show (bif Key.beq p.1 k then aAq p.1 p.2 else aF .no (xE r) k)=aAq k (bif Key.beq p.1 k then p.2 else aF .no r k);cases e:Key.beq p.1 k with
  | true=>rw[pN.1 e]; rfl
  | false=>exact ih
theorem aG5 (T:List Nat) (m l:Sg Dm) (k:Key):aF .no (wY T m++l) k=match k with
 | .s t=>bif dJ t T then aAp (aF .no m (.s t)) else aF .no l (.s t)
 | .b i=>aF .no l (.b i):=by
 induction T with
 | nil=>cases k<;>rfl
 | cons t r ih =>
  show (bif Key.beq (.s t) k then aAp (aF .no m (.s t)) else aF .no (wY r m++l) k)=_;rw[ih];cases k with
  | b i=>rfl
  | s u =>
   show (bif Nat.beq t u then _ else _)=(bif Nat.beq t u||dJ u r then _ else _);cases e:Nat.beq t u with
   | true=>rw[Nat.eq_of_beq_eq_true e]; rfl
   | false=>rfl
theorem aSm {id:Nat} {ops:List Oper} {draw:Bool} {K:Exit->Sg Dm->Prop} (T:List Nat) (hT:ops.all (aAu T)=true) (hfr:cx.fr=false) (hm:P.follows .mixedOrders=true) (hb:draw=true->Pu.iV .any ops.toArray=true)
  (h:∀ cx':Cx Dm,cx'.fr=false->RV .no (CC cx' n) P ops.toArray draw ops [] (xE l) (fun m=>K .normal (wY T m++l))):CV P cx n (.region id ops.toArray draw) l K:=by
 refine⟨fun a w hC=>?_⟩;obtain⟨ρ,hC⟩:=hC;obtain⟨Lm,hLm⟩:∃ Lm:Nat->Prop,Lm=fun b=>aS cx (aF .no l) ρ b/\¬ ∃ i,i∈bR (aF .no l KP)/\live (aF .no l) ρ i/\(ρ i).1=b:=⟨_,rfl⟩
 have hlt:∀ b,Lm b->b<w.heap.size:=fun b hb=>hC.lofLt b (by rw[hLm] at hb; exact hb.1);have hni:gA Lm w:=by
  intro b hb cs T' fr hc c hcm;rw[hLm] at hb;obtain⟨hb1,hb2⟩:=hb;rcases hb1 with hb1 | ⟨i,hi,rfl⟩
  ·rw[hC.kept.block b (cx.lt b hb1) (cx.bw hfr b)] at hc;exact cx.ni hfr b hb1 cs T' fr hc c hcm
  ·rcases fU hi with ⟨T,ch,e⟩ | ⟨T,k,l,e,hcap⟩
   ·obtain⟨cs',hc',hch⟩:=hC.blk i T ch e;rw[hc] at hc';obtain⟨rfl,-,-⟩:=(Obj.cells.injEq _ _ _ _ _ _).mp (Option.some.inj hc');exact hch.plain (hC.pln i T ch e fun hn=>hb2 ⟨i,hn,hi,rfl⟩) c (by simpa using hcm)
   ·obtain⟨cs',sp,⟨_,hc',_⟩,h2,h3,h5⟩:=(hC.row i T k l e).2 hcap;rw[hc] at hc';obtain⟨rfl,-,-⟩:=(Obj.cells.injEq _ _ _ _ _ _).mp (Option.some.inj hc');exact h5 (fun hn=>hb2 ⟨i,hn,hi,rfl⟩) c (by simpa using hcm)
 obtain⟨cx',hcx⟩:∃ cx':Cx Dm,cx'=nF w Lm hlt hni:=⟨_,rfl⟩
 have x1:cx'.w0=w:=by rw[hcx]; rfl
 have x2:cx'.L0=Lm:=by rw[hcx]; rfl
 have x3:cx'.fr=false:=by rw[hcx]; rfl
 have x4:∀ b,¬ cx'.Bw b:=by rw[hcx]; exact fun b q=>q
 have gL:Goes (aS cx (aF .no l) ρ) w Lm w:=mP fun b hb=>by rw[hLm] at hb; exact hb.1
 have hst:CT cx' n T (fun t=>a.tmps.getD t undef) (aF .no (xE l)) a w:=by
  refine⟨⟨ρ,?_⟩,fun _ _=>rfl⟩;have hs:=aCa (cx:=cx') (n:=n) (ρ:=ρ) (l:=xE l) (a:=a) hC.size hC.defers (fun i=>by rw[aIb]; rfl) (fun t=>?_)
  ·rw[x1] at hs; exact hs
  ·rw[aIb,x1,x2];show aFc (aF .no l (.s t))=_\/∃ av,aFc (aF .no l (.s t))=_/\_;cases e:aF .no l (.s t) with
   | av x =>
    cases x with
    | one s =>
     have h1:=hC.slt t _ e;cases s with
     | v v=>exact .inr ⟨_,rfl,rfl,h1⟩
     | d x=>exact .inr ⟨_,rfl,rfl,fun w' hw=>h1 w' (gL w' hw)⟩
     | ptr b o=>exact .inl rfl
     | sl b m=>exact .inl rfl
     | ar b m=>exact .inl rfl
     | lk x=>exact .inl rfl
    | tup l=>exact .inl rfl
   | no=>exact .inl rfl
   | blk T ch=>exact .inl rfl
   | row T k l=>exact .inl rfl
   | dead=>exact .inl rfl
   | np l=>exact .inl rfl
 have hrv:=RV.ct (T:=T) (ys:=fun t=>a.tmps.getD t undef) hT (h cx' x3);refine RV.wp (x0:=.no) (C:=CT cx' n T (fun t=>a.tmps.getD t undef)) (fun a w h=>⟨h.1.drew,h.2⟩) hm hb (by simpa using hrv) hst ?_;rintro m a' w' hK ⟨⟨ρ',hm'⟩,ht'⟩;refine⟨wY T m++l,⟨ρ,?_⟩,hK⟩;have hB:Below w.heap.size w w':=by
  have:=hm'.kept.below x4;rw[x1] at this;exact this
 obtain⟨σ',hσ⟩:∃ σ',σ'=aF .no (wY T m++l):=⟨_,rfl⟩
 have kb:∀ i,σ' (.b i)=aF .no l (.b i):=fun i=>by rw[hσ,aG5]
 have ks:∀ t,σ' (.s t)=bif dJ t T then aAp (aF .no m (.s t)) else aF .no l (.s t):=fun t=>by rw[hσ,aG5]
 have hlive:∀ i,live σ' ρ i ↔ live (aF .no l) ρ i:=fun i=>fI (kb i) rfl;have hL:aS cx σ' ρ=aS cx (aF .no l) ρ:=by unfold aS; simp only[hlive]
 have hKP:σ' KP=aF .no l KP:=kb _;rw[<- hσ];refine hC.step (fun _=>False) (fun k=>∃ t,dJ t T=true/\k=.s t) hm'.size hm'.defers hB.os hB.tape hB.output hB.size (fun b hb _=>hB.block b hb) (fun _ q=>q.elim) ?_ (fun _ _=>rfl) (fun _ _ q=>q.elim) (fun b _ q=>by rw[hL] at q; exact q)
  (fun i ⟨_,_,q⟩=>nomatch q) (fun i _ _ ⟨_,_,q⟩=>nomatch q) (fun i _ _ _ ⟨_,_,q⟩=>nomatch q) (fun i _ q=>by rw[hKP] at q; exact q) (fun i j hi hj=>hC.inj i j ((hlive i).1 hi) ((hlive j).1 hj)) ?_ ?_ ?_ (fun i q=>by rw[kb]; exact q)
 ·intro k hk;cases k with
  | b i=>exact kb i
  | s t =>
   rw[ks];cases e:dJ t T with
   | true=>exact absurd ⟨t,e,rfl⟩ hk
   | false=>rfl
 ·rintro t av ⟨u,hu,q⟩ hav;injection q with q;subst q;rw[ks,hu,cond_true] at hav;cases e:aF .no m (.s t) with
  | av x =>
   rw[e] at hav;cases x with
   | one s =>
    cases s with
    | v v =>
     obtain rfl:=(XV.av.injEq _ _).mp hav;exact hm'.slt t _ e
    | d x=>cases hav
    | ptr b o=>cases hav
    | sl b m=>cases hav
    | ar b m=>cases hav
    | lk x=>cases hav
   | tup l=>cases hav
  | no=>rw[e] at hav; cases hav
  | blk T ch=>rw[e] at hav; cases hav
  | row T k l=>rw[e] at hav; cases hav
  | dead=>rw[e] at hav; cases hav
  | np l=>rw[e] at hav; cases hav
 ·intro t ht;refine ht' t ?_;cases e:dJ t T with
  | true=>exact absurd ⟨t,e,rfl⟩ ht
  | false=>rfl
 ·rintro k b ⟨u,hu,rfl⟩ hb';exfalso;rw[ks,hu,cond_true] at hb';cases e:aF .no m (.s u) with
  | av x =>
   rw[e] at hb';cases x with
   | one s=>cases s<;>cases hb'
   | tup l=>cases hb'
  | no=>rw[e] at hb'; cases hb'
  | blk T ch=>rw[e] at hb'; cases hb'
  | row T k l=>rw[e] at hb'; cases hb'
  | dead=>rw[e] at hb'; cases hb'
  | np l=>rw[e] at hb'; cases hb'
end
end Vc
end Go.Proofs.YtjmbkipbmbnhjaaGreat

namespace Go.Proofs.YtjmbkipbmbnhjaaGreat
open Go.RowKit
open Go.Lib (hid)
open Dg Zn
namespace Vc
section
variable {D:Type} [bM D] {P:Program} {cx:Cx D} {n:Nat} {σ:St D} {o:Oper}
theorem jD {t i off:Nat} {ty T:TypeId} {y:Operand} {ch ch':List (Ch D)} {k:Option Nat} {s s0:SA D} (hsz:(P.info? ty).map (·.size)=some (k.getD 1)) (ho:o.op=.store ty (.tmp t) y:=by exact rfl) (hd:o.dst=none:=by exact rfl) (ht:σ (.s t)=.av (.one (.ptr i off)):=by exact rfl) (hb:σ (.b i)=.blk T ch:=by exact rfl) (hc:lL ch off=some (k,s0):=by exact rfl) (hy:opd σ y=.av (.one s):=by exact rfl) (hk:s.kind=some k:=by exact rfl) (hch:oA ch off (k,s)=ch':=by exact rfl) (hkp:oG (σ KP)=true:=by exact rfl) (hpt:jY ch'=[]:=by exact rfl) (hiK:Nat.beq i 1000000=false:=by exact rfl) :
  aM P cx n σ o (.s t::.b i::bG y) [(.b i,.blk T ch'),(KP,.np (i::bR (σ KP)))]:=by
 subst hch;intro σ' a w Q ⟨ρ,h⟩ h1 h2 K hK;have ht':=(h1 (.s t) (by simp)).trans ht;have hb':=(h1 (.b i) (by simp)).trans hb;have hKP:=h2 KP (by simp[keys]);have hy':=(cO (σ':=σ') (x:=y) fun q hq=>h1 q (by simp[hq])).trans hy;have hiK1:i≠1000000:=fun e=>by subst e; cases hiK
 obtain⟨cs,hcs,hcc⟩:=h.blk i T ch hb';obtain⟨pre,p,post,v,rfl,rfl,k3,k4,k5,k6⟩:=hcc.at hc;have hs:=h.opd hy';obtain⟨p',hp'⟩:=lY hk hs;have hlen:p'.length=p.length:=by rw[hp'.length,k3.length]
 have hev:a.eval (.tmp t)=.pointer (some ⟨(ρ i).1,pre.length,none⟩):=h.slt t _ ht';have hr:(execOp a.eval o).run P w=.ok .skip (w.setCells (ρ i).1 pre.length p'):=by
  have hst:=run_storeCells_cells (P:=P) (ρ i).1 pre.length p' 0 w (fun j hj=>by
    rw[Nat.add_zero,sE hcs j p[j] (List.getElem?_eq_getElem (by omega))]; rfl) (fun j hj=>by
    simp[World.frozen?,hcs]) hp'.one
  rw[Nat.add_zero] at hst;cases hq:P.info? ty with
  | none=>simp[hq] at hsz
  | some inf =>
   have e1:inf.size=k.getD 1:=by simpa[hq] using hsz
   have e2:(a.eval y).cells.size=inf.size:=by rw[hp'.cells,e1,<- hp'.length]; simp
   simp[execOp,ho,hev,Instr.storeAt,Instr.sureAddr,storeVar,sizeOf,typeInfo,hq,hp'.cells,hst];rw[show p'.length=inf.size by rw[e1,hp'.length]]
 unfold Oper.wp;rw[hr,Oper.upon_skip,hd];have hk':=h.kp (q:=.np (i::bR (σ KP))) (by rw[hKP]; exact hkp) rfl (fun _=>by simp) (fun j T k l _ hi q=>hi (by rw[hKP] at q; exact List.mem_cons_of_mem _ q)) (fun j T ch _ hi=>.inl fun q=>hi (by rw[hKP] at q; exact List.mem_cons_of_mem _ q));have hKi:Key.b i≠KP:=by simpa[KP] using hiK1
 obtain⟨σ1,hσ1⟩:∃ σ1,σ1=upd σ' [(KP,.np (i::bR (σ KP)))]:=⟨_,rfl⟩
 rw[<- hσ1] at hk';have hk1:σ1 (.b i)=.blk T ch:=by rw[hσ1,mC hKi]; exact hb'
 have hkK:σ1 KP=.np (i::bR (σ KP)):=by rw[hσ1]; exact kI
 have hL:aS cx σ1 ρ=aS cx σ' ρ:=by
  have hlive:∀ j,live σ1 ρ j ↔ live σ' ρ j:=by
   intro j;by_cases e:Key.b j=KP
   ·obtain⟨_,sb,sr⟩:=wP hkp;have ej:j=1000000:=by simpa[KP] using e
    subst ej;constructor
    ·intro hl;rcases fU hl with ⟨T,ch,q⟩ | ⟨T,k,l,q,_⟩
     ·exact absurd (hkK.symm.trans q) (by simp)
     ·exact absurd (hkK.symm.trans q) (by simp)
    ·intro hl;rcases fU hl with ⟨T,ch,q⟩ | ⟨T,k,l,q,_⟩
     ·exact absurd (hKP.symm.trans q) (sb T ch)
     ·exact absurd (hKP.symm.trans q) (sr T k l)
   ·exact fI (by rw[hσ1,mC e]) rfl
  unfold aS; simp only[hlive]
 have hnew:=hk'.stoN (x:=.blk T (oA ch pre.length (k,s))) (jF hk1) (by simp) (jF kI) hiK1 (os_setCells ..) (nH ..) (nI ..) (lC ..) (fun j hj=>lW _ _ _ _ j hj)
  (fun T1 c1 e=>by
   injection e with e1 e2;subst e1; subst e2;refine⟨fun q=>absurd (by rw[hkK]; exact List.mem_cons_self) q,_,oI _ T p' p pre post w hlen hcs,?_⟩;rw[hL];exact k6 (k,s) _ p' rfl hp' hs) (fun T k l e=>by cases e) (by intro b hb; rw[show XV.ptrs (XV.blk T _:XV D)=_ from hpt] at hb; cases hb)
 have e3:upd σ1 [(.b i,.blk T (oA ch pre.length (k,s)))]=upd σ' [(.b i,.blk T (oA ch pre.length (k,s))),(KP,.np (i::bR (σ KP)))]:=by
  rw[hσ1]; rfl
 rw[e3] at hnew;exact hK _ _ ⟨ρ,hnew⟩
end
section
variable {P:Program} {cx:Cx Dm} {n:Nat} {σ:St Dm} {o:Oper} {d t:Nat}
def zR (P:Program) (ty:TypeId) (f:Nat):Option (Nat × TypeId):=match P.underlying ty with
 | some (.struct fs)=>(fs[f]?).map fun fd=>(fd.offset,fd.type)
 | _=>none
theorem aQv {ty ft:TypeId} {f off:Nat} {cs:List Value} {u:Value} (hF:zR P ty f=some (off,ft)) (ht:(P.underlying ft).map (·.isRow)=some false) (hu:cs[off]?=some u) (w:World):(Instr.field ty (.agg cs.toArray) f).run P w=.ok u w:=by
 unfold zR at hF;cases hq:P.underlying ty with
 | none=>rw[hq] at hF; cases hF
 | some td =>
  rw[hq] at hF;cases td with
  | struct fs =>
   obtain⟨fd,h1,h2⟩:=Option.map_eq_some_iff.1 hF;injection h2 with h2 h3;subst h2; subst h3;have hagg:(isAgg fd.type).run P w=.ok false w:=by
    unfold isAgg;cases hq2:P.underlying fd.type with
    | none=>rw[hq2] at ht; cases ht
    | some d =>
     rw[Sem.run_bind,run_underlying hq2 w];rw[hq2] at ht;cases d<;>simp_all [TypeDesc.isRow]
   simp[Instr.field,Sem.run_bind,run_underlying hq w,h1,asAgg,part,hagg,hu]
  | _=>cases hF
theorem aH0 {ty ft:TypeId} {f off:Nat} {x:Operand} {X:Dm} {u:Value} (hG:∀ w v,Dm.at X w v->∃ cs:List Value,v=.agg cs.toArray/\cs[off]?=some u) (hF:zR P ty f=some (off,ft)) (ht:(P.underlying ft).map (·.isRow)=some false) (ho:o.op=.field ty x f) (hd:o.dst=some d) (hn:d<n) (hx:opd σ x=.av (.one (.d X))) :
  aM P cx n σ o (bG x) [(.s d,.av (.one (.v u)))]:=by
 refine eX hd hn rfl fun σ' ρ a w h hk=>?_;obtain⟨cs,h1,h2⟩:=hG w _ (h.opd ((cO hk).trans hx) w (Agree.refl _ _));refine⟨u,?_,rfl⟩;simp only[execOp,ho];rw[h1];simp[Sem.run_bind,aQv hF ht h2 w]
end
end Vc
end Go.Proofs.YtjmbkipbmbnhjaaGreat
