/-
  
-/
import Derived.Test.YtbaihklbefhgdaaGreatSC15
import Derived.Test.YtbaihklbefhgdaaGreatSC39
import Derived.Test.YtbaihklbefhgdaaGreatSC36
set_option linter.unusedVariables false
set_option linter.unusedSimpArgs false
set_option linter.unusedSectionVars false
namespace Go.Proofs.YtbaihklbefhgdaaGreat
open Go.RowKit
open Dg Zn
namespace Vc
def jY (L:Nat->Prop) (W W':World):Prop:=W.heap.size<=W'.heap.size/\∀ b,¬ L b->∀ off u,W.cell? ⟨b,off,none⟩=some u->W'.cell? ⟨b,off,none⟩=some u
theorem jY.trans {L:Nat->Prop} {A B C:World} (h:jY L A B) (k:jY L B C):jY L A C:=⟨Nat.le_trans h.1 k.1,fun b hb off u hu=>k.2 b hb off u (h.2 b hb off u hu)⟩
theorem uV {W:World} {b off:Nat} {u:Value} (h:W.cell? ⟨b,off,none⟩=some u):b<W.heap.size:=by
 rcases Nat.lt_or_ge b W.heap.size with hl | hl
 ·exact hl
 ·simp[World.cell?,Array.getElem?_eq_none hl] at h
theorem jY.agree {L:Nat->Prop} {W W':World} (h:Agree L W W'):jY L W W':=⟨h.1,fun b hb off u hu=>(World.cell?_of_block (h.2 b (uV hu) hb)).trans hu⟩
def Loc (s:SA Dm):Prop:=∀ W W' v,(∀ b off u,W.cell? ⟨b,off,none⟩=some u->W'.cell? ⟨b,off,none⟩=some u)->s.at W v->s.at W' v
theorem aKt {W W':World} {v:Value} {ds:List Nat} (hc:∀ b off u,W.cell? ⟨b,off,none⟩=some u->W'.cell? ⟨b,off,none⟩=some u) (h:aL W v ds):aL W' v ds:=by
 obtain⟨ao,cap,h1,h2,h3,h4⟩:=h;refine⟨ao,cap,h1,h2,h3,fun hl=>?_⟩;obtain⟨b,off,h5,h6⟩:=h4 hl;exact⟨b,off,h5,fun i hi=>hc _ _ _ (h6 i hi)⟩
theorem aF0 {p q:Int} {k:Nat}:Loc (.d (Dm.rt p q k)):=by
 rintro W W' v hc ⟨s,t,h1,h2,h3,h4,h5⟩;exact⟨s,t,h1,aKt hc h2,aKt hc h3,h4,h5⟩
def iZ (L:Nat->Prop) (W:World) (s:SA Dm) (v:Value):Prop:=∀ W',jY L W W'->s.at W' v
theorem iZ.keep {L:Nat->Prop} {W W':World} {s:SA Dm} {v:Value} (h:iZ L W s v) (hc:jY L W W'):iZ L W' s v:=fun _ hk=>h _ (hc.trans hk)
theorem iZ.at {L:Nat->Prop} {W:World} {s:SA Dm} {v:Value} (h:iZ L W s v):s.at W v:=h W ⟨Nat.le_refl _,fun _ _ _ _ h=>h⟩
open Classical in
theorem aL9 {L:Nat->Prop} {W:World} {s:SA Dm} {v:Value} (hl:Loc s) (h:∀ W',Agree L W W'->s.at W' v):iZ L W s v:=by
 rintro W' ⟨h1,h2⟩;obtain⟨W2,hW2⟩:∃ W2:World,W2={ W' with heap:=W'.heap.mapIdx fun b o=>if b<W.heap.size/\¬ L b then W.heap[b]?.getD o else o }:=⟨_,rfl⟩
 have hs:W2.heap.size=W'.heap.size:=by rw[hW2]; simp
 have hb:∀ b,b<W'.heap.size->W2.heap[b]?=if b<W.heap.size/\¬ L b then W.heap[b]? else W'.heap[b]?:=by
  intro b hb;rw[hW2];simp only[Array.getElem?_mapIdx,Array.getElem?_eq_getElem hb,Option.map_some];split
  ·rename_i hc;rw[Array.getElem?_eq_getElem hc.1];rfl
  ·rfl
 have hag:Agree L W W2:=by
  refine⟨by rw[hs]; exact h1,fun b hbl hnl=>?_⟩;rw[hb b (by omega),if_pos ⟨hbl,hnl⟩]
 refine hl W2 W' v (fun b off u hu=>?_) (h W2 hag);have hbl:b<W'.heap.size:=by have:=uV hu; omega
 by_cases hc:b<W.heap.size/\¬ L b
 ·have e:W2.cell? ⟨b,off,none⟩=W.cell? ⟨b,off,none⟩:=World.cell?_of_block (by rw[hb b hbl,if_pos hc]);exact h2 b hc.2 off u (e ▸ hu)
 ·have e:W2.cell? ⟨b,off,none⟩=W'.cell? ⟨b,off,none⟩:=World.cell?_of_block (by rw[hb b hbl,if_neg hc]);exact e ▸ hu
theorem aMa {L:Nat->Prop} {ρ:aR} {W:World} {x:Dm} {v:Value} (hl:Loc (.d x)) (h:(SA.d x).is L ρ W v):iZ L W (.d x) v:=aL9 hl h
theorem aH3 {L:Nat->Prop} {W W':World} {row:Option Nat} (hg:W.grownBy W' row) (hr:∀ r,row=some r->∃ o:Obj,W.heap[r]?=some o/\o.isCells=false):jY L W W':=by
 refine⟨hg.size,fun b _ off u hu=>?_⟩;have hb:=uV hu;by_cases e:some b=row
 ·obtain⟨o,ho,hc⟩:=hr b e.symm;cases o<;>simp[World.cell?,ho,Obj.isCells] at hu hc
 ·exact(World.cell?_of_block (hg.block b hb e)).trans hu
theorem aH4 {L:Nat->Prop} {W W':World} (h:Below W.heap.size W W'):jY L W W':=.agree (Agree.below h)
theorem aK1 {L:Nat->Prop} {W:World} {b o:Nat} {vs:List Value} (hb:L b):jY L W (W.setCells b o vs):=by
 refine⟨Nat.le_of_eq (lC ..).symm,fun c hc off u hu=>?_⟩;exact(World.cell?_of_block (mD _ _ _ _ c (fun e=>hc (e ▸ hb)))).trans hu
def FK:Key:=.b 2000000
def oU (W:World) (L:Nat->Prop) (hlt:∀ b,L b->b<W.heap.size) (hni:gO L W):jD Dm:={ w0:=W,L0:=L,lt:=hlt,fr:=false,Bw:=fun _=>False,bl:=fun _ h=>h.elim,bw:=fun _ _ h=>h,ni:=fun _=>hni,wf:=fun _ _ _=>trivial }
def aOp (W:World) (L:Nat->Prop) (B:Nat) (k:Option Nat) (s:SA Dm) (w:World):Prop:=∃ w1 v,∃ cs:List Value,Below W.heap.size W w1/\iZ L w1 s v/\Shaped k v cs/\w=w1.setCells B 0 cs
section
variable {W:World} {L:Nat->Prop} {hlt:∀ b,L b->b<W.heap.size} {hni:gO L W} {B n:Nat} {k:Option Nat} {s:SA Dm} {P:Program} {ops:Array Oper} {σ:St Dm} {o:Oper}
def CS (W:World) (L:Nat->Prop) (hlt:∀ b,L b->b<W.heap.size) (hni:gO L W) (n B:Nat) (k:Option Nat) (s:SA Dm) (σ:St Dm) (a:Act) (w:World):Prop :=
 (σ FK=.no/\CC (oU W L hlt hni).cx n σ a w)\/(σ FK=.dead/\aOp W L B k s w)
theorem CS.drew {l:Sg Dm} {a:Act} {w:World} (h0:aF .no l FK=.no) (h:CS W L hlt hni n B k s (aF .no l) a w):CS W L hlt hni n B k s (aF .no l) a w.drew:=by
 rcases h with ⟨h1,h2⟩ | ⟨h1,_⟩
 ·exact .inl ⟨h1,h2.drew⟩
 ·rw[h0] at h1; cases h1
theorem wT {rd:List Key} {wr:List (Key × XV Dm)} (h:aN P (oU W L hlt hni).cx n σ o rd wr) (hg:o.guard=none) (hσ:σ FK=.no) (hk:vM (keys wr) [FK]=false):iM (CS W L hlt hni n B k s) P ops σ o ⟨FK::rd,wr⟩:=by
 intro σ' a w Q hC h1 h2;have hF:σ' FK=.no:=(h1 FK List.mem_cons_self).trans hσ;rcases hC with ⟨_,hC⟩ | ⟨e,_⟩
 ·refine .inl ⟨by simp[Region.wanted,hg],fun K hK=>h σ' a w Q hC (fun q hq=>h1 q (List.mem_cons_of_mem _ hq)) h2 K fun a' w' hc=>hK a' w' (.inl ⟨?_,hc⟩)⟩;rw[lI (fun hm=>rV hk hm List.mem_cons_self)];exact hF
 ·rw[hF] at e; cases e
end
section
variable {cx:Cx Dm} {n:Nat} {P:Program} {σ:St Dm} {o:Oper}
theorem aIh {ρ:aR} {l:Sg Dm} {a:Act} (hsz:a.tmps.size=n) (hdf:a.defers=[]) (hb:∀ i,aF .no l (.b i)=.no) (hs:∀ t,aF .no l (.s t)=.no\/∃ av,aF .no l (.s t)=.av av/\av.ptrs=[]/\av.is cx.L0 ρ cx.w0 (a.tmps.getD t undef)):Conc cx n ρ (aF .no l) a cx.w0:=by
 have hlive:∀ i,¬ live (aF .no l) ρ i:=fun i h=>xJ h (hb i);have hL:aT cx (aF .no l) ρ=cx.L0:=by
  funext b
  unfold aT;refine propext ⟨fun h=>?_,.inl⟩;rcases h with h | ⟨i,h,_⟩
  ·exact h
  ·exact absurd h (hlive i)
 refine⟨hsz,hdf,Kept.refl _ _ _,fun i h=>absurd h (hlive i),fun i T ch h=>?_,fun i T k l h=>?_,fun i j h=>absurd h (hlive i),fun t av h=>?_,fun q b h=>?_,fun i T ch h=>?_⟩
 ·rw[hb] at h; cases h
 ·rw[hb] at h; cases h
 ·rcases hs t with e | ⟨av',e,_,h2⟩
  ·rw[e] at h; cases h
  ·rw[e] at h;obtain rfl:=(XV.av.injEq _ _).mp h;rw[hL];exact h2
 ·cases q with
  | s t =>
   rcases hs t with e | ⟨av',e,h1,_⟩
   ·rw[e] at h; cases h
   ·rw[e,show XV.ptrs (XV.av av')=av'.ptrs from rfl,h1] at h;cases h
  | b i=>rw[hb] at h; cases h
 ·rw[hb] at h; cases h
end
section
variable {W:World} {L:Nat->Prop} {hlt:∀ b,L b->b<W.heap.size} {hni:gO L W} {B n:Nat} {k:Option Nat} {s:SA Dm} {P:Program} {ops:Array Oper} {σ:St Dm} {o:Oper}
theorem wX {ρ:aR} {a:Act} {w:World} (h:Conc (oU W L hlt hni).cx n ρ σ a w):Below W.heap.size W w :=
 ⟨h.kept.os,h.kept.tape,h.kept.output,h.kept.size,fun b hb=>h.kept.block b hb (fun q=>q)⟩
theorem aSs {ρ:aR} {a:Act} {w w':World} (h:Conc (oU W L hlt hni).cx n ρ σ a w) (hag:Agree (aT (oU W L hlt hni).cx σ ρ) w w'):jY L W w':=by
 have hb:=wX h;refine⟨Nat.le_trans hb.size hag.1,fun b hnl off u hu=>?_⟩;have hbl:=uV hu;have e1:w.heap[b]?=W.heap[b]?:=hb.block b hbl;have e2:w'.heap[b]?=w.heap[b]?:=hag.2 b (Nat.lt_of_lt_of_le hbl hb.size) (by
  rintro(q | ⟨i,q1,q2⟩)
  ·exact hnl q
  ·rcases h.mine i q1 with m | m
   ·have:W.heap.size<=(ρ i).1:=m;omega
   ·exact m)
 exact(World.cell?_of_block (e2.trans e1)).trans hu
theorem aSk {L':Nat->Prop} {w:World} {v:Value} (hL:∀ b,L b->L' b) (h:iZ L' w s v):iZ L w s v:=fun W' hk=>h W' ⟨hk.1,fun b hb=>hk.2 b fun q=>hb (hL b q)⟩
theorem aVi {ty:TypeId} {t d:Nat} {v0:Value} {cs0:List Value} {T:TypeId} (hB:W.heap[B]?=some (.cells cs0.toArray T (0,0))) (hsh:Shaped k v0 cs0) (hst:iZ L W s v0) (hs0:s.ptrs=[]) (hty:dL P ty k) (ho:o.op=.load ty (.tmp t)) (hd:o.dst=some d) (hn:d<n) (ht:σ (.s t)=.av (.one (.v (.pointer (some ⟨B,0,none⟩))))) :
  aN P (oU W L hlt hni).cx n σ o [.s t] [(.s d,.av (.one s))]:=by
 intro σ' a w Q ⟨ρ,h⟩ h1 _ K hK;have ht':=(h1 (.s t) (by simp)).trans ht;have e1:a.eval (.tmp t)=.pointer (some ⟨B,0,none⟩):=h.slt t _ ht';have hBl:B<W.heap.size:=by
  rcases Nat.lt_or_ge B W.heap.size with hl | hl
  ·exact hl
  ·rw[Array.getElem?_eq_none hl] at hB; cases hB
 have hBw:w.heap[B]?=some (.cells cs0.toArray T (0,0)):=((wX h).block B hBl).trans hB;have hr:(execOp a.eval o).run P w=.ok (.value v0) w:=by
  have hl:=vW (P:=P) (w:=w) (b:=B) (off:=0) (cs:=cs0) (ty:=ty) (k:=k) (v:=v0) (fun j c hj=>by rw[Nat.zero_add]; simpa[World.cell?,hBw] using hj) hsh hty;simp only[execOp,ho,e1,Sem.run_bind,Instr.loadAt,Instr.sureAddr,Sem.run_pure,Result.andThen_ok,hl]
 unfold Oper.wp;rw[hr,Oper.upon_value,hd];exact hK _ _ ⟨ρ,h.put (Below.refl _ _) hn (yC fun w'' hag=>hst w'' (aSs h hag)) (by show ∀ b∈s.ptrs,_; rw[hs0]; intro b hb; cases hb)⟩
theorem aQe {ty T:TypeId} {t u:Nat} {x:Dm} {cs0:List Value} (hB:W.heap[B]?=some (.cells cs0.toArray T (0,0))) (hlen:cs0.length=k.getD 1) (hl:Loc (.d x)) (hk:(SA.d x:SA Dm).kind=some k) (hsz:(P.info? ty).map (·.size)=some (k.getD 1)) (hg:o.guard=none) (ho:o.op=.store ty (.tmp t) (.tmp u)) (hd:o.dst=none)
  (hF:σ FK=.no) (ht:σ (.s t)=.av (.one (.v (.pointer (some ⟨B,0,none⟩))))) (hu:σ (.s u)=.av (.one (.d x))):iM (CS W L hlt hni n B k (.d x)) P ops σ o ⟨[FK,.s t,.s u],[(FK,.dead)]⟩:=by
 intro σ' a w Q hC h1 h2;have hF':σ' FK=.no:=(h1 FK (by simp)).trans hF;rcases hC with ⟨_,ρ,h⟩ | ⟨e,_⟩
 ·refine .inl ⟨by simp[Region.wanted,hg],fun K hK=>?_⟩;have e1:a.eval (.tmp t)=.pointer (some ⟨B,0,none⟩):=h.slt t _ ((h1 (.s t) (by simp)).trans ht);have hv:(SA.d x:SA Dm).is (aT (oU W L hlt hni).cx σ' ρ) ρ w (a.eval (.tmp u)):=h.slt u _ ((h1 (.s u) (by simp)).trans hu);obtain⟨p',hp'⟩:=mG hk hv;have hBl:B<W.heap.size:=by
   rcases Nat.lt_or_ge B W.heap.size with hl | hl
   ·exact hl
   ·rw[Array.getElem?_eq_none hl] at hB; cases hB
  have hBw:w.heap[B]?=some (.cells cs0.toArray T (0,0)):=((wX h).block B hBl).trans hB;have hr:(execOp a.eval o).run P w=.ok .skip (w.setCells B 0 p'):=by
   have hst:=run_storeCells_cells (P:=P) B 0 p' 0 w (fun j hj=>by
     have:j<cs0.length:=by rw[hlen,<- hp'.length]; exact hj
     simp[World.cell?,hBw,this]) (fun j hj=>by simp[World.frozen?,hBw]) hp'.one
   rw[Nat.add_zero] at hst;cases hq:P.info? ty with
   | none=>simp[hq] at hsz
   | some inf =>
    have e2:inf.size=k.getD 1:=by simpa[hq] using hsz
    have e3:(a.eval (.tmp u)).cells.size=inf.size:=by rw[hp'.cells,e2,<- hp'.length]; simp
    simp[execOp,ho,e1,Instr.storeAt,Instr.sureAddr,storeVar,sizeOf,typeInfo,hq,hp'.cells,hst];rw[show p'.length=inf.size by rw[e2,hp'.length]]
  unfold Oper.wp;rw[hr,Oper.upon_skip,hd];refine hK _ _ (.inr ⟨kM,w,a.eval (.tmp u),p',wX h,?_,hp',rfl⟩);exact aSk (fun b hb=>.inl hb) (aMa hl hv)
 ·rw[hF'] at e; cases e
end
section
variable {P:Program}
end
section
variable {P:Program} {cx:Cx Dm} {n:Nat} {l:Sg Dm}
end
end Vc
end Go.Proofs.YtbaihklbefhgdaaGreat

namespace Go.Proofs.YtbaihklbefhgdaaGreat
open Go.RowKit
open Go.Lib (hid)
open Dg Zn
namespace Vc
section
variable {D:Type} [bO D] {P:Program} {cx:Cx D} {n:Nat} {σ:St D} {o:Oper}
theorem jG {t i off:Nat} {ty T:TypeId} {y:Operand} {ch ch':List (Ch D)} {k:Option Nat} {s s0:SA D} (hsz:(P.info? ty).map (·.size)=some (k.getD 1)) (ho:o.op=.store ty (.tmp t) y:=by exact rfl) (hd:o.dst=none:=by exact rfl) (ht:σ (.s t)=.av (.one (.ptr i off)):=by exact rfl) (hb:σ (.b i)=.blk T ch:=by exact rfl) (hc:lT ch off=some (k,s0):=by exact rfl) (hy:opd σ y=.av (.one s):=by exact rfl) (hk:s.kind=some k:=by exact rfl) (hch:oN ch off (k,s)=ch':=by exact rfl) (hkp:oW (σ KP)=true:=by exact rfl) (hpt:kD ch'=[]:=by exact rfl) (hiK:Nat.beq i 1000000=false:=by exact rfl) :
  aN P cx n σ o (.s t::.b i::bH y) [(.b i,.blk T ch'),(KP,.np (i::bR (σ KP)))]:=by
 subst hch;intro σ' a w Q ⟨ρ,h⟩ h1 h2 K hK;have ht':=(h1 (.s t) (by simp)).trans ht;have hb':=(h1 (.b i) (by simp)).trans hb;have hKP:=h2 KP (by simp[keys]);have hy':=(cR (σ':=σ') (x:=y) fun q hq=>h1 q (by simp[hq])).trans hy;have hiK1:i≠1000000:=fun e=>by subst e; cases hiK
 obtain⟨cs,hcs,hcc⟩:=h.blk i T ch hb';obtain⟨pre,p,post,v,rfl,rfl,k3,k4,k5,k6⟩:=hcc.at hc;have hs:=h.opd hy';obtain⟨p',hp'⟩:=mG hk hs;have hlen:p'.length=p.length:=by rw[hp'.length,k3.length]
 have hev:a.eval (.tmp t)=.pointer (some ⟨(ρ i).1,pre.length,none⟩):=h.slt t _ ht';have hr:(execOp a.eval o).run P w=.ok .skip (w.setCells (ρ i).1 pre.length p'):=by
  have hst:=run_storeCells_cells (P:=P) (ρ i).1 pre.length p' 0 w (fun j hj=>by
    rw[Nat.add_zero,sY hcs j p[j] (List.getElem?_eq_getElem (by omega))]; rfl) (fun j hj=>by
    simp[World.frozen?,hcs]) hp'.one
  rw[Nat.add_zero] at hst;cases hq:P.info? ty with
  | none=>simp[hq] at hsz
  | some inf =>
   have e1:inf.size=k.getD 1:=by simpa[hq] using hsz
   have e2:(a.eval y).cells.size=inf.size:=by rw[hp'.cells,e1,<- hp'.length]; simp
   simp[execOp,ho,hev,Instr.storeAt,Instr.sureAddr,storeVar,sizeOf,typeInfo,hq,hp'.cells,hst];rw[show p'.length=inf.size by rw[e1,hp'.length]]
 unfold Oper.wp;rw[hr,Oper.upon_skip,hd];have hk':=h.kp (q:=.np (i::bR (σ KP))) (by rw[hKP]; exact hkp) rfl (fun _=>by simp) (fun j T k l _ hi q=>hi (by rw[hKP] at q; exact List.mem_cons_of_mem _ q)) (fun j T ch _ hi=>.inl fun q=>hi (by rw[hKP] at q; exact List.mem_cons_of_mem _ q));have hKi:Key.b i≠KP:=by simpa[KP] using hiK1
 obtain⟨σ1,hσ1⟩:∃ σ1,σ1=upd σ' [(KP,.np (i::bR (σ KP)))]:=⟨_,rfl⟩
 rw[<- hσ1] at hk';have hk1:σ1 (.b i)=.blk T ch:=by rw[hσ1,mM hKi]; exact hb'
 have hkK:σ1 KP=.np (i::bR (σ KP)):=by rw[hσ1]; exact kM
 have hL:aT cx σ1 ρ=aT cx σ' ρ:=by
  have hlive:∀ j,live σ1 ρ j ↔ live σ' ρ j:=by
   intro j;by_cases e:Key.b j=KP
   ·obtain⟨_,sb,sr⟩:=xR hkp;have ej:j=1000000:=by simpa[KP] using e
    subst ej;constructor
    ·intro hl;rcases gH hl with ⟨T,ch,q⟩ | ⟨T,k,l,q,_⟩
     ·exact absurd (hkK.symm.trans q) (by simp)
     ·exact absurd (hkK.symm.trans q) (by simp)
    ·intro hl;rcases gH hl with ⟨T,ch,q⟩ | ⟨T,k,l,q,_⟩
     ·exact absurd (hKP.symm.trans q) (sb T ch)
     ·exact absurd (hKP.symm.trans q) (sr T k l)
   ·exact fY (by rw[hσ1,mM e]) rfl
  unfold aT; simp only[hlive]
 have hnew:=hk'.stoN (x:=.blk T (oN ch pre.length (k,s))) (jJ hk1) (by simp) (jJ kM) hiK1 (os_setCells ..) (nU ..) (nV ..) (lC ..) (fun j hj=>mD _ _ _ _ j hj)
  (fun T1 c1 e=>by
   injection e with e1 e2;subst e1; subst e2;refine⟨fun q=>absurd (by rw[hkK]; exact List.mem_cons_self) q,_,oY _ T p' p pre post w hlen hcs,?_⟩;rw[hL];exact k6 (k,s) _ p' rfl hp' hs) (fun T k l e=>by cases e) (by intro b hb; rw[show XV.ptrs (XV.blk T _:XV D)=_ from hpt] at hb; cases hb)
 have e3:upd σ1 [(.b i,.blk T (oN ch pre.length (k,s)))]=upd σ' [(.b i,.blk T (oN ch pre.length (k,s))),(KP,.np (i::bR (σ KP)))]:=by
  rw[hσ1]; rfl
 rw[e3] at hnew;exact hK _ _ ⟨ρ,hnew⟩
end
section
variable {P:Program} {cx:Cx Dm} {n:Nat} {σ:St Dm} {o:Oper} {d t:Nat}
def aAv (P:Program) (ty:TypeId) (f:Nat):Option (Nat × TypeId):=match P.underlying ty with
 | some (.struct fs)=>(fs[f]?).map fun fd=>(fd.offset,fd.type)
 | _=>none
theorem aSm {ty ft:TypeId} {f off:Nat} {cs:List Value} {u:Value} (hF:aAv P ty f=some (off,ft)) (ht:(P.underlying ft).map (·.isRow)=some false) (hu:cs[off]?=some u) (w:World):(Instr.field ty (.agg cs.toArray) f).run P w=.ok u w:=by
 unfold aAv at hF;cases hq:P.underlying ty with
 | none=>rw[hq] at hF; cases hF
 | some td =>
  rw[hq] at hF;cases td with
  | struct fs =>
   obtain⟨fd,h1,h2⟩:=Option.map_eq_some_iff.1 hF;injection h2 with h2 h3;subst h2; subst h3;have hagg:(isAgg fd.type).run P w=.ok false w:=by
    unfold isAgg;cases hq2:P.underlying fd.type with
    | none=>rw[hq2] at ht; cases ht
    | some d =>
     rw[Sem.run_bind,run_underlying hq2 w];rw[hq2] at ht;cases d<;>simp_all [TypeDesc.isRow]
   simp[Instr.field,Sem.run_bind,run_underlying hq w,h1,asAgg,part,hagg,hu]
  | _=>cases hF
theorem aI8 {ty ft:TypeId} {f off:Nat} {x:Operand} {X:Dm} {u:Value} (hG:∀ w v,Dm.at X w v->∃ cs:List Value,v=.agg cs.toArray/\cs[off]?=some u) (hF:aAv P ty f=some (off,ft)) (ht:(P.underlying ft).map (·.isRow)=some false) (ho:o.op=.field ty x f) (hd:o.dst=some d) (hn:d<n) (hx:opd σ x=.av (.one (.d X))) :
  aN P cx n σ o (bH x) [(.s d,.av (.one (.v u)))]:=by
 refine fE hd hn rfl fun σ' ρ a w h hk=>?_;obtain⟨cs,h1,h2⟩:=hG w _ (h.opd ((cR hk).trans hx) w (Agree.refl _ _));refine⟨u,?_,rfl⟩;simp only[execOp,ho];rw[h1];simp[Sem.run_bind,aSm hF ht h2 w]
end
end Vc
end Go.Proofs.YtbaihklbefhgdaaGreat
