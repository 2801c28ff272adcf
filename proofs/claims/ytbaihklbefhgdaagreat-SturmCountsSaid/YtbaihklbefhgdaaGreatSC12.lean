/-
  
-/
import Derived.Test.YtbaihklbefhgdaaGreatSC10
import Derived.Laws.OwnMore
import Derived.ArgAppend
set_option linter.unusedVariables false
set_option linter.unusedSimpArgs false
set_option linter.unusedSectionVars false
namespace Go.Proofs.YtbaihklbefhgdaaGreat
open Go.RowKit
namespace Vc
section
variable {D:Type} [bO D]
def dF (w:World) (k:Option Nat):List (SA D)->List Value->Prop
 | [],cs=>cs=[]
 | s::l,cs=>∃ p r v,cs=p++r/\Shaped k v p/\s.at w v/\dF w k l r
theorem dF.length {w:World} {k:Option Nat}:∀ {l:List (SA D)} {cs:List Value},dF w k l cs->cs.length=l.length*k.getD 1
 | [],_,h=>by rw[show _=[] from h]; simp
 | s::l,_,⟨p,r,v,h1,h2,h3,h4⟩=>by
  rw[h1,List.length_append,h2.length,dF.length h4,List.length_cons,Nat.succ_mul,Nat.add_comm]
theorem aAh {L:Nat->Prop} {ρ:aR} {w w':World} {s:SA D} {v:Value} (h:s.is L ρ w v) (hp:s.ptrs=[]) (hw:Agree L w w'):s.at w' v:=by
 cases s with
 | v x=>exact h
 | d x=>exact h w' hw
 | ptr b o=>cases hp
 | sl b n=>cases hp
 | ar b n=>cases hp
 | lk x=>exact absurd hp x.ne
theorem bZ.ats {L:Nat->Prop} {ρ:aR} {w w':World} {k:Option Nat}:∀ {l:List (SA D)} {cs:List Value},bZ L ρ w (dB k l) cs->l.flatMap SA.ptrs=[]->Agree L w w'->dF w' k l cs
 | [],_,h,_,_=>h
 | s::l,_,⟨p,r,v,h1,h2,h3,h4⟩,hp,hw=>by
  rw[List.flatMap_cons,List.append_eq_nil_iff] at hp;exact⟨p,r,v,h1,h2,aAh h3 hp.1 hw,bZ.ats h4 hp.2 hw⟩
theorem aNi {L:Nat->Prop} {ρ:aR} {w:World} {k:Option Nat}:∀ {l:List (SA D)} {cs:List Value},(∀ w',Agree L w w'->dF w' k l cs)->bZ L ρ w (dB k l) cs
 | [],_,h=>h w (Agree.refl _ _)
 | s::l,cs,h=>by
  obtain⟨p,r,v,h1,h2,h3,h4⟩:=h w (Agree.refl _ _);have key:∀ w',Agree L w w'->s.at w' v/\dF w' k l r:=by
   intro w' hw;obtain⟨p',r',v',k1,k2,k3,k4⟩:=h w' hw;have e:=List.append_inj (h1.symm.trans k1) (by rw[h2.length,k2.length]);obtain⟨rfl,rfl⟩:=e;rw[h2.same k2];exact⟨k3,k4⟩
  refine⟨p,r,v,h1,h2,?_,aNi fun w' hw=>(key w' hw).2⟩;cases s with
  | v x=>exact h3
  | d x=>exact fun w' hw=>(key w' hw).1
  | ptr b o=>exact h3.elim
  | sl b n=>exact h3.elim
  | ar b n=>exact h3.elim
  | lk x=>exact h3.elim
theorem bZ.append {L:Nat->Prop} {ρ:aR} {w:World} {k:Option Nat} {m:List (SA D)} {ds:List Value} (h2:bZ L ρ w (dB k m) ds):∀ {l:List (SA D)} {cs:List Value},bZ L ρ w (dB k l) cs->bZ L ρ w (dB k (l++m)) (cs++ds)
 | [],_,h=>by rw[show _=[] from h]; exact h2
 | s::l,_,⟨p,r,v,h1,h2',h3,h4⟩=>⟨p,r++ds,v,by rw[h1,List.append_assoc],h2',h3,bZ.append h2 h4⟩
theorem bZ.take {L:Nat->Prop} {ρ:aR} {w:World} {k:Option Nat}:∀ {l:List (SA D)} {cs:List Value} (m:Nat),bZ L ρ w (dB k l) cs->bZ L ρ w (dB k (l.take m)) (cs.take (m*k.getD 1))
 | [],_,m,h=>by rw[show _=[] from h]; simp; rfl
 | s::l,_,0,h=>by simp; rfl
 | s::l,_,m+1,⟨p,r,v,h1,h2,h3,h4⟩=>by
  refine⟨p,r.take (m*k.getD 1),v,?_,h2,h3,bZ.take m h4⟩;have hl:p.length=k.getD 1:=h2.length;rw[h1,List.take_append,List.take_of_length_le (by rw[hl,Nat.succ_mul]; omega),hl];congr 2;rw[Nat.succ_mul]; omega
theorem dF.take {w:World} {k:Option Nat}:∀ {l:List (SA D)} {cs:List Value} (m:Nat),dF w k l cs->dF w k (l.take m) (cs.take (m*k.getD 1))
 | [],_,m,h=>by rw[show _=[] from h]; simp; rfl
 | s::l,_,0,h=>by simp; rfl
 | s::l,_,m+1,⟨p,r,v,h1,h2,h3,h4⟩=>by
  refine⟨p,r.take (m*k.getD 1),v,?_,h2,h3,dF.take m h4⟩;rw[h1,List.take_append,List.take_of_length_le (by rw[h2.length,Nat.succ_mul]; omega),h2.length];congr 2;rw[Nat.succ_mul]; omega
theorem dF.drop {w:World} {k:Option Nat}:∀ {l:List (SA D)} {cs:List Value} (m:Nat),dF w k l cs->dF w k (l.drop m) (cs.drop (m*k.getD 1))
 | [],_,m,h=>by rw[show _=[] from h]; simp; rfl
 | s::l,_,0,h=>by simpa using h
 | s::l,_,m+1,⟨p,r,v,h1,h2,h3,h4⟩=>by
  have hl:p.length=k.getD 1:=h2.length;have e:(p++r).drop ((m+1)*k.getD 1)=r.drop (m*k.getD 1):=by
   rw[List.drop_append,List.drop_of_length_le (by rw[hl,Nat.succ_mul]; omega),List.nil_append,hl,show (m+1)*k.getD 1-k.getD 1=m*k.getD 1 by rw[Nat.succ_mul]; omega]
  show dF w k (l.drop m) _;rw[h1,e];exact dF.drop m h4
theorem dF.at {w:World} {k:Option Nat}:∀ {l:List (SA D)} {cs:List Value} {i:Nat} {s:SA D},dF w k l cs->l[i]?=some s->∃ pre p post v,cs=pre++p++post/\pre.length=i*k.getD 1/\Shaped k v p/\s.at w v
 | [],_,_,_,_,h=>by cases h
 | t::l,_,0,s,⟨p,r,v,h1,h2,h3,h4⟩,h=>by
  obtain rfl:t=s:=by simpa using h
  exact⟨[],p,r,v,by simpa using h1,by simp,h2,h3⟩
 | t::l,_,i+1,s,⟨p,r,v,h1,h2,h3,h4⟩,h=>by
  obtain⟨pre,q,post,u,k1,k2,k3,k4⟩:=dF.at (i:=i) h4 (by simpa using h);exact⟨p++pre,q,post,u,by rw[h1,k1]; simp,by rw[List.length_append,h2.length,k2,Nat.succ_mul]; omega,k3,k4⟩
omit [bO D] in
theorem aEk {k:Option Nat} (hk:0<k.getD 1):∀ {l:List (SA D)} (i:Nat),lT (dB k l) (i*k.getD 1)=l[i]?.map fun s=>(k,s)
 | [],i=>by cases i<;>rfl
 | s::l,0=>by show (bif Nat.beq (0*k.getD 1) 0 then _ else _)=_; rw[Nat.zero_mul]; rfl
 | s::l,i+1=>by
  show (bif Nat.beq ((i+1)*k.getD 1) 0 then _ else bif Nat.blt ((i+1)*k.getD 1) (k.getD 1) then _ else lT (dB k l) ((i+1)*k.getD 1-k.getD 1))=_;have h1:Nat.beq ((i+1)*k.getD 1) 0=false:=by
   rw[<- Bool.not_eq_true,Nat.beq_eq];rw[Nat.succ_mul]; omega
  have h2:Nat.blt ((i+1)*k.getD 1) (k.getD 1)=false:=by
   rw[<- Bool.not_eq_true,Nat.blt_eq];rw[Nat.succ_mul]; omega
  rw[h1,h2,cond_false,cond_false,show (i+1)*k.getD 1-k.getD 1=i*k.getD 1 by rw[Nat.succ_mul]; omega,aEk hk i];simp
omit [bO D] in
theorem aJx {k:Option Nat} (hk:0<k.getD 1) (s:SA D):∀ {l:List (SA D)} (i:Nat),oN (dB k l) (i*k.getD 1) (k,s)=dB k (l.set i s)
 | [],i=>by cases i<;>rfl
 | t::l,0=>by show (bif Nat.beq (0*k.getD 1) 0 then _ else _)=_; rw[Nat.zero_mul]; rfl
 | t::l,i+1=>by
  show (bif Nat.beq ((i+1)*k.getD 1) 0 then _ else (k,t)::oN (dB k l) ((i+1)*k.getD 1-k.getD 1) (k,s))=_;have h1:Nat.beq ((i+1)*k.getD 1) 0=false:=by
   rw[<- Bool.not_eq_true,Nat.beq_eq];rw[Nat.succ_mul]; omega
  rw[h1,cond_false,show (i+1)*k.getD 1-k.getD 1=i*k.getD 1 by rw[Nat.succ_mul]; omega,aJx hk s i];rfl
theorem aMc {P:Program} {ty:TypeId} {m:Nat} (h:(P.info? ty).map (·.size)=some m) (w:World):(sizeOf ty).run P w=.ok m w:=by
 cases hq:P.info? ty with
 | none=>rw[hq] at h; cases h
 | some inf =>
  rw[hq] at h;have:inf.size=m:=by simpa using h
  simp[sizeOf,typeInfo,hq,this]
theorem aIt {P:Program} {t e:TypeId} {m:Nat} (hu:P.underlying t=some (.slice e)) (hsz:(P.info? e).map (·.size)=some m) (w:World) (b off len cap i:Nat) (hi:i<len) :
  (Instr.indexAt t (.slice (some ⟨b,off,none⟩) len cap) (.int .i64 (i:Int))).run P w=.ok (.pointer (some ⟨b,off+i*m,none⟩)) w:=by
 simp[Instr.indexAt,asIntOf,run_underlying hu,aMc hsz,hi,Addr.add_mid]
variable {P:Program} {cx:Cx D} {n:Nat} {σ:St D} {o:Oper}
theorem Conc.sl_at {ρ:aR} {a:Act} {w:World} {t b m:Nat} {T:TypeId} {k:Option Nat} {l:List (SA D)} (h:Conc cx n ρ σ a w) (ht:σ (.s t)=.av (.one (.sl b m))) (hb:σ (.b b)=.row T k l) (hl:0<l.length) :
  a.eval (.tmp t)=.slice (some ⟨(ρ b).1,0,none⟩) m (ρ b).2/\0<(ρ b).2:=by
 obtain⟨a0,e1,e2⟩:=h.slt t _ ht;have hc:0<(ρ b).2:=Nat.lt_of_lt_of_le hl (h.row b T k l hb).1.1;rw[e2 hc] at e1;exact⟨e1,hc⟩
theorem mZ {d t b m i sz:Nat} {j:Operand} {ty e T:TypeId} {k:Option Nat} {l:List (SA D)} (hi:i<m) (hm:m<=l.length) (hu:P.underlying ty=some (.slice e)) (hsz:(P.info? e).map (·.size)=some sz) (ho:o.op=.indexAddr ty (.tmp t) j:=by exact rfl) (hd:o.dst=some d:=by exact rfl) (hn:d<n:=by exact bd) (ht:σ (.s t)=.av (.one (.sl b m)):=by exact rfl) (hb:σ (.b b)=.row T k l:=by exact rfl) (hj:opd σ j=.av (.one (.v (.int .i64 (i:Int)))):=by exact rfl) :
  aN P cx n σ o (.s t::.b b::bH j) [(.s d,.av (.one (.ptr b (i*sz))))]:=by
 intro σ' a w Q ⟨ρ,h⟩ h1 _ K hK;have ht':=(h1 (.s t) (by simp)).trans ht;have hb':=(h1 (.b b) (by simp)).trans hb;obtain⟨e1,hc⟩:=h.sl_at ht' hb' (by omega);have e2:a.eval j=.int .i64 (i:Int):=h.opd ((cR fun q hq=>h1 q (by simp[hq])).trans hj);have hr:(execOp a.eval o).run P w=.ok (.value (.pointer (some ⟨(ρ b).1,i*sz,none⟩))) w:=by
  simp only[execOp,ho,e1,e2,Sem.run_bind,aIt hu hsz w (ρ b).1 0 m (ρ b).2 i hi,Result.andThen_ok,Sem.run_pure,Nat.zero_add]
 unfold Oper.wp;rw[hr,Oper.upon_value,hd];exact hK _ _ ⟨ρ,h.put (Below.refl _ _) hn rfl fun q hq=>by
  obtain rfl:q=b:=by simpa[AV.ptrs,SA.ptrs] using hq
  rw[hb']; simp⟩
theorem bZ.rowAt {L:Nat->Prop} {ρ:aR} {w:World} {k:Option Nat} {l:List (SA D)} {cs sp:List Value} {off:Nat} {c:Ch D} (h:bZ L ρ w (dB k l) cs) (hc:lT (dB k l) off=some c) :
  ∃ pre p post v,cs++sp=pre++p++(post++sp)/\pre.length=off/\Shaped c.1 v p/\c.2.is L ρ w v/\(∀ b∈c.2.ptrs,b∈l.flatMap SA.ptrs)/\cs=pre++p++post:=by
 obtain⟨pre,p,post,v,h1,h2,h3,h4,h5,_⟩:=h.at hc;exact⟨pre,p,post,v,by rw[h1]; simp,h2,h3,h4,fun b hb=>by have:=h5 hb; rwa[uE] at this,h1⟩
omit [bO D] in
theorem aPp {k:Option Nat} {l:List (SA D)} {off:Nat} {c:Ch D} (hc:lT (dB k l) off=some c):0<l.length:=by
 cases l with
 | nil=>cases hc
 | cons=>simp
theorem aS9 {d t b off:Nat} {ty T:TypeId} {k k':Option Nat} {l:List (SA D)} {s:SA D} (hc:lT (dB k l) off=some (k',s)) (ho:o.op=.load ty (.tmp t)) (hd:o.dst=some d) (hn:d<n) (ht:σ (.s t)=.av (.one (.ptr b off))) (hb:σ (.b b)=.row T k l) (hty:dL P ty k') :
  aN P cx n σ o [.s t,.b b] [(.s d,.av (.one s))]:=by
 intro σ' a w Q ⟨ρ,h⟩ h1 _ K hK;have ht':=(h1 (.s t) (by simp)).trans ht;have hb':=(h1 (.b b) (by simp)).trans hb;have hr0:=h.row b T k l hb';obtain⟨cs,sp,hcs,hch,_⟩:=hr0.2 (Nat.lt_of_lt_of_le (aPp hc) hr0.1.1);obtain⟨pre,p,post,v,k1,rfl,k3,k4,k5,_⟩:=hch.rowAt (sp:=sp) hc;have hev:a.eval (.tmp t)=.pointer (some ⟨(ρ b).1,pre.length,none⟩):=h.slt t _ ht';obtain⟨fr,hcs,_⟩:=hcs;rw[k1] at hcs;have hr:(execOp a.eval o).run P w=.ok (.value v) w:=by
  simp only[execOp,ho,hev,Sem.run_bind,Instr.loadAt,Instr.sureAddr,Sem.run_pure,Result.andThen_ok,yQ hcs k3 hty]
 unfold Oper.wp;rw[hr,Oper.upon_value,hd];exact hK _ _ ⟨ρ,h.put (Below.refl _ _) hn k4 fun q hq=>by have:=k5 q hq; rw[hr0.1.2.2] at this; cases this⟩
theorem uH {d t b i off:Nat} {ty T:TypeId} {k:Option Nat} {l:List (SA D)} {s:SA D} (hs:l[i]?=some s) (hoff:off=i*k.getD 1) (hty:dL P ty k) (hk:0<k.getD 1) (ho:o.op=.load ty (.tmp t)) (hd:o.dst=some d) (hn:d<n) (ht:σ (.s t)=.av (.one (.ptr b off))) (hb:σ (.b b)=.row T k l) :
  aN P cx n σ o [.s t,.b b] [(.s d,.av (.one s))] :=
 aS9 (k':=k) (by rw[hoff,aEk hk,hs]; rfl) ho hd hn ht hb hty
theorem tQ {t b i off:Nat} {ty T:TypeId} {y:Operand} {k:Option Nat} {l:List (SA D)} {s:SA D} (hi:i<l.length) (hk0:0<k.getD 1) (hsz:(P.info? ty).map (·.size)=some (k.getD 1)) (hp:s.plain=true\/fK b (bR (σ KP))=true) (hoff:off=i*k.getD 1:=by exact rfl) (ho:o.op=.store ty (.tmp t) y:=by exact rfl) (hd:o.dst=none:=by exact rfl) (ht:σ (.s t)=.av (.one (.ptr b off)):=by exact rfl) (hb:σ (.b b)=.row T k l:=by exact rfl) (hy:opd σ y=.av (.one s):=by exact rfl) (hk:s.kind=some k:=by exact rfl) (hpt:s.ptrs=[]:=by exact rfl) (hbK:Nat.beq b 1000000=false:=by exact rfl) :
  aN P cx n σ o (.s t::.b b::KP::bH y) [(.b b,.row T k (l.set i s))]:=by
 intro σ' a w Q ⟨ρ,h⟩ h1 _ K hK;have ht':=(h1 (.s t) (by simp)).trans ht;have hb':=(h1 (.b b) (by simp)).trans hb;have hKP':=h1 KP (by simp);have hy':=(cR (σ':=σ') (x:=y) fun q hq=>h1 q (by simp[hq])).trans hy;have hr0:=h.row b T k l hb';have hcap:0<(ρ b).2:=Nat.lt_of_lt_of_le (by omega) hr0.1.1;have hlv:live σ' ρ b:=(jI hb').2 hcap;obtain⟨cs,sp,hcs,hch,hlen,hpl⟩:=hr0.2 hcap;obtain⟨s0,hs0⟩:∃ s0,l[i]?=some s0:=⟨l[i],List.getElem?_eq_getElem hi⟩
 obtain⟨pre,p,post,v,rfl,k2,k3,_,_,k6⟩:=hch.at (o:=i*k.getD 1) (c:=(k,s0)) (by rw[aEk hk0,hs0]; rfl);have hs:=h.opd hy';obtain⟨p',hp'⟩:=mG hk hs;have hlen':p'.length=p.length:=by rw[hp'.length,k3.length]
 have hev:a.eval (.tmp t)=.pointer (some ⟨(ρ b).1,pre.length,none⟩):=by rw[k2,<- hoff]; exact h.slt t _ ht'
 have hwarm:=fun j hj=>hcs.warm j hj;obtain⟨fr,hcs,hfr⟩:=hcs;rw[show pre++p++post++sp=pre++p++(post++sp) by simp] at hcs hwarm hfr;have hr:(execOp a.eval o).run P w=.ok .skip (w.setCells (ρ b).1 pre.length p'):=by
  have hst:=run_storeCells_cells (P:=P) (ρ b).1 pre.length p' 0 w (fun j hj=>by
    rw[Nat.add_zero,sY hcs j p[j] (List.getElem?_eq_getElem (by omega))]; rfl) (fun j hj=>hwarm _ (by simp only[List.length_append]; omega)) hp'.one
  rw[Nat.add_zero] at hst;cases hq:P.info? ty with
  | none=>simp[hq] at hsz
  | some inf =>
   have e1:inf.size=k.getD 1:=by simpa[hq] using hsz
   have e2:(a.eval y).cells.size=inf.size:=by rw[hp'.cells,e1,<- hp'.length]; simp
   simp[execOp,ho,hev,Instr.storeAt,Instr.sureAddr,storeVar,sizeOf,typeInfo,hq,hp'.cells,hst];rw[show p'.length=inf.size by rw[e1,hp'.length]]
 have hnew:=k6 (k,s) _ p' rfl hp' hs;rw[aJx hk0] at hnew;unfold Oper.wp;rw[hr,Oper.upon_skip,hd];refine hK _ _ ⟨ρ,h.sto hlv (by simp) ((jI kM).2 hcap) (fun e=>by subst e; cases hbK) (os_setCells ..) (nU ..) (nV ..) (lC ..) (fun j hj=>mD _ _ _ _ j hj) (fun T ch e=>by cases e) ?_ ?_⟩
 ·intro T1 k1 l1 e;injection e with e1 e2 e3;subst e1; subst e2; subst e3;refine⟨⟨by rw[List.length_set]; exact hr0.1.1,hr0.1.2.1,?_⟩,fun _=>⟨pre++p'++post,sp,?_,hnew,?_,fun q c hc=>?_⟩⟩
  ·rw[List.flatMap_eq_nil_iff];intro s1 h5;rcases List.mem_or_eq_of_mem_set h5 with h7 | h7
   ·exact List.flatMap_eq_nil_iff.1 hr0.1.2.2 s1 h7
   ·rw[h7,hpt]
  ·rw[show pre++p'++post++sp=pre++p'++(post++sp) by simp];exact⟨fr,oY _ T p' p pre (post++sp) w hlen' hcs,fun j hj=>hfr j (by simp only[List.length_append] at hj |-; omega)⟩
  ·rw[<- hlen]; simp[hlen']
  ·rw[show pre++p'++post++sp=pre++(p'++(post++sp)) by simp,List.mem_append,List.mem_append] at hc;rcases hc with hc | hc | hc
   ·exact hpl q c (by simp[hc])
   ·rcases hp with hp | hp
    ·exact yU hp hs c (by rw[hp'.cells]; simpa using hc)
    ·exact absurd (eU.1 (hKP' ▸ hp)) q
   ·refine hpl q c ?_;rw[List.mem_append] at hc;rcases hc with hc | hc<;>simp[hc]
 ·intro q hq; cases hq
theorem mY {d t b m:Nat} {ty e:TypeId} (hu:P.underlying ty=some (.slice e)) (ho:o.op=.call ⟨.builtin .len,#[.tmp t],#[ty]⟩:=by exact rfl) (hd:o.dst=some d:=by exact rfl) (hn:d<n:=by exact bd) (ht:σ (.s t)=.av (.one (.sl b m)):=by exact rfl):aN P cx n σ o [.s t] [(.s d,.av (.one (.v (.int .i64 (m:Int)))))]:=by
 refine fE hd hn rfl fun σ' ρ a w h hk=>⟨_,?_,rfl⟩
 obtain⟨a0,hv,_⟩:=h.slt t _ ((hk (.s t) (by simp)).trans ht);have e1:a.eval (.tmp t)=.slice a0 m (ρ b).2:=hv;simp[execOp,ho,resolve,invoke,e1,builtin,Builtin.len_,run_underlying hu,goInt]
theorem aDj (z:List Value):∀ c,(madeCells z.toArray (c*z.length)).toList=(List.replicate c z).flatten
 | 0=>by simp[madeCells]
 | c+1=>by
  have ih:=aDj z c;rw[List.replicate_succ,List.flatten_cons,<- ih];by_cases hz:z.length=0
  ·obtain rfl:=List.eq_nil_of_length_eq_zero hz;simp[madeCells]
  ·have h1:(c+1)*z.length=z.length+c*z.length:=by rw[Nat.succ_mul]; omega
   rw[h1];simp only[madeCells,Array.toList_map,Array.toList_range,List.range_add,List.map_append,List.map_map];congr 1
   ·apply List.ext_getElem (by simp);intro i h2 h3;simp only[List.length_map,List.length_range] at h2;simp[Nat.mod_eq_of_lt h2,h2]
   ·apply List.map_congr_left;intro i _;simp
theorem aJ4 {L:Nat->Prop} {ρ:aR} {w:World} {k:Option Nat} {z:Value} {zc:List Value} (hz:Shaped k z zc):∀ m,bZ (D:=D) L ρ w (dB k (List.replicate m (.v z))) (List.replicate m zc).flatten
 | 0=>rfl
 | m+1=>⟨zc,(List.replicate m zc).flatten,z,by rw[List.replicate_succ,List.flatten_cons],hz,rfl,aJ4 hz m⟩
theorem aLa {z:List Value} {m:Nat} {c:Value} (h:c∈(List.replicate m z).flatten):c∈z:=by
 obtain⟨l,h1,h2⟩:=List.mem_flatten.1 h;rwa[(List.mem_replicate.1 h1).2] at h2
theorem xI {d r m c by_:Nat} {x y:Operand} {ty e:TypeId} {z:Value} {k:Option Nat} {sz:Nat} (hmc:m<=c) (hc:c*by_<=140737488355328) (hc2:c<=4611686018427387904) (hu:P.underlying ty=some (.slice e)) (hinfo:(P.info? e).map (fun i=>(i.zero,i.size,i.bytes))=some (some z,sz,by_)) (hk:(SA.v z:SA D).kind=some k:=by exact rfl) (hsz:sz=k.getD 1:=by exact rfl) (ho:o.op=.makeSlice ty x y:=by exact rfl) (hd:o.dst=some d:=by exact rfl) (hn:d<n:=by exact bd) (hx:opd σ x=.av (.one (.v (.int .i64 (m:Int)))):=by exact rfl) (hy:opd σ y=.av (.one (.v (.int .i64 (c:Int)))):=by exact rfl) (hr:σ (.b r)=.no:=by exact rfl) (hp:(SA.v z:SA D).plain=true:=by exact rfl) (hrK:Nat.beq r 1000000=false:=by exact rfl) :
  aN P cx n σ o (bH x++bH y) [(.s d,.av (.one (.sl r m))),(.b r,.row e k (List.replicate m (.v z)))]:=by
 intro σ' a w Q ⟨ρ,h⟩ h1 h2 K hK;have e1:a.eval x=.int .i64 (m:Int):=h.opd ((cR fun q hq=>h1 q (by simp[hq])).trans hx);have e2:a.eval y=.int .i64 (c:Int):=h.opd ((cR fun q hq=>h1 q (by simp[hq])).trans hy);obtain⟨zc,hzc⟩:=mG (L:=fun _=>False) (ρ:=ρ) (w:=w) hk (v:=z) rfl;cases hie:P.info? e with
 | none=>rw[hie] at hinfo; cases hinfo
 | some ie =>
  rw[hie] at hinfo;simp only[Option.map_some,Option.some.injEq,Prod.mk.injEq] at hinfo;obtain⟨i1,i2,i3⟩:=hinfo;have hrun:=run_make (P:=P) w ty e ie z hu hie i1 .i64 .i64 (m:Int) (c:Int) (by omega) (by omega) (by have hh:=Int.ofNat_le.2 (show c*by_<=281474976710656 by omega); rw[Int.natCast_mul] at hh; rw[i3,Int.mul_comm]; exact hh) (by omega);rw[Int.toNat_natCast,Int.toNat_natCast,hzc.cells,i2,hsz,<- hzc.length] at hrun;unfold Oper.wp;simp only[execOp,ho,e1,e2,Sem.run_bind,hrun,Result.andThen_ok,Sem.run_pure,Oper.upon_value];rw[hd];have hcells:madeCells zc.toArray (c*zc.length)=((List.replicate m zc).flatten++(List.replicate (c-m) zc).flatten).toArray:=by
   rw[<- List.flatten_append,List.replicate_append_replicate,show m+(c-m)=c by omega,<- aDj]
  rw[hcells];refine hK _ _ (h.new (c:=c) ((Below.refl _ _).alloc (Nat.le_refl _) _) hn ((h2 (.b r) (by simp[keys])).trans hr) (fun e=>by subst e; cases hrK) (by simp) (Nat.le_refl _) (fun ρ' hρ=>⟨some ⟨w.heap.size,0,none⟩,by rw[hρ],fun _=>by rw[hρ]⟩) (fun b hb=>by simpa[AV.ptrs,SA.ptrs] using hb)
   (fun T ch e=>by cases e) ?_ ?_ (fun _ _ _ _ _ q=>q))
  ·intro T1 k1 l1 e;injection e with e1 e2 e3;subst e1; subst e2; subst e3;refine⟨⟨by rw[List.length_replicate]; exact hmc,by unfold maxLen; omega,by rw[List.flatMap_eq_nil_iff]; intro s hs; rw[(List.mem_replicate.1 hs).2]; rfl⟩,fun _=>⟨_,_,uN (heap_alloc_new w _),aJ4 hzc m,?_,fun _ q hq=>?_⟩⟩
   ·rw[<- List.flatten_append,List.replicate_append_replicate,show m+(c-m)=c by omega,List.length_flatten,List.map_replicate,List.sum_replicate_nat,hzc.length]
   ·rw[<- List.flatten_append,List.replicate_append_replicate] at hq;exact yU (L:=fun _=>False) (ρ:=ρ) (w:=w) hp (v:=z) rfl q (by rw[hzc.cells]; simpa using aLa hq)
  ·intro b hb; cases hb
end
section
variable {D:Type} [bO D] {P:Program} {cx:Cx D} {n:Nat} {σ:St D} {o:Oper}
theorem Conc.grow {ρ:aR} {a:Act} {w w':World} {r r' d g c m:Nat} {T:TypeId} {k:Option Nat} {l l':List (SA D)} {q:XV D} {v:Value} (h:Conc cx n ρ σ a w) (hr:σ (.b r)=.row T k l) (hr':σ (.b r')=.no) (hd:d<n) (hrK:r≠1000000) (hrK':r'≠1000000)
  (hos:w'.os=w.os) (htape:w'.tape=w.tape) (hout:w'.output=w.output) (hsize:w.heap.size<=w'.heap.size) (hblk:∀ b,b<w.heap.size->¬ (g=b/\ρ r=(g,c)/\0<c)->w'.heap[b]?=w.heap[b]?)
  (hg:(ρ r=(g,c)/\0<c)\/w.heap.size<=g) (hv:∃ a0,v=.slice a0 m c/\(0<c->a0=some ⟨g,0,none⟩)) (hl:l'.length<=c/\c<=maxLen)
  (hrow:0<c->∃ cs sp:List Value,fB w' g (cs++sp) T/\bZ (aT cx σ ρ) ρ w (dB k l') cs/\(cs++sp).length=c*k.getD 1/\(r' ∉ bR q->∀ c∈cs++sp,cZ c=true))
  (hp:l'.flatMap SA.ptrs=[]) (hq0:q.ptrs=[]) (hqn:∀ T ch,q≠.blk T ch) (hqr:∀ T k l,q≠.row T k l) (hqK:σ KP≠.no->q≠.no) (hnp:∀ i,i≠r->i≠r'->i ∉ bR q->i ∉ bR (σ KP)) :
  CC cx n (upd σ [(.s d,.av (.one (.sl r' m))),(.b r',.row T k l'),(.b r,.dead),(KP,q)]) (a.put (some d) v) w':=by
 obtain⟨ρ',hρ⟩:∃ ρ':aR,ρ'=fun j=>if j=r' then (g,c) else ρ j:=⟨_,rfl⟩
 have hρi:ρ' r'=(g,c):=by rw[hρ]; simp
 have hρo:∀ j,j≠r'->ρ' j=ρ j:=fun j hj=>by rw[hρ]; simp[hj]
 have hne0:r≠r':=fun e=>by rw[e,hr'] at hr; cases hr
 obtain⟨σ',hσ⟩:∃ σ',σ'=upd σ [(.s d,.av (.one (.sl r' m))),(.b r',.row T k l'),(.b r,.dead),(KP,q)]:=⟨_,rfl⟩
 have k1:σ' (.s d)=.av (.one (.sl r' m)):=by rw[hσ]; show (bif Key.beq (.s d) (.s d) then _ else _)=_; rw[iE]; rfl
 have k2:σ' (.b r')=.row T k l':=by rw[hσ]; show (bif Key.beq (.b r') (.b r') then _ else _)=_; rw[iE]; rfl
 have k4:σ' (.b r)=.dead:=by
  rw[hσ];show (bif Key.beq (.b r') (.b r) then _ else bif Key.beq (.b r) (.b r) then _ else _)=_;rw[iG (by simpa using fun e=>hne0 e.symm),iE]; rfl
 have k5:σ' KP=q:=by
  rw[hσ];show (bif Key.beq (.b r') KP then _ else bif Key.beq (.b r) KP then _ else bif Key.beq KP KP then _ else _)=_;rw[iG (by simpa[KP] using hrK'),iG (by simpa[KP] using hrK),iE]; rfl
 have k3:∀ k,k≠.s d->k≠.b r'->k≠.b r->k≠KP->σ' k=σ k:=fun k h1 h2 h3 h4=>by rw[hσ]; exact lI (by simp[keys,h1,h2,h3,h4])
 have kb:∀ j,j≠r'->j≠r->j≠1000000->σ' (.b j)=σ (.b j):=fun j h1 h2 h3=>k3 _ (by simp) (by simpa using h1) (by simpa using h2) (by simpa[KP] using h3);rw[<- hσ];have hKl:∀ ρ:aR,¬ live σ' ρ 1000000:=by
  intro ρ hl;rcases gH hl with ⟨T,ch,e⟩ | ⟨T,k,l,e,_⟩
  ·exact hqn T ch (k5.symm.trans e)
  ·exact hqr T k l (k5.symm.trans e)
 have hrl:∀ ρ:aR,¬ live σ' ρ r:=by
  intro ρ hl;rcases gH hl with ⟨T,ch,e⟩ | ⟨T,k,l,e,_⟩<;>rw[k4] at e<;>cases e
 have hlive:∀ j,j≠r'->live σ' ρ' j->live σ ρ j/\j≠r/\j≠1000000:=by
  intro j h1 hl;have h2:j≠r:=fun e=>hrl ρ' (e ▸ hl);have h3:j≠1000000:=fun e=>hKl ρ' (e ▸ hl);exact⟨(fY (kb j h1 h2 h3) (hρo j h1)).1 hl,h2,h3⟩
 have hlr:0<c->ρ r=(g,c)->live σ ρ r:=fun h0 e=>(jI hr).2 (by rw[e]; exact h0);have hρ2:∀ i,σ (.b i)≠.no->ρ' i=ρ i:=fun i hi=>hρo i fun e=>by rw[e] at hi; exact hi hr'
 have hL:∀ b,b<w.heap.size->aT cx σ' ρ' b->aT cx σ ρ b:=by
  rintro b hbs (hL | ⟨j,h1,h2⟩)
  ·exact .inl hL
  ·by_cases e:j=r'
   ·subst e;rw[hρi] at h2;simp only at h2;have hc0:0<c:=by have:=(jI k2).1 h1; rw[hρi] at this; exact this
    rcases hg with ⟨hg1,hg2⟩ | hg
    ·exact .inr ⟨r,hlr hc0 hg1,by rw[hg1]; exact h2⟩
    ·omega
   ·exact .inr ⟨j,(hlive j e h1).1,by rw[<- hρo j e]; exact h2⟩
 have hM:∀ b,(g=b/\ρ r=(g,c)/\0<c)->∃ i,live σ ρ i/\(ρ i).1=b:=fun b ⟨e1,e2,e3⟩=>⟨r,hlr e3 e2,by rw[e2]; exact e1⟩
 have g2:Goes (aT cx σ ρ) w (aT cx σ' ρ') w':=by
  intro w'' hw;refine⟨Nat.le_trans hsize hw.1,fun b hbs hnL=>?_⟩;exact(hw.2 b (Nat.lt_of_lt_of_le hbs hsize) fun q=>hnL (hL b hbs q)).trans (hblk b hbs fun hm=>hnL (.inr (hM b hm)))
 refine⟨ρ',h.step (fun b=>g=b/\ρ r=(g,c)/\0<c) (fun k=>k=.s d\/k=.b r'\/k=.b r\/k=KP) (by rw[Pu.size_put]; exact h.size) (by rw[Pu.tE]; exact h.defers) hos htape hout hsize hblk hM
  (fun k hk=>k3 k (fun q=>hk (.inl q)) (fun q=>hk (.inr (.inl q))) (fun q=>hk (.inr (.inr (.inl q)))) (fun q=>hk (.inr (.inr (.inr q))))) hρ2 ?_ hL ?_ ?_ ?_ ?_ ?_ ?_ ?_ ?_ ?_⟩
 ·rintro i hi ⟨e1,e2,e3⟩;have:i=r:=h.inj i r hi (hlr e3 e2) (by rw[e2]; exact e1.symm);exact .inr (.inr (.inl (by rw[this])))
 ·rintro i (q | q | q | q) hi
  ·cases q
  ·injection q with q;subst q;rw[hρi];have hc0:0<c:=by have:=(jI k2).1 hi; rw[hρi] at this; exact this
   rcases hg with ⟨hg1,hg2⟩ | hg
   ·have:=h.mine r (hlr hc0 hg1); rw[hg1] at this; exact this
   ·exact .inl (Nat.le_trans h.kept.size hg)
  ·injection q with q; subst q; exact absurd hi (hrl _)
  ·injection q with q; subst q; exact absurd hi (hKl _)
 ·rintro i T1 ch (q | q | q | q) hi
  ·cases q
  ·injection q with q; subst q; rw[k2] at hi; cases hi
  ·injection q with q; subst q; rw[k4] at hi; cases hi
  ·injection q with q; subst q; exact absurd ((show σ' KP=_ from hi).symm.trans k5).symm (hqn _ _)
 ·rintro i T1 k1' l1 (q | q | q | q) hi
  ·cases q
  ·injection q with q;subst q;rw[k2] at hi;injection hi with e1 e2 e3;subst e1; subst e2; subst e3;refine⟨by rw[hρi]; exact⟨hl.1,hl.2,hp⟩,fun hc=>?_⟩;rw[hρi] at hc |-;obtain⟨cs,sp,e3,e4,e5,e7⟩:=hrow hc;exact⟨cs,sp,e3,e4.go g2 (fun b hb'=>by rw[uE,hp] at hb'; cases hb'),e5,fun q=>e7 (by rw[k5] at q; exact q)⟩
  ·injection q with q; subst q; rw[k4] at hi; cases hi
  ·injection q with q; subst q; exact absurd ((show σ' KP=_ from hi).symm.trans k5).symm (hqr _ _ _)
 ·intro i hi q;rw[k5] at q;exact hnp i (fun e=>hi (.inr (.inr (.inl (by rw[e]))))) (fun e=>hi (.inr (.inl (by rw[e])))) q
 ·intro i j hi hj he;by_cases e1:i=r'
  ·by_cases e2:j=r'
   ·rw[e1,e2]
   ·obtain⟨q1,q2,_⟩:=hlive j e2 hj;rw[e1,hρi,hρo j e2] at he;simp only at he;have hc0:0<c:=by have:=(jI k2).1 (e1 ▸ hi); rw[hρi] at this; exact this
    rcases hg with ⟨hg1,hg2⟩ | hg
    ·exact absurd (h.inj j r q1 (hlr hc0 hg1) (by rw[hg1]; exact he.symm)) q2
    ·have:=h.lt q1; omega
  ·obtain⟨p1,p2,_⟩:=hlive i e1 hi;by_cases e2:j=r'
   ·rw[e2,hρi,hρo i e1] at he;simp only at he;have hc0:0<c:=by have:=(jI k2).1 (e2 ▸ hj); rw[hρi] at this; exact this
    rcases hg with ⟨hg1,hg2⟩ | hg
    ·exact absurd (h.inj i r p1 (hlr hc0 hg1) (by rw[hg1]; exact he)) p2
    ·have:=h.lt p1; omega
   ·obtain⟨q1,_,_⟩:=hlive j e2 hj;rw[hρo i e1,hρo j e2] at he;exact h.inj i j p1 q1 he
 ·rintro t av (q | q | q | q) ht
  ·injection q with q;subst q;rw[k1] at ht;obtain rfl:=(XV.av.injEq _ _).mp ht;rw[jK hd h.size,if_pos rfl];obtain⟨a0,h1,h2⟩:=hv;exact⟨a0,by rw[hρi]; exact h1,by rw[hρi]; exact h2⟩
  ·cases q
  ·cases q
  ·cases q
 ·intro t ht;rw[jK hd h.size,if_neg (fun e=>ht (.inl (by rw[e])))]
 ·rintro k b (q | q | q | q) hb'
  ·subst q;rw[k1] at hb';obtain rfl:b=r':=by simpa[XV.ptrs,AV.ptrs,SA.ptrs] using hb'
   rw[k2]; simp
  ·subst q;rw[k2] at hb';cases hb'
  ·subst q; rw[k4] at hb'; cases hb'
  ·subst q; rw[k5,hq0] at hb'; cases hb'
 ·intro i hi;by_cases e1:i=r'
  ·rw[e1,k2]; simp
  ·by_cases e2:i=r
   ·rw[e2,k4]; simp
   ·by_cases e3:i=1000000
    ·subst e3;rw[show σ' (.b 1000000)=q from k5];exact hqK hi
    ·rw[kb i e1 e2 e3]; exact hi
def yD (s:SA D) (k:Option Nat) (xs:List (SA D)):Prop:=s.ptrs=[]/\xs.flatMap SA.ptrs=[]/\∀ L ρ w v,s.is L ρ w v->∃ ao c,v=.slice ao xs.length c/\(0<xs.length->∃ b off,ao=some ⟨b,off,none⟩/\∃ cs:List Value,(∀ j u,cs[j]?=some u->w.cell? ⟨b,off+j,none⟩=some u)/\bZ L ρ w (dB k xs) cs)
theorem aPm (w:World) (t ty e:TypeId) (i:TypeInfo) (ht:P.underlying t=some (.slice e)) (hi:P.info? e=some i) (base ao:Option Addr) (n cap c:Nat) (hn:n<=cap) :
  (Builtin.append_ #[t,t] ty #[.slice base n cap,.slice ao 0 c]).run P w=.ok (.slice base n cap) w:=by
 have h0:(Builtin.firstCells i.size 0 (.slice ao 0 c)).run P w=.ok #[] w:=by
  cases ao with
  | none=>rfl
  | some a=>exact run_firstCells_some (P:=P) w i.size 0 a 0 c [] (by simp) (by simp)
 cases base<;>simp[Builtin.append_,run_underlying ht,sizeOf,typeInfo,hi,Builtin.lenOf,h0,hn,storeCells]
theorem aPn (w:World) (t ty e:TypeId) (i:TypeInfo) (ht:P.underlying t=some (.slice e)) (hi:P.info? e=some i) (g sLen sCap:Nat) (cur:List Value) (hg:fB w g cur e)
  (a:Addr) (m c:Nat) (news:List Value) (hl:news.length=m*i.size) (hnews:∀ j u,news[j]?=some u->w.cell? (a.add j)=some u) (h1:∀ u∈news,u.oneCell'=true) (hroom:sLen+m<=sCap) (hfit:sLen*i.size+news.length<=cur.length) :
  (Builtin.append_ #[t,t] ty #[.slice (some ⟨g,0,none⟩) sLen sCap,.slice (some a) m c]).run P w=.ok (.slice (some ⟨g,0,none⟩) (sLen+m) sCap) (w.setCells g (sLen*i.size) news):=by
 have hf:=run_firstCells_some (P:=P) w i.size m a m c news hl hnews;have hst:=run_storeCells_cells (P:=P) g (sLen*i.size) news 0 w (fun j hj=>by rw[hg.cell,List.getElem?_eq_getElem (by omega)]; rfl) (fun j hj=>hg.warm _ (by omega)) h1;simp only[Nat.add_zero] at hst;have ha:(⟨g,0,none⟩:Addr).add (sLen*i.size)=⟨g,sLen*i.size,none⟩:=by rw[Addr.add_lit,Nat.zero_add]
 simp[Builtin.append_,run_underlying ht,sizeOf,typeInfo,hi,Builtin.lenOf,hroom,hf,ha,hst]
theorem aCp {ρ:aR} {a:Act} {w:World} {t r m by_:Nat} {y:Operand} {ty rty e:TypeId} {z:Value} {k:Option Nat} {sz:Nat} {s:SA D} {l xs:List (SA D)} (h:Conc cx n ρ σ a w) (hE:yD s k xs) (hlen:(l.length+xs.length)*by_<=140737488355328) (hle:l.length+xs.length<=4611686018427387904)
  (hu:P.underlying ty=some (.slice e)) (hinfo:(P.info? e).map (fun i=>(i.zero,i.size,i.bytes))=some (some z,sz,by_)) (hk:(SA.v z:SA D).kind=some k) (hsz:sz=k.getD 1)
  (ht:σ (.s t)=.av (.one (.sl r m))) (hm:m=l.length) (hr:σ (.b r)=.row e k l) (hy:opd σ y=.av (.one s)) :
  ∃ g c v w',(Builtin.append_ #[ty,ty] rty #[a.eval (.tmp t),a.eval y]).run P w=.ok v w'/\w'.os=w.os/\w'.tape=w.tape/\w'.output=w.output/\w.heap.size<=w'.heap.size/\(∀ b,b<w.heap.size->¬ (g=b/\ρ r=(g,c)/\0<c)->w'.heap[b]?=w.heap[b]?) /\
   ((ρ r=(g,c)/\0<c)\/w.heap.size<=g)/\(∃ a0,v=.slice a0 (m+xs.length) c/\(0<c->a0=some ⟨g,0,none⟩))/\((l++xs).length<=c/\c<=maxLen) /\
   (0<c->g<w'.heap.size/\∃ cs sp:List Value,fB w' g (cs++sp) e/\bZ (aT cx σ ρ) ρ w (dB k (l++xs)) cs/\(cs++sp).length=c*k.getD 1/\((r ∉ bR (σ KP))->(∀ x∈xs,x.plain=true)->(SA.v z:SA D).plain=true->∀ c∈cs++sp,cZ c=true)):=by
 subst hm;obtain⟨_,hxp,hEl⟩:=hE;obtain⟨a0,e1,e2⟩:=h.slt t _ ht;have e1:a.eval (.tmp t)=.slice a0 l.length (ρ r).2:=e1;obtain⟨ao,cy,e3,e4⟩:=hEl _ _ _ _ (h.opd hy);have hr0:=h.row r e k l hr;cases hie:P.info? e with
 | none=>rw[hie] at hinfo; cases hinfo
 | some ie =>
  rw[hie] at hinfo;simp only[Option.map_some,Option.some.injEq,Prod.mk.injEq] at hinfo;obtain⟨i1,i2,i3⟩:=hinfo;have hsk:ie.size=k.getD 1:=i2.trans hsz;obtain⟨zc,hzc⟩:=mG (L:=fun _=>False) (ρ:=ρ) (w:=w) hk (v:=z) rfl;have hzone:∀ q:Nat,∀ x∈(Builtin.zeroCells z.cells q).toList,(SA.v z:SA D).plain=true->cZ x=true:=by
   intro q x hx hzp;have hfl:(Builtin.zeroCells z.cells q).toList=(List.replicate q zc).flatten:=by rw[hzc.cells]; exact aDj zc q
   rw[hfl] at hx;have hx':=aLa hx;exact yU (L:=fun _=>False) (ρ:=ρ) (w:=w) hzp (v:=z) rfl x (by rw[hzc.cells]; simpa using hx')
  have hzl:∀ q,(Builtin.zeroCells z.cells q).toList.length=q*k.getD 1:=by
   intro q;rw[Array.length_toList,size_zeroCells,hzc.cells];simp[hzc.length]
  rw[e1,e3];by_cases hx0:xs.length=0
  ·-- nothing is appended
   obtain rfl:=List.eq_nil_of_length_eq_zero hx0;refine⟨if 0<(ρ r).2 then (ρ r).1 else w.heap.size,(ρ r).2,_,w,aPm w ty rty e ie hu hie a0 ao l.length (ρ r).2 cy hr0.1.1,rfl,rfl,rfl,Nat.le_refl _,fun _ _ _=>rfl,?_,⟨a0,by simp,fun hc=>by rw[e2 hc,if_pos hc]⟩,⟨by simpa using hr0.1.1,hr0.1.2.1⟩,fun hc=>?_⟩
   ·by_cases hc:0<(ρ r).2
    ·exact .inl ⟨by rw[if_pos hc],hc⟩
    ·exact .inr (by rw[if_neg hc]; exact Nat.le_refl _)
   ·rw[if_pos hc];obtain⟨cs,sp,q1,q2,q3,q5⟩:=hr0.2 hc;exact⟨q1.lt,cs,sp,q1,by rw[List.append_nil]; exact q2,q3,fun hn _ _=>q5 hn⟩
  ·obtain⟨b,off,rfl,news,hnews,hchs⟩:=e4 (by omega);have hnl:news.length=xs.length*ie.size:=by rw[hchs.length,hsk]
   have hnews':∀ j u,news[j]?=some u->w.cell? ((⟨b,off,none⟩:Addr).add j)=some u:=fun j u hj=>by rw[Addr.add_lit]; exact hnews j u hj
   have hnplain:(∀ x∈xs,x.plain=true)->∀ c∈news,cZ c=true:=fun hp=>hchs.plain (by
    simp only[gV,dB,List.all_map,List.all_eq_true];exact fun x hx=>hp x hx)
   by_cases hc:0<(ρ r).2
   ·obtain⟨cs,sp,q1,q2,q3,q5⟩:=hr0.2 hc;rw[e2 hc];have hcl:cs.length=l.length*ie.size:=by rw[q2.length,hsk]
    by_cases hroom:l.length+xs.length<=(ρ r).2
    ·-- in place
     have hspl:news.length<=sp.length:=by
      rw[List.length_append,<- hsk] at q3;rw[hnl];have:=Nat.mul_le_mul_right ie.size hroom;rw[Nat.add_mul] at this;omega
     have hrun:=aPn (P:=P) w ty rty e ie hu hie (ρ r).1 l.length (ρ r).2 _ q1 ⟨b,off,none⟩ xs.length cy news hnl hnews' hchs.one hroom (by simp; omega);obtain⟨fr,q1,hfr⟩:=q1;obtain⟨np,post,hsp,hnl2⟩:∃ np post:List Value,sp=np++post/\np.length=news.length:=⟨sp.take news.length,sp.drop news.length,(List.take_append_drop _ _).symm,by rw[List.length_take]; omega⟩
     have hset:=oY (ρ r).1 e news np cs post w hnl2.symm (by rw[List.append_assoc,<- hsp]; exact q1);refine⟨(ρ r).1,(ρ r).2,_,_,hrun,os_setCells ..,nU ..,nV ..,by rw[lC]; exact Nat.le_refl _,fun q hq hn=>mD _ _ _ _ q fun e=>hn ⟨e.symm,rfl,hc⟩,.inl ⟨rfl,hc⟩,⟨_,rfl,fun _=>rfl⟩,⟨by rw[List.length_append]; exact hroom,hr0.1.2.1⟩,fun _=>⟨by rw[lC]; exact(Array.getElem?_eq_some_iff.1 q1).1,cs++news,post,⟨fr,by rw[hcl] at hset; exact hset,fun j hj=>hfr j (by rw[hsp]; simp only[List.length_append] at hj |-; omega)⟩,bZ.append hchs q2,?_,fun hn hp hz x hx=>?_⟩⟩
     ·rw[<- q3,hsp];simp only[List.length_append];omega
     ·rw[List.append_assoc,List.mem_append,List.mem_append] at hx;rcases hx with hx | hx | hx
      ·exact q5 hn x (by simp[hx])
      ·exact hnplain hp x hx
      ·exact q5 hn x (by rw[hsp]; simp[hx])
    ·-- a new row
     have hrun:=run_append_grow (P:=P) w ty rty e ie z hu hie i1 ⟨(ρ r).1,0,none⟩ l.length (ρ r).2 cs hcl (fun j u hj=>by
      rw[Addr.add_lit,Nat.zero_add,q1.cell,List.getElem?_append_left (List.getElem?_eq_some_iff.1 hj).1];exact hj) ⟨b,off,none⟩ xs.length cy news hnl hnews' (by omega) (by omega) (by rw[i3]; exact growslice_fits (by omega) hlen)
     have hge:=grownCap_ge w (l.length+xs.length) (ρ r).2 e;refine⟨w.heap.size,_,_,_,hrun,rfl,rfl,rfl,by simp,fun q hq _=>heap_alloc_old w.drew _ hq,.inr (Nat.le_refl _),⟨_,rfl,fun _=>rfl⟩,⟨by rw[List.length_append]; exact hge,grownCap_le_maxLen w _ _ e (by unfold maxLen; omega)⟩,fun _=>⟨by simp,cs++news,(Builtin.zeroCells z.cells (grownCap w (l.length+xs.length) (ρ r).2 e-(l.length+xs.length))).toList,?_,bZ.append hchs q2,?_,fun hn hp hz x hx=>?_⟩⟩
     ·rw[show cs.toArray++news.toArray++Builtin.zeroCells z.cells (grownCap w (l.length+xs.length) (ρ r).2 e-(l.length+xs.length))=(cs++news++(Builtin.zeroCells z.cells (grownCap w (l.length+xs.length) (ρ r).2 e-(l.length+xs.length))).toList).toArray from Array.ext' (by simp)];exact uN (heap_alloc_new w.drew _)
     ·rw[List.length_append,hzl,List.length_append,hcl,hnl,hsk,<- Nat.add_mul,<- Nat.add_mul];congr 1;omega
     ·rw[List.append_assoc,List.mem_append,List.mem_append] at hx;rcases hx with hx | hx | hx
      ·exact q5 hn x (by simp[hx])
      ·exact hnplain hp x hx
      ·exact hzone _ x hx hz
   ·have hl0:l=[]:=List.eq_nil_of_length_eq_zero (by have:=hr0.1.1; omega);subst hl0;have hc0:(ρ r).2=0:=by omega
    have hge:=grownCap_ge w (xs.length) 0 e;have key:(Builtin.append_ #[ty,ty] rty #[.slice a0 0 0,.slice (some ⟨b,off,none⟩) xs.length cy]).run P w=.ok (.slice (some ⟨w.heap.size,0,none⟩) xs.length (grownCap w xs.length 0 e)) (w.drew.alloc (.cells (news.toArray++Builtin.zeroCells z.cells (grownCap w xs.length 0 e-xs.length)) e)):=by
     cases a0 with
     | none=>exact run_append_nil (P:=P) w ty rty e ie z hu hie i1 ⟨b,off,none⟩ xs.length cy news hnl hnews' (by omega) (by omega) (by rw[i3]; simp only[List.length_nil,Nat.zero_add] at hlen; omega)
     | some ad =>
      have:=run_append_grow (P:=P) w ty rty e ie z hu hie i1 ad 0 0 [] (by simp) (by simp) ⟨b,off,none⟩ xs.length cy news hnl hnews' (by omega) (by omega) (by rw[i3]; exact growslice_fits (by omega) (by simpa using hlen));rw[Nat.zero_add] at this;rw[this];congr 3;simp
    rw[hc0];refine⟨w.heap.size,_,_,_,key,rfl,rfl,rfl,by simp,fun q hq _=>heap_alloc_old w.drew _ hq,.inr (Nat.le_refl _),⟨_,by simp; rfl,fun _=>rfl⟩,⟨by simpa using hge,grownCap_le_maxLen w _ _ e (by unfold maxLen; simp only[List.length_nil,Nat.zero_add] at hle; omega)⟩,fun _=>⟨by simp,news,(Builtin.zeroCells z.cells (grownCap w xs.length 0 e-xs.length)).toList,?_,by simpa using hchs,?_,fun hn hp hz x hx=>?_⟩⟩
    ·rw[show news.toArray++Builtin.zeroCells z.cells (grownCap w xs.length 0 e-xs.length)=(news++(Builtin.zeroCells z.cells (grownCap w xs.length 0 e-xs.length)).toList).toArray from Array.ext' (by simp)];exact uN (heap_alloc_new w.drew _)
    ·rw[List.length_append,hzl,hnl,hsk,<- Nat.add_mul];congr 1;omega
    ·rw[List.mem_append] at hx;rcases hx with hx | hx
     ·exact hnplain hp x hx
     ·exact hzone _ x hx hz
theorem aCo {a:Act} {w w':World} {t:Nat} {y:Operand} {ty:TypeId} {v:Value} (ho:o.op=.call ⟨.builtin .append,#[.tmp t,y],#[ty,ty]⟩) (h:(Builtin.append_ #[ty,ty] o.type #[a.eval (.tmp t),a.eval y]).run P w=.ok v w'):(execOp a.eval o).run P w=.ok (.value v) w':=by
 simp only[execOp,ho,resolve,invoke,builtin,Sem.run_bind,Sem.run_pure,Result.andThen_ok];rw[show (#[.tmp t,y]:Array Operand).map a.eval=#[a.eval (.tmp t),a.eval y] by simp,h];rfl
def oW:XV D->Bool
 | .no=>true
 | .np _=>true
 | _=>false
omit [bO D] in
theorem xR {q:XV D} (h:oW q=true):q.ptrs=[]/\(∀ T ch,q≠.blk T ch)/\∀ T k l,q≠.row T k l:=by
 cases q<;>first | (cases h; done) | exact⟨rfl,fun _ _ e=>(by cases e),fun _ _ _ e=>(by cases e)⟩
omit [bO D] in
theorem aNl {σ:St D} {x y z:XV D} {k1 k2 k3:Key}:upd σ [(k1,x),(k2,y),(k3,z),(KP,σ KP)]=upd σ [(k1,x),(k2,y),(k3,z)]:=by
 funext q
 show (bif _ then _ else bif _ then _ else bif _ then _ else bif Key.beq KP q then σ KP else σ q)=(bif _ then _ else bif _ then _ else bif _ then _ else σ q);cases hq:Key.beq KP q with
 | false=>rfl
 | true=>rw[<- rT.1 hq]; rfl
theorem iR {d t r r' m by_:Nat} {y:Operand} {ty e:TypeId} {z:Value} {k:Option Nat} {sz:Nat} {s:SA D} {l xs:List (SA D)} (hE:yD s k xs) (hlen:(l.length+xs.length)*by_<=140737488355328) (hle:l.length+xs.length<=4611686018427387904)
  (hu:P.underlying ty=some (.slice e)) (hinfo:(P.info? e).map (fun i=>(i.zero,i.size,i.bytes))=some (some z,sz,by_)) (hk:(SA.v z:SA D).kind=some k) (hsz:sz=k.getD 1) (hzp:(SA.v z:SA D).plain=true)
  (hxp:∀ x∈xs,x.plain=true) (hm:m=l.length) (ho:o.op=.call ⟨.builtin .append,#[.tmp t,y],#[ty,ty]⟩) (hd:o.dst=some d) (hn:d<n) (ht:σ (.s t)=.av (.one (.sl r m))) (hr:σ (.b r)=.row e k l) (hr':σ (.b r')=.no)
  (hy:opd σ y=.av (.one s)) (hnp:fK r (bR (σ KP))=false) (hkp:oW (σ KP)=true) (hrK:Nat.beq r 1000000=false) (hrK':Nat.beq r' 1000000=false) :
  aN P cx n σ o (KP::.s t::.b r::bH y) [(.s d,.av (.one (.sl r' (m+xs.length)))),(.b r',.row e k (l++xs)),(.b r,.dead)]:=by
 intro σ' a w Q ⟨ρ,h⟩ h1 h2 K hK;have ht':=(h1 (.s t) (by simp)).trans ht;have hrr:=(h1 (.b r) (by simp)).trans hr;have hKP:=h1 KP (by simp);have hr1:=(h2 (.b r') (by simp[keys])).trans hr';have hy':=(cR (σ':=σ') (x:=y) fun q hq=>h1 q (by simp[hq])).trans hy;have hnp':r ∉ bR (σ' KP):=fun q=>by rw[hKP] at q; rw[eU.2 q] at hnp; cases hnp
 obtain⟨g,c,v,w',q1,q2,q3,q4,q5,q6,q7,q8,q9,q10⟩:=aCp (rty:=o.type) h hE hlen hle hu hinfo hk hsz ht' hm hrr hy';unfold Oper.wp;rw[aCo ho q1,Oper.upon_value,hd];have hrK1:r≠1000000:=fun e=>by subst e; cases hrK
 have hrK2:r'≠1000000:=fun e=>by subst e; cases hrK'
 obtain⟨p0,pb,pr⟩:=xR hkp;have hg:=h.grow (d:=d) (m:=m+xs.length) (l':=l++xs) (q:=σ' KP) hrr hr1 hn hrK1 hrK2 q2 q3 q4 q5 q6 q7 q8 q9 (fun hc=>by
   obtain⟨_,cs,sp,p1,p2,p3,p5⟩:=q10 hc;exact⟨cs,sp,p1,p2,p3,fun _=>p5 hnp' hxp hzp⟩) (by rw[List.flatMap_append,(h.row _ _ _ _ hrr).1.2.2,hE.2.1]; rfl) (by rw[hKP]; exact p0) (by rw[hKP]; exact pb) (by rw[hKP]; exact pr) (fun hne=>hne) (fun i _ _ hi=>hi)
 rw[aNl] at hg;exact hK _ _ hg
/-! Freezing. -/
theorem Conc.froze {ρ:aR} {a:Act} {w w':World} {r d:Nat} {T:TypeId} {k:Option Nat} {l:List (SA D)} {G:D} {v:Value} (h:Conc cx n ρ σ a w) (hr:σ (.b r)=.row T k l) (hd:d<n) (hrK:r≠1000000) (hb:Below w.heap.size w w')
  (hv:∀ w'',Agree (aT cx (upd σ [(.s d,.av (.one (.d G))),(.b r,.dead)]) ρ) w' w''->bO.dat G w'' v):Conc cx n ρ (upd σ [(.s d,.av (.one (.d G))),(.b r,.dead)]) (a.put (some d) v) w':=by
 obtain⟨σ',hσ⟩:∃ σ',σ'=upd σ [(.s d,.av (.one (.d G))),(.b r,.dead)]:=⟨_,rfl⟩
 have k1:σ' (.s d)=.av (.one (.d G)):=by rw[hσ]; exact aFq
 have k2:σ' (.b r)=.dead:=by rw[hσ]; exact aA5
 have k3:∀ k,k≠.s d->k≠.b r->σ' k=σ k:=fun k h1 h2=>by rw[hσ]; exact aAj h1 h2
 have hKP:σ' KP=σ KP:=k3 _ (by simp[KP]) (by simp[KP]; omega);rw[<- hσ] at hv |-;have hrl:¬ live σ' ρ r:=by
  intro hl;rcases gH hl with ⟨T,ch,e⟩ | ⟨T,k,l,e,_⟩<;>rw[k2] at e<;>cases e
 have hlive:∀ j,live σ' ρ j->live σ ρ j:=fun j hj=>(fY (k3 _ (by simp) (by simpa using (fun (e:j=r)=>hrl (e ▸ hj)))) rfl).1 hj;have hL:∀ b,aT cx σ' ρ b->aT cx σ ρ b:=by
  rintro b (q | ⟨j,q1,q2⟩)
  ·exact .inl q
  ·exact .inr ⟨j,hlive j q1,q2⟩
 refine h.step (fun _=>False) (fun k=>k=.s d\/k=.b r) (by rw[Pu.size_put]; exact h.size) (by rw[Pu.tE]; exact h.defers) hb.os hb.tape hb.output hb.size (fun b hb' _=>hb.block b hb') (fun _ q=>q.elim)
  (fun k hk=>k3 k (fun q=>hk (.inl q)) (fun q=>hk (.inr q))) (fun _ _=>rfl) (fun _ _ q=>q.elim) (fun b _ q=>hL b q) ?_ ?_ ?_ (fun i _ q=>by rw[hKP] at q; exact q) (fun i j hi hj=>h.inj i j (hlive i hi) (hlive j hj)) ?_ ?_ ?_ ?_
 ·rintro i (q | q) hi
  ·cases q
  ·injection q with q; subst q; exact absurd hi hrl
 ·rintro i T1 ch (q | q) hi
  ·cases q
  ·injection q with q; subst q; rw[k2] at hi; cases hi
 ·rintro i T1 k1 l1 (q | q) hi
  ·cases q
  ·injection q with q; subst q; rw[k2] at hi; cases hi
 ·rintro t av (q | q) ht
  ·injection q with q;subst q;rw[k1] at ht;obtain rfl:=(XV.av.injEq _ _).mp ht;rw[jK hd h.size,if_pos rfl];exact hv
  ·cases q
 ·intro t ht;rw[jK hd h.size,if_neg (fun e=>ht (.inl (by rw[e])))]
 ·rintro k b (q | q) hb'
  ·subst q; rw[k1] at hb'; cases hb'
  ·subst q; rw[k2] at hb'; cases hb'
 ·intro i hi;by_cases e:i=r
  ·rw[e,k2]; simp
  ·rw[k3 _ (by simp) (by simpa using e)]; exact hi
theorem Conc.stays {ρ:aR} {a:Act} {w w':World} {r d:Nat} {T:TypeId} {k:Option Nat} {l:List (SA D)} {x:XV D} (h:Conc cx n ρ σ a w) (hr:σ (.b r)=.row T k l) (hB:∀ b,¬ cx.Bw b)
  (hag:Agree (aT cx (upd σ [(.s d,x),(.b r,.dead)]) ρ) w w') (hc:0<(ρ r).2):∃ cs sp:List Value,fB w' (ρ r).1 (cs++sp) T/\dF w' k l cs:=by
 obtain⟨cs,sp,h1,h2,_⟩:=(h.row r T k l hr).2 hc;have hlv:=(jI hr).2 hc;have hrl:∀ j,live (upd σ [(.s d,x),(.b r,.dead)]) ρ j->live σ ρ j/\j≠r:=by
  intro j hj;have e:j≠r:=by
   rintro rfl;rcases gH hj with ⟨T,ch,e⟩ | ⟨T,k,l,e,_⟩<;>rw[aA5] at e<;>cases e
  exact⟨(fY (aAj (by simp) (by simpa using e)) rfl).1 hj,e⟩
 have hnL:¬ aT cx (upd σ [(.s d,x),(.b r,.dead)]) ρ (ρ r).1:=by
  rintro(q | ⟨j,q1,q2⟩)
  ·rcases h.mine r hlv with m | m
   ·have:=cx.lt _ q; omega
   ·exact hB _ m
  ·obtain⟨q3,q4⟩:=hrl j q1;exact q4 (h.inj j r q3 hlv q2)
 refine⟨cs,sp,h1.eq (hag.2 _ (h.lt hlv) hnL),h2.ats (h.row r T k l hr).1.2.2 ?_⟩;refine⟨hag.1,fun b hb hn=>hag.2 b hb fun q=>hn ?_⟩;rcases q with q | ⟨j,q1,q2⟩
 ·exact .inl q
 ·exact .inr ⟨j,(hrl j q1).1,q2⟩
def Lst (G:D) (k:Option Nat) (l:List (SA D)):Prop:=∀ w b off c cs,l.length<=c->c<=maxLen->dF w k l cs->(∀ j u,cs[j]?=some u->w.cell? ⟨b,off+j,none⟩=some u)->bO.dat G w (.slice (some ⟨b,off,none⟩) l.length c)
def aGr (G:D):Prop:=∀ w a,bO.dat G w (.slice a 0 0)
theorem jZ {c:Code} {K:Exit->Sg D->Prop} {r t m:Nat} {T:TypeId} {k:Option Nat} {l:List (SA D)} {G:D} {l0:Sg D} (hB:∀ b,¬ cx.Bw b) (hr:aF .no l0 (.b r)=.row T k l) (ht:aF .no l0 (.s t)=.av (.one (.sl r m))) (hm:m=l.length) (ht':Nat.blt t n=true) (hrK:Nat.beq r 1000000=false)
  (hG:Lst G k l) (hG0:l=[]->aGr G) (h:CV P cx n c ((.s t,.av (.one (.d G)))::(.b r,.dead)::l0) K):CV P cx n c l0 K:=by
 subst hm;have ht'':t<n:=by rwa[Nat.blt_eq] at ht'
 refine⟨fun a w ⟨ρ,hC⟩=>h.run a w ?_⟩;have hv:∀ w'',Agree (aT cx (upd (aF .no l0) [(.s t,.av (.one (.d G))),(.b r,.dead)]) ρ) w w''->bO.dat G w'' (a.tmps.getD t undef):=by
  intro w'' hag;obtain⟨a0,e1,e2⟩:=hC.slt t _ ht;rw[e1];by_cases hc:0<(ρ r).2
  ·rw[e2 hc];obtain⟨cs,sp,q1,q2⟩:=hC.stays hr hB hag hc;refine hG w'' _ 0 _ cs (hC.row r T k l hr).1.1 (hC.row r T k l hr).1.2.1 q2 fun j u hj=>?_;rw[q1.cell,Nat.zero_add,List.getElem?_append_left (List.getElem?_eq_some_iff.1 hj).1];exact hj
  ·have h0:=(hC.row r T k l hr).1.1;have hl0:l=[]:=List.eq_nil_of_length_eq_zero (by omega);have e0:(ρ r).2=0:=by omega
   rw[e0,hl0];exact hG0 hl0 w'' a0
 have:=hC.froze (d:=t) (G:=G) hr ht'' (fun e=>by subst e; cases hrK) (Below.refl _ _) hv;have e:a.put (some t) (a.tmps.getD t undef)=a:=by
  cases a with
  | mk tmps defers =>
   simp only[Act.put];congr 1;apply Array.ext (by simp);intro i h1 h2;rw[Array.getElem_setIfInBounds];split
   ·rename_i h3; subst h3; rw[Array.getD_eq_getD_getElem?,Array.getElem?_eq_getElem h2]; rfl
   ·rfl
 rw[e] at this;rw[fZ] at this;exact⟨ρ,this⟩
end
end Vc
end Go.Proofs.YtbaihklbefhgdaaGreat
