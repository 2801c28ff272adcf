/-
  
-/
import Derived.Test.YtbaihklbefhgdaaGreatSC9
import Derived.Deep.LoopGhost
set_option linter.unusedVariables false
set_option linter.unusedSimpArgs false
set_option linter.unusedSectionVars false
namespace Go.Proofs.YtbaihklbefhgdaaGreat
open Go.RowKit
namespace Vc
section
variable {D:Type} [bO D] {P:Program} {cx:Cx D} {n:Nat}
structure CV (P:Program) (cx:Cx D) (n:Nat) (c:Code) (l:Sg D) (K:Exit->Sg D->Prop):Prop where
 run:∀ a w,CC cx n (aF .no l) a w->c.wp P (fun e a' w'=>∃ l',CC cx n (aF .no l') a' w'/\K e l') a w
def aBr (next:Sg D->Prop) (K:Exit->Sg D->Prop):Exit->Sg D->Prop
 | .normal,l=>next l
 | e,l=>K e l
def aB2 (id:Nat) (K:Exit->Sg D->Prop):Exit->Sg D->Prop
 | .exit id',l=>bif Nat.beq id' id then K .normal l else K (.exit id') l
 | e,l=>K e l
variable {l:Sg D} {K:Exit->Sg D->Prop}
theorem CV.seq {x y:Code} (h:CV P cx n x l (aBr (fun l'=>CV P cx n y l' K) K)):CV P cx n (.seq x y) l K:=by
 refine⟨fun a w hC=>?_⟩;refine wp_seq (wp_mono (h.run a w hC) ?_);rintro e a' w' ⟨l',h1,h2⟩;cases e with
 | normal=>exact h2.run a' w' h1
 | exit id=>exact⟨l',h1,h2⟩
 | goto m=>exact⟨l',h1,h2⟩
 | ret=>exact⟨l',h1,h2⟩
 | panic c=>exact⟨l',h1,h2⟩
 | outgrown=>exact⟨l',h1,h2⟩
theorem CV.skip (h:K .normal l):CV P cx n .skip l K:=⟨fun _ _ hC=>wp_skip ⟨l,hC,h⟩⟩
theorem CV.ret (h:K .ret l):CV P cx n .ret l K:=⟨fun _ _ hC=>wp_ret ⟨l,hC,h⟩⟩
theorem CV.exit {id:Nat} (h:K (.exit id) l):CV P cx n (.exit id) l K:=⟨fun _ _ hC=>wp_exit ⟨l,hC,h⟩⟩
theorem CV.block {id:Nat} {c:Code} (h:CV P cx n c l (aB2 id K)):CV P cx n (.block id c) l K:=by
 refine⟨fun a w hC=>?_⟩;refine wp_block (wp_mono (h.run a w hC) ?_);rintro e a' w' ⟨l',h1,h2⟩;cases e with
 | exit id' =>
  unfold aB2 at h2;unfold Exit.inBlock;simp only at h2 |-;split
  ·rename_i e; subst e; rw[show Nat.beq id' id'=true from Nat.beq_refl id',cond_true] at h2; exact⟨l',h1,h2⟩
  ·rename_i e;have e2:Nat.beq id' id=false:=by
    cases e2:Nat.beq id' id with
    | false=>rfl
    | true=>exact absurd (Nat.eq_of_beq_eq_true e2) e
   rw[e2,cond_false] at h2; exact⟨l',h1,h2⟩
 | normal=>exact⟨l',h1,h2⟩
 | goto m=>exact⟨l',h1,h2⟩
 | ret=>exact⟨l',h1,h2⟩
 | panic c=>exact⟨l',h1,h2⟩
 | outgrown=>exact⟨l',h1,h2⟩
theorem CV.cond {c:Operand} {x y:Code} {b:Bool} (hc:opd (aF .no l) c=.av (.one (.v (.bool b)))) (ht:b=true->CV P cx n x l K) (hf:b=false->CV P cx n y l K):CV P cx n (.cond c x y) l K:=by
 refine⟨fun a w hC=>?_⟩;obtain⟨ρ,h⟩:=id hC;exact wp_cond_split (h.opd hc) (fun e=>(ht e).run a w hC) (fun e=>(hf e).run a w hC)
theorem CV.yes {c:Operand} {x y:Code} (hc:opd (aF .no l) c=.av (.one (.v (.bool true)))) (h:CV P cx n x l K):CV P cx n (.cond c x y) l K:=CV.cond hc (fun _=>h) (fun e=>nomatch e)
theorem CV.no {c:Operand} {x y:Code} (hc:opd (aF .no l) c=.av (.one (.v (.bool false)))) (h:CV P cx n y l K):CV P cx n (.cond c x y) l K:=CV.cond hc (fun e=>nomatch e) (fun _=>h)
theorem CV.region {id:Nat} {ops:List Oper} {draw:Bool} (hm:P.follows .mixedOrders=true) (hb:draw=true->Pu.jO .any ops.toArray=true) (h:RV .no (CC cx n) P ops.toArray draw ops [] l (K .normal)):CV P cx n (.region id ops.toArray draw) l K:=by
 refine⟨fun a w hC=>?_⟩;refine RV.wp (x0:=.no) (C:=CC cx n) (K:=K .normal) (fun a w h=>h.drew) hm hb ?_ hC fun l' _ _ hK hC'=>⟨l',hC',hK⟩
 simpa using h
theorem RV.bool {ops:Array Oper} {draw:Bool} {rest:List Oper} {done:List (Stp (XV D))} {K:Sg D->Prop} {t:Nat} {b:Bool} (ht:b=true->RV .no (CC cx n) P ops draw rest done ((.s t,.av (.one (.v (.bool true))))::l) K)
  (hf:b=false->RV .no (CC cx n) P ops draw rest done ((.s t,.av (.one (.v (.bool false))))::l) K):RV .no (CC cx n) P ops draw rest done ((.s t,.av (.one (.v (.bool b))))::l) K:=by
 cases b
 ·exact hf rfl
 ·exact ht rfl
theorem CV.mono {c:Code} {K':Exit->Sg D->Prop} (h:CV P cx n c l K) (hk:∀ e l,K e l->K' e l):CV P cx n c l K' :=
 ⟨fun a w hC=>wp_mono (h.run a w hC) fun e a' w' ⟨l',h1,h2⟩=>⟨l',h1,hk e l' h2⟩⟩
def aZ (l l':Sg D):Prop:=∀ cx n a w,CC cx n (aF .no l) a w->CC cx n (aF .no l') a w
theorem CV.sub {l':Sg D} {c:Code} (hs:aZ l l') (h:CV P cx n c l' K):CV P cx n c l K:=⟨fun a w hC=>h.run a w (hs _ _ _ _ hC)⟩
theorem CV.loop {X:Type} (I:X->Sg D) (μ:X->Nat) (x0:X) {c:Code} (h0:aZ l (I x0)) (round:∀ x,CV P cx n c (I x) (aBr (fun l'=>∃ x',aZ l' (I x') /\ μ x' < μ x) K)):CV P cx n (.loop c) l K:=by
 refine⟨fun a w hC=>?_⟩;refine wp_loop_ghost (fun k a w=>∃ x,μ x=k/\CC cx n (aF .no (I x)) a w) (μ x0) ⟨x0,rfl,h0 _ _ _ _ hC⟩ ?_;rintro k a w ⟨x,rfl,hx⟩;refine wp_mono ((round x).run a w hx) ?_;rintro e a' w' ⟨l',h1,h2⟩;cases e with
 | normal =>
  obtain⟨x',h3,h4⟩:=h2;exact⟨μ x',h4,x',rfl,h3 _ _ _ _ h1⟩
 | exit id=>exact⟨l',h1,h2⟩
 | goto m=>exact⟨l',h1,h2⟩
 | ret=>exact⟨l',h1,h2⟩
 | panic c=>exact⟨l',h1,h2⟩
 | outgrown=>exact⟨l',h1,h2⟩
def XV.leR (f:Nat->Nat):XV D->XV D->Prop
 | _,.no=>True
 | .av x,.av y=>∀ L ρ w v,x.is L ρ w v->y.is L (fun i=>ρ (f i)) w v
 | .blk T ch,.blk T' ch'=>T=T'/\∀ L ρ w cs,bZ L ρ w ch cs->bZ L (fun i=>ρ (f i)) w ch' cs
 | .row T k l,.row T' k' l'=>T=T'/\k=k'/\l.length=l'.length/\(l.flatMap SA.ptrs=[]->l'.flatMap SA.ptrs=[])/\∀ L ρ w cs,bZ L ρ w (dB k l) cs->bZ L ρ w (dB k l') cs
 | _,.dead=>True
 | _,.np _=>True
 | _,_=>False
abbrev XV.le (x y:XV D):Prop:=XV.leR id x y
theorem aB (x:XV D):x.le x:=by
 cases x with
 | no=>trivial
 | av x=>exact fun _ _ _ _ h=>h
 | blk T ch=>exact⟨rfl,fun _ _ _ _ h=>h⟩
 | row T k l=>exact⟨rfl,rfl,rfl,fun h=>h,fun _ _ _ _ h=>h⟩
 | dead=>trivial
 | np l=>trivial
theorem iI {x y:XV D} (h:x=y):x.le y:=h ▸ aB x
theorem mK {f:Nat->Nat} {b c m m':Nat} (h:f c=b) (hm:m=m'):(XV.av (.one (.sl b m)):XV D).leR f (.av (.one (.sl c m'))):=by
 subst h; subst hm; exact fun _ _ _ _ h=>h
theorem fC {T:TypeId} {k:Option Nat} {l l':List (SA D)} {f:Nat->Nat} (h:l=l'):(XV.row T k l:XV D).leR f (.row T k l'):=by
 subst h;exact⟨rfl,rfl,rfl,fun h=>h,fun _ _ _ _ h=>h⟩
theorem aAg {x y:AV D} {f:Nat->Nat} (hp:y.ptrs=[]) (h:∀ L ρ w v,x.is L ρ w v->y.is L ρ w v):(XV.av x).leR f (.av y) :=
 fun L ρ w v hv=>(h L ρ w v hv).go (Goes.refl _ _) (by rw[hp]; intro b hb; cases hb)
def bAm:XV D->Bool
 | .no=>false
 | _=>true
def ownB (l:Sg D):Bool:=l.all fun p=>p.2.ptrs.all fun b=>bAm (aF .no l (.b b))
def fK (i:Nat):List Nat->Bool
 | []=>false
 | j::r=>Nat.beq j i||fK i r
theorem eU {i:Nat} {l:List Nat}:fK i l=true ↔ i∈l:=by
 induction l with
 | nil=>simp[fK]
 | cons j r ih=>simp only[fK,Bool.or_eq_true,ih,Nat.beq_eq,List.mem_cons]; constructor<;>rintro(h | h)<;>simp[h]
def aO8 (l:Sg D):Bool:=l.all fun p=>match p with
 | (.b i,.blk _ ch)=>gV ch||fK i (bR (aF .no l KP))
 | _=>true
def yE (f:Nat->Nat):Key->Key
 | .s t=>.s t
 | .b i=>.b (f i)
def xX (f:Nat->Nat) (l:Sg D):Sg D->Prop
 | []=>True
 | (k,x)::r=>(aF .no l (yE f k)).leR f x/\xX f l r
abbrev bAg (l l':Sg D):Prop:=xX id l l'
def rG:Sg D->List Nat
 | []=>[]
 | (.b i,.blk _ _)::r=>i::rG r
 | (.b i,.row _ _ _)::r=>i::rG r
 | _::r=>rG r
def aPb (f:Nat->Nat) (l:Sg D):Bool:=(rG l).all fun i=>(rG l).all fun j => !(Nat.beq (f i) (f j))||Nat.beq i j
def npB (f:Nat->Nat) (l l':Sg D):Bool:=(rG l').all fun i=>fK i (bR (aF .no l' KP)) || !fK (f i) (bR (aF .no l KP))
omit [bO D] in
theorem lJ {l:Sg D} {k:Key} {x:XV D} (h:aF .no l k=x) (hx:x≠.no):(k,x)∈l:=by
 induction l with
 | nil=>exact absurd h.symm hx
 | cons p r ih =>
  obtain⟨q,y⟩:=p;unfold aF at h;cases e:Key.beq q k with
  | true =>
   rw[e,cond_true] at h;rw[rT.1 e,h];exact List.mem_cons_self
  | false =>
   rw[e,cond_false] at h;exact List.mem_cons_of_mem _ (ih h)
omit [bO D] in
theorem aDp {l:Sg D} {i:Nat} {x:XV D} (h:(Key.b i,x)∈l) (hx:(∃ T ch,x=.blk T ch)\/∃ T k m,x=.row T k m):i∈rG l:=by
 induction l with
 | nil=>cases h
 | cons p r ih =>
  obtain⟨q,y⟩:=p;rcases List.mem_cons.1 h with e | e
  ·injection e with e1 e2;subst e1; subst e2;rcases hx with ⟨T,ch,rfl⟩ | ⟨T,k,m,rfl⟩
   ·exact List.mem_cons_self
   ·exact List.mem_cons_self
  ·have:=ih e;cases q<;>cases y<;>first | exact this | exact List.mem_cons_of_mem _ this
theorem xX.at {f:Nat->Nat} {l l':Sg D} (h:xX f l l') {k:Key} {x:XV D} (hm:(k,x)∈l'):(aF .no l (yE f k)).leR f x:=by
 induction l' with
 | nil=>cases hm
 | cons p r ih =>
  obtain⟨q,y⟩:=p;rcases List.mem_cons.1 hm with e | e
  ·injection e with e1 e2;subst e1; subst e2;exact h.1
  ·exact ih h.2 e
theorem kW (f:Nat->Nat) {l l':Sg D} (h:xX f l l') (ho:ownB l'=true) (hp:aO8 l'=true) (hi:aPb f l'=true) (hn:npB f l l'=true):aZ l l':=by
 rintro cx n a w ⟨ρ,hC⟩;have hb:∀ i T ch,aF .no l' (.b i)=.blk T ch->∃ ch0,aF .no l (.b (f i))=.blk T ch0/\∀ L ρ w cs,bZ L ρ w ch0 cs->bZ L (fun i=>ρ (f i)) w ch cs:=by
  intro i T ch hi;have hle:=h.at (lJ hi (by simp));cases e:aF .no l (yE f (.b i)) with
  | blk T0 ch0=>rw[e] at hle; obtain⟨rfl,h2⟩:=hle; exact⟨ch0,e,h2⟩
  | no=>rw[e] at hle; exact hle.elim
  | av x=>rw[e] at hle; exact hle.elim
  | row _ _ _=>rw[e] at hle; exact hle.elim
  | dead=>rw[e] at hle; exact hle.elim
  | np _=>rw[e] at hle; exact hle.elim
 have hr:∀ i T k m,aF .no l' (.b i)=.row T k m->∃ m0,aF .no l (.b (f i))=.row T k m0/\m0.length=m.length/\(m0.flatMap SA.ptrs=[]->m.flatMap SA.ptrs=[])/\∀ L ρ w cs,bZ L ρ w (dB k m0) cs->bZ L ρ w (dB k m) cs:=by
  intro i T k m hi;have hle:=h.at (lJ hi (by simp));cases e:aF .no l (yE f (.b i)) with
  | row T0 k0 m0=>rw[e] at hle; obtain⟨rfl,rfl,h2,h3⟩:=hle; exact⟨m0,e,h2,h3⟩
  | no=>rw[e] at hle; exact hle.elim
  | av x=>rw[e] at hle; exact hle.elim
  | blk _ _=>rw[e] at hle; exact hle.elim
  | dead=>rw[e] at hle; exact hle.elim
  | np _=>rw[e] at hle; exact hle.elim
 have hlive:∀ i,live (aF .no l') (fun i=>ρ (f i)) i->live (aF .no l) ρ (f i)/\i∈rG l':=by
  intro i hl;rcases gH hl with ⟨T,ch,e⟩ | ⟨T,k,m,e,hc⟩
  ·obtain⟨ch0,e1,_⟩:=hb i T ch e;exact⟨jJ e1,aDp (lJ e (by simp)) (.inl ⟨_,_,rfl⟩)⟩
  ·obtain⟨m0,e1,_⟩:=hr i T k m e;exact⟨(jI e1).2 hc,aDp (lJ e (by simp)) (.inr ⟨_,_,_,rfl⟩)⟩
 have g:Goes (aT cx (aF .no l) ρ) w (aT cx (aF .no l') fun i=>ρ (f i)) w:=by
  refine oC ?_;rintro b (h1 | ⟨i,h1,h2⟩)
  ·exact .inl h1
  ·exact .inr ⟨f i,(hlive i h1).1,h2⟩
 refine⟨fun i=>ρ (f i),hC.size,hC.defers,hC.kept,?_,?_,?_,?_,?_,?_,?_⟩
 ·intro i hl;exact hC.mine (f i) (hlive i hl).1
 ·intro i T ch hi;obtain⟨ch0,h1,h2⟩:=hb i T ch hi;obtain⟨cs,h4,h5⟩:=hC.blk (f i) T ch0 h1;exact⟨cs,h4,h2 _ _ _ _ (h5.go g fun _ _=>rfl)⟩
 ·intro i T k m hi;obtain⟨m0,h1,h2,h2p,h3⟩:=hr i T k m hi;obtain⟨h4,h5⟩:=hC.row (f i) T k m0 h1;refine⟨⟨by rw[<- h2]; exact h4.1,h4.2.1,h2p h4.2.2⟩,fun hc=>?_⟩;obtain⟨cs,sp,q1,q2,q3,q5⟩:=h5 hc;refine⟨cs,sp,q1,(h3 _ _ _ _ (q2.go g fun _ _=>rfl)).go (Goes.refl _ _) (by rw[uE,h2p h4.2.2]; intro b hb; cases hb),q3,fun q=>q5 fun q'=>?_⟩;have:=List.all_eq_true.1 hn i (aDp (lJ hi (by simp)) (.inr ⟨_,_,_,rfl⟩));rw[Bool.or_eq_true] at this;rcases this with t | t
  ·exact q (eU.1 t)
  ·rw[eU.2 q'] at t; cases t
 ·intro i j hli hlj he;have h1:=hC.inj _ _ (hlive i hli).1 (hlive j hlj).1 he;have:=List.all_eq_true.1 (List.all_eq_true.1 hi i (hlive i hli).2) j (hlive j hlj).2;rw[h1,Bool.or_eq_true] at this;rcases this with t | t
  ·rw[show Nat.beq (f j) (f j)=true from Nat.beq_refl _] at t; cases t
  ·exact Nat.eq_of_beq_eq_true t
 ·intro t av ht;have hle:=h.at (lJ ht (by simp));cases e:aF .no l (yE f (.s t)) with
  | av x=>rw[e] at hle; exact hle _ _ _ _ ((hC.slt t x e).go g fun _ _=>rfl)
  | no=>rw[e] at hle; exact hle.elim
  | blk _ _=>rw[e] at hle; exact hle.elim
  | row _ _ _=>rw[e] at hle; exact hle.elim
  | dead=>rw[e] at hle; exact hle.elim
  | np _=>rw[e] at hle; exact hle.elim
 ·intro k b hb';have hne:aF .no l' k≠.no:=fun e=>by rw[e] at hb'; cases hb'
  have hm:=lJ rfl hne;have:=List.all_eq_true.1 (List.all_eq_true.1 ho _ hm) b hb';intro e;rw[e] at this;cases this
 ·intro i T ch hi hq;have hm:=lJ hi (by simp);have:=List.all_eq_true.1 hp _ hm;simp only[Bool.or_eq_true] at this;rcases this with t | t
  ·exact t
  ·exact absurd (eU.1 t) hq
theorem aZ.mk {l l':Sg D} (h:bAg l l') (ho:ownB l'=true) (hp:aO8 l'=true) (hi:aPb id l'=true:=by exact rfl) (hn:npB id l l'=true:=by exact rfl):aZ l l':=kW id h ho hp hi hn
/-! A function. -/
def iL:Nat->List (SA D)->Sg D
 | _,[]=>[]
 | i,s::r=>(.s i,.av (.one s))::iL (i+1) r
def Fin (P:Program) (cx:Cx D) (n:Nat) (fn:Func) (r:AV D) (e:Exit) (l:Sg D):Prop :=
 (e=.normal\/e=.ret)/\∀ ρ a w,Conc cx n ρ (aF .no l) a w->∃ v,(results fn a.tmps).run P w=.ok v w/\r.is (aT cx (aF .no l) ρ) ρ w v
omit [bO D] in
theorem xK:∀ (args:List (SA D)) (i:Nat) (k:Key) (x:XV D),(k,x)∈iL i args->∃ j s,args[j]?=some s/\k=.s (i+j)/\x=.av (.one s)
 | [],_,_,_,h=>by cases h
 | s::r,i,k,x,h=>by
  rcases List.mem_cons.1 h with e | e
  ·injection e with e1 e2;exact⟨0,s,rfl,e1,e2⟩
  ·obtain⟨j,s',h1,h2,h3⟩:=xK r (i+1) k x e;exact⟨j+1,s',by simpa using h1,by rw[h2]; congr 1; omega,h3⟩
theorem aD6 {L:Nat->Prop} {ρ:aR} {w:World}:∀ {l:List (SA D)} {vs:List Value} {j:Nat} {s:SA D},dR L ρ w l vs->l[j]?=some s->∃ v,vs[j]?=some v/\s.is L ρ w v
 | [],_,j,_,_,h=>by cases j<;>cases h
 | x::l,[],_,_,h,_=>h.elim
 | x::l,y::vs,0,s,h,hj=>by
  have e:x=s:=by simpa using hj
  rw[<- e];exact⟨y,rfl,h.1⟩
 | x::l,y::vs,j+1,s,h,hj=>by
  obtain⟨v,h1,h2⟩:=aD6 (j:=j) h.2 (by simpa using hj);exact⟨v,by simpa using h1,h2⟩
theorem yW {L:Nat->Prop} {ρ:aR} {w:World}:∀ {l:List (SA D)} {vs:List Value},dR L ρ w l vs->vs.length=l.length
 | [],[],_=>rfl
 | _::_,_::_,h=>congrArg (·+1) (yW h.2)
theorem aD.start {fn:Func} {args:List (SA D)} {L:Nat->Prop} {ρ:aR} {w:World} {vs:List Value} {cx:jD D} (hcl:gK args=[]) (hn:args.length<=fn.ntmps) (hall:dR L ρ w args vs) (hw:cx.w0=w) (hL:cx.L0=L) :
  CC cx fn.ntmps (aF .no (iL 0 args)) { tmps:=vs.toArray++Array.replicate (fn.ntmps-vs.toArray.size) undef,defers:=[] } w:=by
 subst hw;subst hL;have hlen:=yW hall;have hk:∀ k x,aF .no (iL 0 args) k=x->x≠.no->∃ j s,args[j]?=some s/\k=.s j/\x=.av (.one s):=by
  intro k x h1 h2;obtain⟨j,s,h3,h4,h5⟩:=xK args 0 k x (lJ h1 h2);exact⟨j,s,h3,by rw[h4,Nat.zero_add],h5⟩
 have hnb:∀ i,aF .no (iL 0 args) (.b i)=.no:=by
  intro i;refine Classical.byContradiction fun hi=>?_;obtain⟨j,s,_,h2,_⟩:=hk _ _ rfl hi;cases h2
 have hnl:∀ i,¬ live (aF .no (iL 0 args)) ρ i:=fun i h=>xJ h (hnb i);have hLof:∀ b,aT cx (aF .no (iL 0 args)) ρ b->cx.L0 b:=by
  rintro b (h1 | ⟨i,h1,_⟩)
  ·exact h1
  ·exact absurd h1 (hnl i)
 refine⟨ρ,?_,rfl,Kept.refl _ _ _,fun i h=>absurd h (hnl i),fun i T ch hi=>?_,fun i T k l hi=>?_,fun i j h=>absurd h (hnl i),?_,?_,fun i T ch hi=>?_⟩
 ·simp; omega
 ·rw[hnb] at hi; cases hi
 ·rw[hnb] at hi; cases hi
 ·intro t av ht;obtain⟨j,s,h1,h2,h3⟩:=hk _ _ ht (by simp);injection h2 with h2;subst h2;obtain rfl:=(XV.av.injEq _ _).mp h3;obtain⟨v,h4,h5⟩:=aD6 hall h1;have hv:(vs.toArray++Array.replicate (fn.ntmps-vs.toArray.size) undef).getD t undef=v:=by
   have hlt:=(List.getElem?_eq_some_iff.1 h4).1;rw[Array.getD_eq_getD_getElem?,Array.getElem?_append_left (by simpa using hlt),List.getElem?_toArray,h4];rfl
  show SA.is _ _ _ s _;rw[hv];exact h5.go (oC hLof) fun _ _=>rfl
 ·intro k b hb';obtain⟨j,s,h1,h2,h3⟩:=hk k _ rfl (fun e=>by rw[e] at hb'; cases hb');rw[h3] at hb';have:b∈gK args:=List.mem_flatMap.2 ⟨s,List.mem_of_getElem? h1,hb'⟩;rw[hcl] at this;cases this
 ·rw[hnb] at hi; cases hi
theorem aD.fin {f:FuncId} {fn:Func} {c:Code} {args:List (SA D)} {r:AV D} {L:Nat->Prop} {ρ:aR} {w:World} {vs:List Value} {cx:jD D} (hf:P.funcs[f]?=some fn) (hb:fn.body=some c) (hr:r.ptrs=[])
  (hcl:gK args=[]) (hn:args.length<=fn.ntmps) (hall:dR L ρ w args vs) (hw:cx.w0=w) (hL:cx.L0=L) (hB:∀ b,¬ cx.Bw b)
  (h:CV P cx fn.ntmps c (iL 0 args) (Fin P cx fn.ntmps fn r)):Calls P f vs.toArray w fun e w'=>∃ v,e=.returned v/\Below w.heap.size w w'/\r.is L ρ w' v:=by
 refine calls_of_wp hf hb (wp_mono (h.run _ w (aD.start hcl hn hall hw hL)) ?_);subst hw;subst hL;rintro e a' w' ⟨l',⟨ρ',hC'⟩,he,hres⟩;obtain⟨v,h1,h2⟩:=hres ρ' a' w' hC';have hfin:∃ v,(results fn a'.tmps).run P w'=.ok v w'/\∃ v',Ending.returned v=.returned v'/\Below cx.w0.heap.size cx.w0 w'/\r.is cx.L0 ρ w' v' :=
  ⟨v,h1,v,rfl,hC'.kept.below hB,h2.go (oC fun b hb=>.inl hb) (by rw[hr]; intro b hb; cases hb)⟩
 rcases he with rfl | rfl
 ·exact⟨hC'.defers,hfin⟩
 ·exact⟨hC'.defers,hfin⟩
theorem aD.of {f:FuncId} {fn:Func} {c:Code} {args:List (SA D)} {r:AV D} (hf:P.funcs[f]?=some fn) (hb:fn.body=some c) (hnt:fn.ntmps=n) (hcl:gK args=[]) (hn:Nat.ble args.length n=true) (hr:r.ptrs=[])
  (h:∀ cx:jD D,cx.fr=false->CV P cx n c (iL 0 args) (Fin P cx n fn r)):aD P f args r:=by
 subst hnt;intro L ρ w vs hlt hni hwf hall;exact aD.fin (cx:=⟨w,L,hlt,false,fun _=>False,fun _ q=>q.elim,fun _ _ q=>q,fun _=>hni,fun _ w' hk=>bO.W_keep _ _ (hk.below fun _ q=>q) hwf⟩) hf hb hr hcl (Nat.le_of_ble_eq_true hn) hall rfl rfl (fun _ q=>q) (h _ rfl)
theorem aD.mono {f:FuncId} {args args':List (SA D)} {r r':AV D} (h:aD P f args r) (ha:∀ L ρ w vs,dR L ρ w args' vs->dR L ρ w args vs) (hr:∀ L ρ w v,r.is L ρ w v->r'.is L ρ w v):aD P f args' r':=by
 intro L ρ w vs h1 h2 hw h3;refine(h L ρ w vs h1 h2 hw (ha _ _ _ _ h3)).mono ?_;rintro e w' ⟨v,rfl,h4,h5⟩;exact⟨v,rfl,h4,hr _ _ _ _ h5⟩
def vO (P:Program) (σ:St D) (s:SA D):ResultVar->Prop
 | .tmp t=>σ (.s t)=.av (.one s)
 | .cell p ty=>∃ i off T ch k,σ (.s p)=.av (.one (.ptr i off))/\σ (.b i)=.blk T ch/\lT ch off=some (k,s)/\dL P ty k
def jM (tmps:Array Value):ResultVar->Sem Value
 | .tmp t=>pure (tmps.getD t undef)
 | .cell a t=>do loadVar t (<- asAddr (tmps.getD a undef))
theorem vO.run {ρ:aR} {σ:St D} {a:Act} {w:World} {s:SA D} {rv:ResultVar} (h:Conc cx n ρ σ a w) (hr:vO P σ s rv):∃ v,(jM a.tmps rv).run P w=.ok v w/\s.is (aT cx σ ρ) ρ w v:=by
 cases rv with
 | tmp t=>exact⟨_,rfl,h.slt t _ hr⟩
 | cell p ty =>
  obtain⟨i,off,T,ch,k,h1,h2,h3,h4⟩:=hr;obtain⟨cs,hcs,hch⟩:=h.blk i T ch h2;obtain⟨pre,q,post,v,rfl,rfl,k3,k4,_,_⟩:=hch.at h3;have hev:a.tmps.getD p undef=.pointer (some ⟨(ρ i).1,pre.length,none⟩):=h.slt p _ h1;refine⟨v,?_,k4⟩;simp only[jM,hev,asAddr,Sem.run_bind,Sem.run_pure,Result.andThen_ok];exact yQ hcs k3 h4
omit [bO D] in
theorem andThen_assoc {α β γ:Type} (x:Result α) (f:α->World->Result β) (g : β->World->Result γ):(x.andThen f).andThen g=x.andThen fun a w=>(f a w).andThen g:=by cases x<;>rfl
omit [bO D] in
theorem aHk {α:Type} (x:Result α):(x.andThen fun v w=>.ok v w)=x:=by cases x<;>rfl
theorem aS {fn:Func} {rv:ResultVar} {s:SA D} {r:AV D} {e:Exit} (hres:fn.results=#[rv]) (he:e=.normal\/e=.ret) (hr:vO P (aF .no l) s rv) (hc:∀ L ρ w v,s.is L ρ w v->r.is L ρ w v):Fin P cx n fn r e l:=by
 refine⟨he,fun ρ a w h=>?_⟩;obtain⟨v,h1,h2⟩:=hr.run h;refine⟨v,?_,hc _ _ _ _ h2⟩;have:(results fn a.tmps).run P w=((jM a.tmps rv).run P w).andThen fun v w=>.ok v w:=by
  cases rv<;>simp[results,hres,jM,andThen_assoc,aHk]
 rw[this,h1];rfl
theorem lS {fn:Func} {rv rv':ResultVar} {s s':SA D} {r:AV D} {e:Exit} (hres:fn.results=#[rv,rv']) (he:e=.normal\/e=.ret) (hr:vO P (aF .no l) s rv) (hr':vO P (aF .no l) s' rv') (hc:∀ L ρ w v,(AV.tup [s,s']).is L ρ w v->r.is L ρ w v):Fin P cx n fn r e l:=by
 refine⟨he,fun ρ a w h=>?_⟩;obtain⟨v,h1,h2⟩:=hr.run h;obtain⟨v',h1',h2'⟩:=hr'.run h;refine⟨.tuple #[v,v'],?_,hc _ _ _ _ ⟨[v,v'],rfl,h2,h2',trivial⟩⟩;have:(results fn a.tmps).run P w=((jM a.tmps rv).run P w).andThen fun v w=>((jM a.tmps rv').run P w).andThen fun v' w=>.ok (.tuple #[v,v']) w:=by
  cases rv<;>cases rv'<;>simp[results,hres,jM,andThen_assoc]
 rw[this,h1];show ((jM a.tmps rv').run P w).andThen _=_;rw[h1'];rfl
theorem cL {s:SA D}:∀ L ρ w v,s.is L ρ w v->(AV.one s).is L ρ w v:=fun _ _ _ _ h=>h
theorem lR {s s':SA D} (h:s=s'):∀ L ρ w v,s.is L ρ w v->(AV.one s').is L ρ w v:=by subst h; exact cL
theorem gB {b b':Bool} (h:b=b'):∀ L ρ w v,(SA.v (.bool b):SA D).is L ρ w v->(AV.one (SA.v (.bool b'):SA D)).is L ρ w v:=lR (by rw[h])
theorem vA {k:IntKind} {b b':Int} (h:b=b'):∀ L ρ w v,(SA.v (.int k b):SA D).is L ρ w v->(AV.one (SA.v (.int k b'):SA D)).is L ρ w v:=lR (by rw[h])
theorem sJ {s s':SA D}:∀ L ρ w v,(AV.tup [s,s']).is L ρ w v->(AV.tup [s,s']).is L ρ w v:=fun _ _ _ _ h=>h
end
end Vc
end Go.Proofs.YtbaihklbefhgdaaGreat
