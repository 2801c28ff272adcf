/-
  
-/
import Derived.Test.YtbaihklbefhgdaaGreatSC39
import Derived.Test.YtbaihklbefhgdaaGreatSC30
import Derived.Test.YtbaihklbefhgdaaGreatSC11
set_option linter.unusedVariables false
set_option linter.unusedSimpArgs false
set_option linter.unusedSectionVars false
namespace Go.Proofs.YtbaihklbefhgdaaGreat
open Go.RowKit
open Go.Sort (flatK putRowK HoldsK get_flatK size_flatK)
open Dg Zn
namespace Vc
section
variable {D:Type} [bO D]
def ck:Nat->List Value->List (List Value)
 | 0,_=>[]
 | n+1,cs=>cs.take 4::ck n (cs.drop 4)
theorem aJv:∀ {n:Nat} {cs:List Value},(ck n cs).length=n
 | 0,_=>rfl
 | n+1,cs=>by rw[ck,List.length_cons,aJv]
theorem aBi {w:World}:∀ {l:List (SA D)} {cs:List Value},dF w (some 4) l cs->fW (fun (s:SA D) (c:List Value)=>∃ v,Shaped (some 4) v c/\s.at w v) l (ck l.length cs)/\(ck l.length cs).flatten=cs
 | [],cs,h=>by
  have e:cs=[]:=h;subst e;exact⟨.nil,rfl⟩
 | s::l,cs,⟨p,r,v,h1,h2,h3,h4⟩=>by
  have hp:p.length=4:=h2.length;subst h1;obtain⟨i1,i2⟩:=aBi h4;have e:ck (l.length+1) (p++r)=p::ck l.length r:=by
   show (p++r).take 4::ck l.length ((p++r).drop 4)=_;rw[List.take_left' hp,List.drop_left' hp]
  rw[List.length_cons,e];exact⟨.cons ⟨v,h2,h3⟩ i1,by rw[List.flatten_cons,i2]⟩
theorem aLr {w:World}:∀ {l:List (SA D)} {ch:List (List Value)},fW (fun (s:SA D) (c:List Value)=>∃ v,Shaped (some 4) v c/\s.at w v) l ch->dF w (some 4) l ch.flatten
 | _,_,.nil=>rfl
 | _,_,.cons ⟨v,h1,h2⟩ h=>⟨_,_,v,List.flatten_cons,h1,h2,aLr h⟩
end
theorem fW.append {α β:Type} {R:α -> β->Prop} {l l':List α} {m m':List β} (h:fW R l m) (h':fW R l' m'):fW R (l++l') (m++m'):=by
 induction h with
 | nil=>exact h'
 | cons a _ ih=>exact .cons a ih
theorem fW.reverse {α β:Type} {R:α -> β->Prop} {l:List α} {m:List β} (h:fW R l m):fW R l.reverse m.reverse:=by
 induction h with
 | nil=>exact .nil
 | cons a _ ih=>rw[List.reverse_cons,List.reverse_cons]; exact ih.append (.cons a .nil)
theorem fW.right {α β:Type} {R:α -> β->Prop} {l:List α} {m:List β} (h:fW R l m):∀ b∈m,∃ a,R a b:=by
 induction h with
 | nil=>intro b hb; cases hb
 | cons a _ ih =>
  intro b hb;rcases List.mem_cons.1 hb with rfl | hb
  ·exact⟨_,a⟩
  ·exact ih b hb
def aBn (x:List Value):Bool:=x.length==4&&x.all (·.oneCell')
def enc4 (x:List Value):List Value:=if aBn x=true then x else List.replicate 4 (.bool false)
theorem aV6 (x:List Value):(enc4 x).length=4:=by
 unfold enc4;split
 ·rename_i h;unfold aBn at h;rw[Bool.and_eq_true,beq_iff_eq] at h;exact h.1
 ·rfl
theorem aV5 (x:List Value):∀ v∈enc4 x,v.oneCell'=true:=by
 unfold enc4;split
 ·rename_i h;unfold aBn at h;rw[Bool.and_eq_true,List.all_eq_true] at h;exact h.2
 ·intro v hv;rw[List.eq_of_mem_replicate hv];rfl
theorem aTu {x:List Value} (h:x.length=4) (h1:∀ v∈x,v.oneCell'=true):enc4 x=x:=by
 unfold enc4;rw[if_pos (by unfold aBn; rw[Bool.and_eq_true,beq_iff_eq,List.all_eq_true]; exact⟨h,h1⟩)]
theorem flat_get:∀ {ch:List (List Value)} {t:Nat},t<ch.length*4->(∀ x∈ch,x.length=4)->ch.flatten[t]! = (ch[t/4]!)[t%4]!
 | [],t,h,_=>by simp at h
 | x::ch,t,h,hx=>by
  have h4:x.length=4:=hx x List.mem_cons_self;rw[List.flatten_cons];by_cases h1:t<4
  ·rw[Nat.div_eq_of_lt h1,Nat.mod_eq_of_lt h1,List.getElem!_eq_getElem?_getD,List.getElem!_eq_getElem?_getD,List.getElem?_append_left (by omega)];rfl
  ·obtain⟨u,rfl⟩:∃ u,t=u+4:=⟨t-4,by omega⟩
   have e1:(u+4)/4=u/4+1:=by omega
   have e2:(u+4)%4=u%4:=by omega
   rw[e1,e2,List.getElem!_eq_getElem?_getD,List.getElem?_append_right (by omega),h4,Nat.add_sub_cancel,<- List.getElem!_eq_getElem?_getD,flat_get (by rw[List.length_cons] at h; omega) fun y hy=>hx y (List.mem_cons_of_mem _ hy)];rfl
theorem aJm {ch:List (List Value)} {t:Nat} (h:t<ch.length*4) (hx:∀ x∈ch,x.length=4/\∀ v∈x,v.oneCell'=true):(flatK enc4 4 ch.toArray)[t]! = ch.flatten[t]! := by
 rw[get_flatK _ _ _ _ (by simpa using h),flat_get h fun x hx'=>(hx x hx').1];have hi:t/4<ch.length:=by omega
 have e:(ch.toArray)[t/4]! = ch[t/4]! := by simp
 rw[e];have hm:ch[t/4]! ∈ ch:=by
  rw[List.getElem!_eq_getElem?_getD,List.getElem?_eq_getElem hi];exact List.getElem_mem hi
 rw[aTu (hx _ hm).1 (hx _ hm).2]
theorem aEa:∀ {ch:List (List Value)},(∀ x∈ch,x.length=4)->ch.flatten.length=ch.length*4
 | [],_=>rfl
 | x::ch,h=>by
  rw[List.flatten_cons,List.length_append,h x List.mem_cons_self,aEa fun y hy=>h y (List.mem_cons_of_mem _ hy),List.length_cons];omega
theorem aJj {l:List Value} {j:Nat} (h:j<l.length):l[j]?=some l[j]! := by
 rw[List.getElem!_eq_getElem?_getD,List.getElem?_eq_getElem h];rfl
theorem aRa {w:World} {g n:Nat} {e:TypeId} {cur:Array Value} {ch:List (List Value)} (hg:w.heap[g]?=some (.cells cur e (0,0))) (hx:∀ x∈ch,x.length=4/\∀ v∈x,v.oneCell'=true) (hc:cur.toList.take (ch.length*4)=ch.flatten) :
  HoldsK enc4 4 w g 0 ch.toArray/\∀ j u,ch.reverse.flatten[j]?=some u->(putRowK enc4 4 (Go.Sort.ahead w n) g 0 ch.toArray.reverse).cell? ⟨g,0+j,none⟩=some u:=by
 have hlen:=aEa fun x hx'=>(hx x hx').1;have hH:HoldsK enc4 4 w g 0 ch.toArray:=by
  intro j hj;have hj':j<ch.length*4:=by simpa using hj
  have e1:(flatK enc4 4 ch.toArray)[j]! = ch.flatten[j]! := aJm hj' hx;have e2:cur.toList[j]?=some ch.flatten[j]! := by
   rw[<- aJj (by omega),<- hc,List.getElem?_take_of_lt hj']
  rw[Nat.zero_add];refine⟨?_,?_⟩
  ·show w.cell? ⟨g,j,none⟩=some (flatK enc4 4 ch.toArray)[j]!;rw[e1,<- e2];simp[World.cell?,hg]
  ·simp[World.frozen?,hg]
 refine⟨hH,fun j u hj=>?_⟩;have hx':∀ x∈ch.reverse,x.length=4/\∀ v∈x,v.oneCell'=true:=fun x h=>hx x (List.mem_reverse.1 h);have hlen':=aEa fun x h=>(hx' x h).1;have hj1:=(List.getElem?_eq_some_iff.1 hj).1;rw[hlen'] at hj1;have e1:(flatK enc4 4 ch.toArray.reverse)[j]! = u:=by
  rw[List.reverse_toArray,aJm hj1 hx'];rw[aJj (by omega)] at hj;exact Option.some.inj hj
 have h2:=Go.Sort.cell?_putRow id (Go.Sort.ahead w n) g 0 (flatK enc4 4 ch.toArray) (flatK enc4 4 ch.toArray.reverse) hH (by simp) j (by simp; simpa using hj1);rw[e1] at h2;exact h2
theorem aC9:(Tryz.prog.info? 24).map (·.zero)=some (some (.slice none 0 0)):=by kernel_rfl
theorem wU:(Tryz.prog.info? 24).map (·.size)=some 1:=by kernel_rfl
theorem aNd (w:World):(isAgg 30).run Tryz.prog w=.ok true w:=by
 obtain⟨⟨d,h1,h2⟩,_⟩:=aC;unfold isAgg;rw[Sem.run_bind,run_underlying h1 w];cases d<;>simp_all [TypeDesc.isRow]
theorem zC (w:World):(Go.sizeOf 30).run Tryz.prog w=.ok 4 w:=by
 cases hq:Tryz.prog.info? 30 with
 | none=>have:=cH; rw[hq] at this; cases this
 | some inf =>
  have e:inf.size=4:=by have:=cH; rw[hq] at this; simpa using this
  simp[Go.sizeOf,typeInfo,hq,e]
theorem aPz (w:World) (b:Nat) (f:Array Value->Array Value):(Go.Sort.mapBlock w b f).heap.size=w.heap.size:=by simp[Go.Sort.mapBlock]
theorem aPv (w:World) (b:Nat) (f:Array Value->Array Value) {j:Nat} (h:j≠b):(Go.Sort.mapBlock w b f).heap[j]?=w.heap[j]?:=by
 simp only[Go.Sort.mapBlock,Array.getElem?_modify];rw[if_neg (fun e=>h e.symm)]
theorem aT1 {w:World} {b off n c:Nat} {l:List (SA Dm)} {cs:List Value} (hn:0<n) (hn2:n<=1000000) (hl:l.length=n) (hats:dF w (some 4) l cs) (hc:∀ j u,cs[j]?=some u->w.cell? ⟨b,off+j,none⟩=some u) :
  Calls Tryz.prog 101 #[.slice (some ⟨b,off,none⟩) n c] w fun e w'=>∃ g cap cur,e=.returned (.slice (some ⟨g,0,none⟩) n cap)/\w.heap.size<=g/\w'.heap[g]?=some (.cells cur 30 (0,0))/\n<=cap/\cap<=maxLen/\cur.toList.take (n*4)=cs/\Below w.heap.size w w':=by
 cases hq:Tryz.prog.info? 30 with
 | none=>have:=cH; rw[hq] at this; cases this
 | some inf =>
  have hinf:=gL;rw[hq] at hinf;simp only[Option.map_some,Option.some.injEq,Prod.mk.injEq] at hinf;obtain⟨z1,z2,z3⟩:=hinf;have hlen:cs.length=n*4:=by rw[hats.length,hl]; rfl
  have hone:∀ u∈cs,u.oneCell'=true:=by
   intro u hu;have h:=aBi hats;rw[<- h.2] at hu;obtain⟨x,hx,hux⟩:=List.mem_flatten.1 hu;obtain⟨s,v,h1,_⟩:=h.1.right x hx;exact h1.one u hux
  refine(Go.Proofs.AnyE.slices_Clone aQx inf dX 4 64 hq z1 z2 z3 rfl (by decide) zC b off n c cs w hlen (Nat.le_trans hn2 (by decide)) (by omega) hc hone).mono ?_;rintro e w' ⟨v',rfl,⟨_,hv⟩,_,hb⟩;rcases hv with ⟨_,h0⟩ | ⟨g,cap,cur,rfl,h1,h2,h3,h4,_,h6⟩
  ·omega
  ·exact⟨g,cap,cur,rfl,h1,h2,h3,h4,h6,hb⟩
theorem aQj {w:World} {g n c:Nat} {cur:Array Value} {l:List (SA Dm)} {cs:List Value} (hn2:n<=1000000) (hl:l.length=n) {w0:World} (hats:dF w0 (some 4) l cs) (hg:w.heap[g]?=some (.cells cur 30 (0,0))) (hc:cur.toList.take (n*4)=cs) :
  Calls Tryz.prog 102 #[.slice (some ⟨g,0,none⟩) n c] w fun e w'=>e=.returned (.tuple #[])/\(∀ j u,(ck n cs).reverse.flatten[j]?=some u->w'.cell? ⟨g,0+j,none⟩=some u)/\w'.os=w.os/\w'.tape=w.tape/\w'.output=w.output/\w'.heap.size=w.heap.size/\∀ j,j≠g->w'.heap[j]?=w.heap[j]?:=by
 have hck:=aBi hats;rw[hl] at hck;have hx:∀ x∈ck n cs,x.length=4/\∀ v∈x,v.oneCell'=true:=fun x hx=>by
  obtain⟨s,v,h1,_⟩:=hck.1.right x hx;exact⟨h1.length,h1.one⟩
 have hlen:(ck n cs).length=n:=aJv;have hrow:=fun m=>aRa (n:=m) hg hx (by rw[hlen,hc,hck.2]);have hsz:(ck n cs).toArray.size=n:=by rw[List.size_toArray,hlen]
 have h:=Go.Proofs.AnyQ.slices_Reverse aT5 4 aNd zC enc4 aV6 aV5 g 0 c (ck n cs).toArray w (hrow 0).1 (by rw[hsz]; omega);rw[hsz] at h;refine h.mono ?_;rintro e w' ⟨rfl,m,rfl⟩;refine⟨rfl,(hrow m).2,rfl,rfl,rfl,?_,fun j hj=>?_⟩
 ·exact aPz _ _ _
 ·exact aPv _ _ _ hj
section
variable {cx:Cx Dm} {n:Nat}
theorem aO0 {σ:St Dm} {d:Nat} {x:XV Dm} {ρ:aR}:aT cx (upd σ [(.s d,x)]) ρ=aT cx σ ρ:=by
 have hk:∀ i,upd σ [(.s d,x)] (.b i)=σ (.b i):=fun i=>mM (by simp);unfold aT live;simp only[hk]
theorem aQ2 {C:Code} {l:Sg Dm} {K:Exit->Sg Dm->Prop} {q:List Rat} {k t u5 u6 u7 u8 u9 i1 i2:Nat} {o1 o2 o3 o4 o5 o6:Oper} (hq:0<q.length) (hq2:q.length<=1000000) (hn5:Nat.blt u5 n=true) (hn6:Nat.blt u6 n=true) (hn7:Nat.blt u7 n=true) (hn8:Nat.blt u8 n=true)
  (hd:Nat.beq t u6=false/\Nat.beq u7 u6=false/\Nat.beq u5 u7=false/\Nat.beq u8 u5=false/\Nat.beq u8 u7=false/\Nat.beq u5 u6=false)
  (g1:o1.guard=none/\o2.guard=none/\o3.guard=none/\o4.guard=none/\o5.guard=none/\o6.guard=none) (d1:o1.dst=some u6) (d2:o2.dst=some u7) (d3:o3.dst=some u5) (d4:o4.dst=none) (d5:o5.dst=some u8) (d6:o6.dst=some u9)
  (e1:o1.op=.load 24 (.tmp t)) {tys tys':Array TypeId} (e2:o2.op=.call ⟨.value (.func 101),#[.tmp u6],tys⟩) (e3:o3.op=.alloc 24) (e4:o4.op=.store 24 (.tmp u5) (.tmp u7)) (e5:o5.op=.load 24 (.tmp u5)) (e6:o6.op=.call ⟨.value (.func 102),#[.tmp u8],tys'⟩)
  (ht:aF .no l (.s t)=.av (.one (.d (Dm.gen (pG none (PL q k))))))
  (hC:CV Tryz.prog cx n C ((.s u9,.no)::(.s u8,.no)::(.s u5,.av (.one (.d (Dm.gen (pG none (PL q.reverse k))))))::(.s u7,.no)::(.s u6,.no)::l) K) :
  CV Tryz.prog cx n (.seq (.region i1 #[o1,o2,o3,o4] false) (.seq (.region i2 #[o5,o6] false) C)) l K:=by
 rw[Nat.blt_eq] at hn5 hn6 hn7 hn8;obtain⟨x1,x2,x3,x4,x5,x6⟩:=hd;replace x1:=Nat.ne_of_beq_eq_false x1;replace x2:=Nat.ne_of_beq_eq_false x2;replace x3:=Nat.ne_of_beq_eq_false x3;replace x4:=Nat.ne_of_beq_eq_false x4;replace x5:=Nat.ne_of_beq_eq_false x5;replace x6:=Nat.ne_of_beq_eq_false x6;obtain⟨y1,y2,y3,y4,y5,y6⟩:=g1;refine⟨fun a w ⟨ρ,h⟩=>?_⟩;obtain⟨b,off,u,q1,_,cs0,q3,q4,q5⟩:=aNx (ρ:=ρ) (k:=none) (by decide) (h.slt t _ ht);obtain⟨ao,cap,rfl,_,q6⟩:=uI (ρ:=ρ) (by decide) (yC (ρ:=ρ) q4);rw[aV] at q6;obtain⟨b',off',rfl,_,cs,q7,q8⟩:=q6 hq;rw[aV] at q3 q4;have qv:a.eval (.tmp t)=.pointer (some ⟨b,off,none⟩):=q1;refine wp_seq (wp_region_list ?_);refine wpList_step fun K1 hK1=>?_;rw[if_pos (by simp[Region.wanted,y1])];have r1:(execOp a.eval o1).run Tryz.prog w=.ok (.value (.slice (some ⟨b',off',none⟩) q.length cap)) w:=by
  simp only[execOp,e1,qv,Sem.run_bind,Instr.loadAt,Instr.sureAddr,Sem.run_pure,Result.andThen_ok,vW q5 q3 dM]
 unfold Oper.wp;rw[r1,Oper.upon_value,d1];refine hK1 _ _ ?_;clear hK1 K1 r1;have sz1:(a.put (some u6) (.slice (some ⟨b',off',none⟩) q.length cap)).tmps.size=n:=by rw[Pu.size_put]; exact h.size
 have t6:(a.put (some u6) (.slice (some ⟨b',off',none⟩) q.length cap)).tmps.getD u6 undef=.slice (some ⟨b',off',none⟩) q.length cap:=by rw[jK hn6 h.size,if_pos rfl]
 obtain⟨a1,ha1⟩:∃ a1,a1=a.put (some u6) (.slice (some ⟨b',off',none⟩) q.length cap):=⟨_,rfl⟩
 rw[<- ha1] at sz1 t6 |-;refine wpList_step fun K1 hK1=>?_;rw[if_pos (by simp[Region.wanted,y2])];unfold Oper.wp;rw[xC (d:=u7) e2 Tryz.func101 rfl rfl,Oper.upon_enter];show Calls _ _ #[a1.tmps.getD u6 undef] _ _;rw[t6];refine(aT1 hq hq2 aV (q7 w (Agree.refl _ _)) q8).mono ?_;rintro e w1 ⟨g,cap1,cur,rfl,c1,c2,c3,c4,c5,c6⟩;show K1 (a1.put o2.dst _) w1;rw[d2];refine hK1 _ _ ?_;clear hK1 K1;obtain⟨v7,hv7⟩:∃ v7:Value,v7=.slice (some ⟨g,0,none⟩) q.length cap1:=⟨_,rfl⟩
 rw[<- hv7];have hgl:g<w1.heap.size:=by
  rcases Nat.lt_or_ge g w1.heap.size with hl | hl
  ·exact hl
  ·rw[Array.getElem?_eq_none hl] at c2; cases c2
 have yM:(a1.put (some u7) v7).tmps.size=n:=by rw[Pu.size_put]; exact sz1
 have t7:(a1.put (some u7) v7).tmps.getD u7 undef=v7:=by rw[jK hn7 sz1,if_pos rfl]
 obtain⟨a2,ha2⟩:∃ a2,a2=a1.put (some u7) v7:=⟨_,rfl⟩
 rw[<- ha2] at yM t7 |-;refine wpList_step fun K1 hK1=>?_;rw[if_pos (by simp[Region.wanted,y3])];have hzr:(zeroValue 24).run Tryz.prog w1=.ok (.slice none 0 0) w1:=by
  cases hq:Tryz.prog.info? 24 with
  | none=>have:=aC9; rw[hq] at this; cases this
  | some inf =>
   have hz:=aC9;rw[hq] at hz;simp only[Option.map_some,Option.some.injEq] at hz;simp[zeroValue,typeInfo,hq,hz]
 have r3:(execOp a2.eval o3).run Tryz.prog w1=.ok (.value (.pointer (some ⟨w1.heap.size,0,none⟩))) (w1.alloc (.cells #[.slice none 0 0] 24)):=by
  rw[show (#[.slice none 0 0]:Array Value)=(Value.slice none 0 0).cells from rfl];simp only[execOp,e3,Sem.run_bind,Instr.alloc,hzr,newVar,newRow,run_newObj_alloc,Sem.run_pure,Result.andThen_ok]
 unfold Oper.wp;rw[r3,Oper.upon_value,d3];refine hK1 _ _ ?_;clear hK1 K1 r3 hzr;have sz3:(a2.put (some u5) (.pointer (some ⟨w1.heap.size,0,none⟩))).tmps.size=n:=by rw[Pu.size_put]; exact yM
 have t5:(a2.put (some u5) (.pointer (some ⟨w1.heap.size,0,none⟩))).tmps.getD u5 undef=.pointer (some ⟨w1.heap.size,0,none⟩):=by rw[jK hn5 yM,if_pos rfl]
 have t7':(a2.put (some u5) (.pointer (some ⟨w1.heap.size,0,none⟩))).tmps.getD u7 undef=v7:=by rw[jK hn5 yM,if_neg (fun e=>x3 e.symm)]; exact t7
 obtain⟨a3,ha3⟩:∃ a3,a3=a2.put (some u5) (.pointer (some ⟨w1.heap.size,0,none⟩)):=⟨_,rfl⟩
 rw[<- ha3] at sz3 t5 t7' |-;have hw2:(w1.alloc (.cells #[.slice none 0 0] 24)).heap[w1.heap.size]?=some (.cells #[.slice none 0 0] 24 (0,0)):=heap_alloc_new w1 _;have hw2b:Below w1.heap.size w1 (w1.alloc (.cells #[.slice none 0 0] 24)):=(Below.refl _ _).alloc (Nat.le_refl _) _;have hs2:(w1.alloc (.cells #[.slice none 0 0] 24)).heap.size=w1.heap.size+1:=Array.size_push _;obtain⟨w2,hw2e⟩:∃ w2,w2=w1.alloc (.cells #[.slice none 0 0] 24):=⟨_,rfl⟩
 rw[<- hw2e] at hw2 hw2b hs2 |-;refine wpList_step fun K1 hK1=>?_;rw[if_pos (by simp[Region.wanted,y4])];have r4:(execOp a3.eval o4).run Tryz.prog w2=.ok .skip (w2.setCells w1.heap.size 0 [v7]):=by
  have hst:=run_storeCells_cells (P:=Tryz.prog) w1.heap.size 0 [v7] 0 w2 (fun j hj=>by
   obtain rfl:j=0:=by simpa using hj
   simp[World.cell?,hw2]) (fun j hj=>by simp[World.frozen?,hw2]) (by intro c hc; rw[List.mem_singleton.1 hc,hv7]; rfl)
  have ev5:a3.eval (.tmp u5)=.pointer (some ⟨w1.heap.size,0,none⟩):=t5;have ev7:a3.eval (.tmp u7)=v7:=t7';have ec:v7.cells=#[v7]:=by rw[hv7]; rfl
  cases hq:Tryz.prog.info? 24 with
  | none=>have:=wU; rw[hq] at this; cases this
  | some inf =>
   have e:inf.size=1:=by have:=wU; rw[hq] at this; simpa using this
   simp[execOp,e4,ev5,ev7,Instr.storeAt,Instr.sureAddr,storeVar,sizeOf,typeInfo,hq,ec,e,hst]
 unfold Oper.wp;rw[r4,Oper.upon_skip,d4];refine hK1 _ _ ?_;clear hK1 K1 r4;show wpList _ _ _ [] a3 _;obtain⟨w3,hw3⟩:∃ w3,w3=w2.setCells w1.heap.size 0 [v7]:=⟨_,rfl⟩
 rw[<- hw3];have h3s:w3.heap.size=w1.heap.size+1:=by rw[hw3,lC,hs2]
 have h3o:∀ j,j≠w1.heap.size->w3.heap[j]?=w2.heap[j]?:=fun j hj=>by rw[hw3]; exact mD _ _ _ _ j hj
 have h3c:w3.heap[w1.heap.size]?=some (.cells #[v7] 24 (0,0)):=by
  rw[hw3];simp[World.setCells,World.setCell,Array.getElem?_modify,hw2]
 have h3g:w3.heap[g]?=some (.cells cur 30 (0,0)):=by rw[h3o g (by omega),hw2b.block g hgl]; exact c2
 have h3b:Below w1.heap.size w1 w3:=by
  refine⟨?_,?_,?_,by omega,fun j hj=>by rw[h3o j (by omega)]; exact hw2b.block j hj⟩
  ·rw[hw3,os_setCells]; exact hw2b.os
  ·rw[hw3,nU]; exact hw2b.tape
  ·rw[hw3,nV]; exact hw2b.output
 clear hw3 hw2 hw2b hs2 h3o hw2e;show Exit.then _ _ .normal a3 w3;refine wp_seq (wp_region_list ?_);refine wpList_step fun K1 hK1=>?_;rw[if_pos (by simp[Region.wanted,y5])];have r5:(execOp a3.eval o5).run Tryz.prog w3=.ok (.value v7) w3:=by
  have ev5:a3.eval (.tmp u5)=.pointer (some ⟨w1.heap.size,0,none⟩):=t5;have hl:=vW (P:=Tryz.prog) (w:=w3) (b:=w1.heap.size) (off:=0) (cs:=[v7]) (k:=none) (v:=v7) (fun j c hj=>by
   obtain⟨hj1,hj2⟩:=List.getElem?_eq_some_iff.1 hj;obtain rfl:j=0:=by simpa using hj1
   simp at hj2;simp[World.cell?,h3c,hj2]) ⟨rfl,by rw[hv7]; rfl⟩ dM
  simp only[execOp,e5,ev5,Sem.run_bind,Instr.loadAt,Instr.sureAddr,Sem.run_pure,Result.andThen_ok,hl]
 unfold Oper.wp;rw[r5,Oper.upon_value,d5];refine hK1 _ _ ?_;clear hK1 K1 r5;have sz4:(a3.put (some u8) v7).tmps.size=n:=by rw[Pu.size_put]; exact sz3
 have t8:(a3.put (some u8) v7).tmps.getD u8 undef=v7:=by rw[jK hn8 sz3,if_pos rfl]
 obtain⟨a4,ha4⟩:∃ a4,a4=a3.put (some u8) v7:=⟨_,rfl⟩
 rw[<- ha4] at sz4 t8 |-;refine wpList_step fun K1 hK1=>?_;rw[if_pos (by simp[Region.wanted,y6])];unfold Oper.wp;rw[xC (d:=u9) e6 Tryz.func102 rfl rfl,Oper.upon_enter];show Calls _ _ #[a4.tmps.getD u8 undef] _ _;rw[t8,hv7];refine(aQj hq2 aV (q7 w (Agree.refl _ _)) h3g c5).mono ?_;rintro e w4 ⟨rfl,k1,k2,k3,k4,k5,k6⟩;show K1 (a4.put o6.dst _) w4;rw[d6];refine hK1 _ _ ?_;clear hK1 K1;show Exit.then _ _ .normal _ w4;have hb4:Below w.heap.size w w4:=by
  refine⟨k2.trans (h3b.os.trans c6.os),k3.trans (h3b.tape.trans c6.tape),k4.trans (h3b.output.trans c6.output),by have:=c6.size; omega,fun j hj=>?_⟩;rw[k6 j (by omega),h3b.block j (by have:=c6.size; omega)];exact c6.block j hj
 refine hC.run _ w4 ⟨ρ,?_⟩;rw[show ((.s u9,.no)::(.s u8,.no)::(.s u5,.av (.one (.d (Dm.gen (pG none (PL q.reverse k))))))::(.s u7,.no)::(.s u6,.no)::l:Sg Dm)=[(.s u9,.no)]++([(.s u8,.no)]++([(.s u5,.av (.one (.d (Dm.gen (pG none (PL q.reverse k))))))]++([(.s u7,.no)]++([(.s u6,.no)]++l)))) from rfl,<- fZ,<- fZ,<- fZ,<- fZ,<- fZ];refine Conc.lose ?_ (Below.refl _ _);rw[ha4];refine Conc.lose ?_ (Below.refl _ _);rw[ha3];have hc2:Conc cx n ρ (upd (upd (aF .no l) [(.s u6,.no)]) [(.s u7,.no)]) a2 w4:=by
  rw[ha2];refine Conc.lose (w:=w) ?_ hb4;rw[ha1];exact h.lose (Below.refl _ _)
 refine hc2.put (Below.refl _ _) hn5 ?_ (by intro b hb; cases hb);rw[aO0,aO0];intro w5 hag;have hLw:∀ i,w.heap.size<=i->¬ aT cx (aF .no l) ρ i:=fun i hi hl=>by have:=h.lofLt i hl; omega
 have hag1:Agree (aT cx (aF .no l) ρ) w w5:=(Agree.below hb4).trans hag;have s1:=c6.size;have e5:w5.heap[w1.heap.size]?=some (.cells #[v7] 24 (0,0)):=by
  rw[hag.2 _ (by omega) (hLw _ (by omega)),k6 _ (by omega)];exact h3c
 have eg:w5.heap[g]?=w4.heap[g]?:=hag.2 _ (by omega) (hLw _ c1);have hrev:dF w5 (some 4) (bB q.reverse k) (ck q.length cs).reverse.flatten:=by
  have:=aLr (aBi (q7 w5 hag1)).1.reverse;rw[aV] at this;rw[show bB q.reverse k=(bB q k).reverse by simp[bB]];exact this
 refine⟨w1.heap.size,0,v7,rfl,[v7],⟨rfl,by rw[hv7]; rfl⟩,?_,fun j c hj=>?_⟩
 ·show bO.dat (Dm.gen (cA (some 4) (bB q.reverse k))) w5 v7;have hl:=cS (some 4) (bB q.reverse k) w5 g 0 cap1 _ (by rw[aV,List.length_reverse]; exact c3) c4 hrev (fun j u hj=>by
   rw[<- k1 j u hj];exact World.cell?_of_block eg)
  rw[aV,List.length_reverse] at hl;rw[hv7];exact hl
 ·obtain⟨hj1,hj2⟩:=List.getElem?_eq_some_iff.1 hj;obtain rfl:j=0:=by simpa using hj1
  simp at hj2;simp[World.cell?,e5,hj2]
end
end Vc
end Go.Proofs.YtbaihklbefhgdaaGreat

namespace Go.Proofs.YtbaihklbefhgdaaGreat
open Go.RowKit
open Go.Lib (hid)
open Dg Zn
namespace Vc
set_option maxRecDepth 100000
theorem aO7 (l:List Rat) (K:Nat):PL l K=RL (fun i=>l.getD i 0) K l.length:=by
 show SA.d (Dm.gen (cA (some 4) (bB l K)))=SA.d (Dm.gen (cA (some 4) (iN _ K _)));rw[uB,aUo]
def aGp (p q:List Rat):Rat:=dE (fun i=>p.getD i 0*q.getD i 0) (min p.length q.length)
theorem aJy {K i j:Nat} (h:i<=j):lU K i<=lU K j:=by
 induction h with
 | refl=>exact Nat.le_refl _
 | step _ ih=>rw[lU]; omega
theorem aUa (p q:List Rat) (K M:Nat) (hp:p.length<=1000000) (hq:q.length<=1000000) (hK:K<=1000000) (hM:min p.length q.length<=M) (hb:lU (3*(K+K)+20) M<=10000000):aD Tryz.prog 105 [PL p K,PL q K] (.one (RT (aGp p q) (lU (3*(K+K)+20) M))):=by
 rw[aO7 p,aO7 q];refine(aWr (fun i=>p.getD i 0) (fun i=>q.getD i 0) K p.length q.length hp hq hK (fun i hi=>Nat.le_trans (aJy (Nat.le_trans hi hM)) hb)).mono (fun _ _ _ _ h=>h) ?_;exact dZ rfl rfl (aJy hM)
def nO (p q:List Rat) (k:Nat):Rat:=aGp (p.drop (k-(q.length-1))) (q.reverse.drop (q.length-1-k))
def bD (p q:List Rat):List Rat:=aI (tab (nO p q) (p.length+q.length-1))
section
variable (p q:List Rat) (K M B k:Nat) (hq0:0<q.length) (hk:k<p.length+q.length-1) (hp:p.length<=1000000) (hq:q.length<=1000000) (hK:K<=1000000) (hM:min p.length q.length<=M) (hb:lU (3*(K+K)+20) M<=10000000) (hs:aH [nO p q k] B=true)
include hq0 hk hp hq hK hM hb hs
theorem aWu:aD Tryz.prog 104 [.v (.int .i64 (k:Int)),iP q K,iP p K,iP q.reverse K] (.one (RT (nO p q k) B)):=by
 refine aD.of (n:=21) Tryz.func104 rfl rfl rfl rfl rfl fun cx hfr=>?_;refine sr rfl ?_;refine p2 (aU (i:=0) cI) ?_;refine RV.done (sr rfl ?_);refine p1 (bT dM) ?_;refine xc (qK _ _ hq) Tryz.func68 (xa rfl) hfr ?_;refine xm ?_;refine p1 (dU (c:=(q.length:Int)-1-k) (by rw[bV (by omega) (by omega)]) rfl rfl bd rfl rfl) ?_;refine xn ?_;refine RV.done ?_;refine CV.seq ?_;refine CV.region rfl (fun _=>by kernel_rfl) ?_;refine p1 (bT dM) ?_;refine xm ?_;refine p1 (aZe (c:=(k:Int)-(q.length-1)) (by rw[bV (by omega) (by omega)]; omega) rfl rfl bd rfl) ?_;refine p1 (xH (c:=((k-(q.length-1):Nat):Int)) (by split<;>omega) rfl rfl bd rfl rfl) ?_;refine p1 (pK (k:=some 4) (l':=bB (p.drop (k-(q.length-1))) K) (some (k-(q.length-1))) none none (by show ((bB p K).take (bB p K).length).drop (k-(q.length-1))=_; rw[List.take_length,zX]) (by decide) (by show k-(q.length-1)<=(bB p K).length; rw[aV]; omega) (Nat.le_refl _) (Nat.le_refl _) (fun _=>rfl) bE cH rfl rfl bd rfl rfl trivial trivial) ?_;refine p1 (bT dM) ?_;refine xm ?_;refine p1 (xH (c:=((q.length-1-k:Nat):Int)) (by split<;>omega) rfl rfl bd rfl rfl) ?_;refine p1 (pK (k:=some 4) (l':=bB (q.reverse.drop (q.length-1-k)) K) (some (q.length-1-k)) none none (by show ((bB q.reverse K).take (bB q.reverse K).length).drop (q.length-1-k)=_; rw[List.take_length,zX]) (by decide) (by show q.length-1-k<=(bB q.reverse K).length; rw[aV,List.length_reverse]; omega) (Nat.le_refl _) (Nat.le_refl _) (fun _=>rfl) bE cH rfl rfl bd rfl rfl trivial trivial) ?_;refine xd rfl ((aUa (p.drop (k-(q.length-1))) (q.reverse.drop (q.length-1-k)) K M (by rw[List.length_drop]; omega) (by rw[List.length_drop,List.length_reverse]; omega) hK (by rw[List.length_drop,List.length_drop,List.length_reverse]; omega) hb).mono (fun _ _ _ _ h=>h) (eQ hs)) Tryz.func105 (xb rfl rfl) hfr ?_;refine p1 (aQ (aC).2) ?_;refine bU (by kernel_rfl) ?_;refine CV.ret ?_;exact aS rfl (.inr rfl) ⟨_,_,_,_,_,rfl,rfl,rfl,aC⟩ cL
end
theorem aYz {g:Nat->Rat} {n B k:Nat} (h:aH (tab g n) B=true) (hk:k<n):aH [g k] B=true:=by
 have:=List.all_eq_true.1 h (g k) (by unfold tab; exact List.mem_map.2 ⟨k,List.mem_range.2 hk,rfl⟩);show ([g k].all _)=true;rw[List.all_cons,this];rfl
section
variable (p q:List Rat) (K M B:Nat) (hq0:0<q.length) (hp:p.length<=100000) (hq:q.length<=100000) (hK:K<=1000000) (hM:min p.length q.length<=M) (hb:lU (3*(K+K)+20) M<=10000000) (hs:aH (tab (nO p q) (p.length+q.length-1)) B=true)
include hq0 hp hq hK hM hb hs
theorem aWs:aD Tryz.prog 33 [PL p K,PL q K] (.one (PL (bD p q) B)):=by
 refine aD.of (n:=18) Tryz.func33 rfl rfl rfl rfl rfl fun cx hfr=>?_;refine sr rfl ?_;refine p1 (lL) ?_;refine p1 (lL) ?_;refine xn ?_;refine RV.done ?_;refine aQ2 (q:=q) (k:=K) hq0 (by omega) rfl rfl rfl rfl ⟨rfl,rfl,rfl,rfl,rfl,rfl⟩ ⟨rfl,rfl,rfl,rfl,rfl,rfl⟩ rfl rfl rfl rfl rfl rfl rfl rfl rfl rfl rfl rfl rfl ?_;refine sr rfl ?_;refine p1 (bT dM) ?_;refine p1 (bL aV bE) ?_;refine p1 (bT dM) ?_;refine p1 (bL aV bE) ?_;refine p1 (cP (c:=((p.length+q.length:Nat):Int)) (by rw[bV (by omega) (by omega)]; omega) rfl rfl bd rfl rfl) ?_;refine p1 (dU (c:=((p.length+q.length-1:Nat):Int)) (by rw[bV (by omega) (by omega)]; omega) rfl rfl bd rfl rfl) ?_;refine p1 (uR (caps:=[.tmp 3,.tmp 2,.tmp 5]) (ss:=[_,_,_]) rfl rfl bd (.cons rfl cT.any (xb rfl rfl)) rfl) ?_;refine xd rfl (aAa (nO p q) B (p.length+q.length-1) ((p.length+q.length-1:Nat):Int) (by omega) (by omega) Tryz.func104 rfl rfl (caps:=[iP q K,iP p K,iP q.reverse K]) (fun k hk=>aWu p q K M B k hq0 hk (by omega) (by omega) hK hM hb (aYz hs hk))) Tryz.func103 (xb rfl rfl) hfr ?_;refine xn ?_;refine RV.done ?_;refine CV.ret ?_;exact aS rfl (.inr rfl) rfl cL
end
theorem aR4 {P:Program} {ty ty' e rty:TypeId} {x y:Value} {w:World} (hu:P.underlying ty=some (.slice e)) (hu':P.underlying ty'=some (.slice e)):(Builtin.append_ #[ty,ty'] rty #[x,y]).run P w=(Builtin.append_ #[ty,ty] rty #[x,y]).run P w:=by
 unfold Builtin.append_;cases x<;>simp[Sem.run_bind,run_underlying hu,run_underlying hu']
section
variable {D:Type} [bO D] {P:Program} {cx:Cx D} {n:Nat} {σ:St D} {o:Oper}
theorem aN.two {ty ty' e:TypeId} {x y:Operand} {rd:List Key} {wr:List (Key × XV D)} (hu:P.underlying ty=some (.slice e)) (hu':P.underlying ty'=some (.slice e)) (ho:o.op=.call ⟨.builtin .append,#[x,y],#[ty,ty']⟩)
  (h:aN P cx n σ { o with op:=.call ⟨.builtin .append,#[x,y],#[ty,ty]⟩ } rd wr):aN P cx n σ o rd wr:=by
 intro σ' a w Q hC h1 h2 K hK;have:=h σ' a w Q hC h1 h2 K hK;unfold Oper.wp at this |-;have e:(execOp a.eval o).run P w=(execOp a.eval { o with op:=.call ⟨.builtin .append,#[x,y],#[ty,ty]⟩ }).run P w:=by
  simp only[execOp,ho,resolve,invoke,builtin,Sem.run_bind,Sem.run_pure,Result.andThen_ok];rw[show (#[x,y]:Array Operand).map a.eval=#[a.eval x,a.eval y] by simp,aR4 hu hu']
 rw[e];exact this
end
theorem wJ {l:List Rat} {j:Nat} (h:j<l.length):l.take (j+1)=l.take j++[l.getD j 0]:=by
 rw[List.take_add_one,List.getElem?_eq_getElem h];simp[List.getD_eq_getElem?_getD,List.getElem?_eq_getElem h]
theorem oA (l:List Rat) (K:Nat) (hl:l.length<=1000000):aD Tryz.prog 66 [PL l K] (.one (PL (aI l) K)):=by
 refine aD.of (n:=26) Tryz.func66 rfl rfl rfl rfl rfl fun cx hfr=>?_;refine sr rfl ?_;refine xn ?_;refine RV.done (sr rfl ?_);refine xm ?_;refine p1 (bL aV bY) ?_;refine xn ?_;refine RV.done ?_;refine CV.seq ?_;refine CV.block ?_;refine CV.loop (X:={m:Nat // m<=l.length/\aI (l.take m)=aI l}) (fun m=>[(.s 3,.av (.one (.v (.int .i64 (m.1:Int))))),(.s 0,.av (.one (PL l K)))]) (fun m=>m.1) ⟨l.length,Nat.le_refl _,by rw[List.take_length]⟩ (aZ.mk ⟨aB _,aB _,trivial⟩ rfl rfl) (fun m=>?_);obtain⟨m,hm,ht⟩:=m;simp only;refine CV.seq ?_;refine sr rfl ?_;refine xm ?_;refine p1 (gC) ?_;refine xm ?_;refine RV.bool (fun h0=>?_) (fun h0=>?_)
 ·obtain⟨j,hj⟩:∃ j,m=j+1:=⟨m-1,by have:=of_decide_eq_true h0; omega⟩
  refine y1 (cB (.inl rfl)) ?_;refine y1 (cB (.inl rfl)) ?_;refine y1 (dU (c:=(j:Int)) (by rw[bV (by omega) (by omega)]; omega) rfl rfl bd rfl rfl) ?_;refine y1 (xH (c:=(j:Int)) (by split<;>omega) rfl rfl bd rfl rfl) ?_;refine y1 (cV (k:=some 4) (i:=j) (dN (by omega)) bY cH rfl rfl bd rfl rfl (by decide)) ?_;refine y1 (bT aC) ?_;refine y1 (cG (aRe _ _) rfl rfl bd Tryz.func91 rfl rfl (xa rfl) rfl hfr rfl) ?_;refine y1 (cW) ?_;refine p1 (cX) ?_;refine RV.done ?_;refine CV.cond rfl (fun hc=>?_) (fun hc=>?_)
  ·refine CV.skip ?_;refine CV.block ?_;refine CV.region rfl (fun h=>nomatch h) ?_;refine xm ?_;refine p1 (dU (c:=(j:Int)) (by rw[bV (by omega) (by omega)]; omega) rfl rfl bd rfl rfl) ?_;refine xn ?_;refine RV.done ?_;have ha:l.getD j 0=0:=uM.1 (beq_iff_eq.1 hc);exact⟨⟨j,by omega,by rw[<- ht,hj,wJ (by omega),rU,if_pos ha]⟩,aZ.mk ⟨aB _,aB _,trivial⟩ rfl rfl,by show j<m; omega⟩
  ·refine CV.exit ?_;refine CV.seq ?_;have ht2:l.take m=aI l:=(by have ha:l.getD j 0≠0:=(fun e=>by rw[beq_eq_false_iff_ne] at hc; exact hc (uM.2 e)); rw[<- ht,hj,wJ (by omega),rU,if_neg ha])
   refine CV.region rfl (fun h=>nomatch h) ?_;refine xn ?_;refine RV.done ?_;refine CV.seq ?_;refine oD 4 100 30 (some 4) rfl rfl rfl rfl ?_;refine CV.region rfl (fun h=>nomatch h) ?_;refine xm ?_;refine xm ?_;refine xm ?_;refine p1 (pK (k:=some 4) (l':=bB (l.take m) K) none (some m) none (by show ((bB l K).take m).drop 0=_; rw[List.drop_zero,wY]) (by decide) (Nat.zero_le _) (by show m<=(bB l K).length; rw[aV]; omega) (Nat.le_refl _) (fun h=>nomatch h) bY cH rfl rfl bd rfl trivial rfl trivial) ?_;refine gI (aN.plain (aN.two bE bY rfl (aH1 (r:=100) (r':=101) (k:=some 4) (G:=Dm.gen (cA (some 4) ([]++bB (l.take m) K))) (cx.bw hfr) (gU (by decide) pC) (cS _ _) (iS _ _) (by rw[aV,List.length_take]; show (0+min m l.length)*64<=_; omega) (by rw[aV,List.length_take]; show 0+min m l.length<=_; omega) bE gL rfl rfl rfl qM rfl rfl rfl bd rfl rfl rfl rfl rfl rfl rfl rfl)) rfl) ?_;refine xn ?_;refine RV.done ?_;refine CV.ret ?_;exact aS rfl (.inr rfl) rfl (lR (by rw[List.nil_append,ht2]))
 ·refine xk ?_;refine xk ?_;refine xk ?_;refine xk ?_;refine xk ?_;refine xk ?_;refine xk ?_;refine xk ?_;refine p1 (eI) ?_;refine RV.done ?_;refine CV.no rfl ?_;refine CV.exit ?_;refine CV.seq ?_;have ht2:l.take m=aI l:=(by have h1:m=0:=(by have:=of_decide_eq_false h0; omega); rw[<- ht,h1]; rfl)
  refine CV.region rfl (fun h=>nomatch h) ?_;refine xn ?_;refine RV.done ?_;refine CV.seq ?_;refine oD 4 100 30 (some 4) rfl rfl rfl rfl ?_;refine CV.region rfl (fun h=>nomatch h) ?_;refine xm ?_;refine xm ?_;refine xm ?_;refine p1 (pK (k:=some 4) (l':=bB (l.take m) K) none (some m) none (by show ((bB l K).take m).drop 0=_; rw[List.drop_zero,wY]) (by decide) (Nat.zero_le _) (by show m<=(bB l K).length; rw[aV]; omega) (Nat.le_refl _) (fun h=>nomatch h) bY cH rfl rfl bd rfl trivial rfl trivial) ?_;refine gI (aN.plain (aN.two bE bY rfl (aH1 (r:=100) (r':=101) (k:=some 4) (G:=Dm.gen (cA (some 4) ([]++bB (l.take m) K))) (cx.bw hfr) (gU (by decide) pC) (cS _ _) (iS _ _) (by rw[aV,List.length_take]; show (0+min m l.length)*64<=_; omega) (by rw[aV,List.length_take]; show 0+min m l.length<=_; omega) bE gL rfl rfl rfl qM rfl rfl rfl bd rfl rfl rfl rfl rfl rfl rfl rfl)) rfl) ?_;refine xn ?_;refine RV.done ?_;refine CV.ret ?_;exact aS rfl (.inr rfl) rfl (lR (by rw[List.nil_append,ht2]))
theorem aAo (l:List Rat) (K:Nat) (k:Int):aD Tryz.prog 228 [PL l K,.v (.int .i64 k)] (.one (RT (atR l k) K)):=by
 refine aD.of (n:=18) Tryz.func228 rfl rfl rfl rfl rfl fun cx hfr=>?_;refine sr rfl ?_;refine p2 (aU (i:=0) cI) ?_;refine RV.done ?_;refine CV.seq ?_;refine sr rfl ?_;refine xm ?_;refine p1 (dP) ?_;refine xm ?_;refine RV.bool (fun hn=>?_) (fun hn=>?_)
 ·refine xk ?_;refine xk ?_;refine xk ?_;refine xk ?_;refine p1 (cX) ?_;refine RV.done ?_;refine CV.yes rfl ?_;refine sr rfl ?_;refine p1 (pA) ?_;refine p1 (aQ (aC).2) ?_;refine RV.done ?_;refine CV.ret ?_;exact aS rfl (.inr rfl) ⟨_,_,_,_,_,rfl,rfl,rfl,aC⟩ (aBb (by unfold atR; rw[if_pos (of_decide_eq_true hn)]) (Nat.zero_le _))
 ·obtain⟨j,rfl⟩:∃ j:Nat,k=(j:Int):=⟨k.toNat,by have:=of_decide_eq_false hn; omega⟩
  refine y1 (cB (.inl rfl)) ?_;refine y1 (cB (.inl rfl)) ?_;refine y1 (bL aV bE) ?_;refine y1 (qX) ?_;refine p1 (eI) ?_;refine RV.done ?_;refine CV.cond rfl (fun hc=>?_) (fun hc=>?_)
  ·refine sr rfl ?_;refine p1 (pA) ?_;refine p1 (aQ (aC).2) ?_;refine RV.done ?_;refine CV.ret ?_;exact aS rfl (.inr rfl) ⟨_,_,_,_,_,rfl,rfl,rfl,aC⟩ (aBb (by have:=of_decide_eq_true hc; rw[qV,dI (by omega)]) (Nat.zero_le _))
  ·refine CV.skip ?_;refine sr rfl ?_;refine xm ?_;refine xm ?_;refine p1 (cV (k:=some 4) (i:=j) (dN (by have:=of_decide_eq_false hc; omega)) bE cH rfl rfl bd rfl rfl (by decide)) ?_;refine p1 (bT aC) ?_;refine p1 (aQ (aC).2) ?_;refine RV.done ?_;refine CV.ret ?_;exact aS rfl (.inr rfl) ⟨_,_,_,_,_,rfl,rfl,rfl,aC⟩ (lR (by rw[qV]))
theorem aX9 {p q:List Rat} (hl:p.length=q.length) (h:p.take p.length=q.take p.length):p=q:=by
 rw[List.take_length,hl,List.take_length] at h;exact h
theorem aRi (p q:List Rat) (K J:Nat) (hp:p.length<=1000000) (hq:q.length<=1000000):aD Tryz.prog 154 [PL p K,PL q J] (.one (.v (.bool (decide (p=q))))):=by
 refine aD.of (n:=27) Tryz.func154 rfl rfl rfl rfl rfl fun cx hfr=>?_;refine sr rfl ?_;refine xn ?_;refine RV.done ?_;refine CV.seq ?_;refine sr rfl ?_;refine xm ?_;refine p1 (bL aV bE) ?_;refine xm ?_;refine p1 (bL aV bE) ?_;refine p1 (pT) ?_;refine RV.done ?_;refine CV.cond rfl (fun h0=>?_) (fun h0=>?_)
 ·refine sr rfl ?_;refine xn ?_;refine RV.done ?_;refine CV.ret ?_;exact aS rfl (.inr rfl) rfl (gB (by symm; rw[decide_eq_false_iff_not]; rintro rfl; rw[bne_iff_ne] at h0; exact h0 rfl))
 ·have hl:p.length=q.length:=(by rw[bne_eq_false_iff_eq] at h0; omega)
  refine CV.skip ?_;refine CV.seq ?_;refine sr rfl ?_;refine xn ?_;refine RV.done ?_;refine CV.block ?_;refine CV.loop (X:={k:Nat // k<=p.length/\p.take k=q.take k}) (fun k=>[(.s 5,.av (.one (.v (.int .i64 (k.1:Int))))),(.s 0,.av (.one (PL p K))),(.s 1,.av (.one (PL q J)))]) (fun k=>p.length-k.1) ⟨0,Nat.zero_le _,rfl⟩ (aZ.mk ⟨aB _,aB _,aB _,trivial⟩ rfl rfl) (fun k=>?_);obtain⟨k,hk,hkt⟩:=k;simp only;refine CV.seq ?_;refine sr rfl ?_;refine xm ?_;refine xm ?_;refine p1 (bL aV bE) ?_;refine p1 (dP) ?_;refine RV.done ?_;refine CV.cond rfl (fun hc=>?_) (fun hc=>?_)
  ·have hlt:k<p.length:=(by have:=of_decide_eq_true hc; omega)
   refine CV.skip ?_;refine CV.seq ?_;refine CV.block ?_;refine CV.seq ?_;refine CV.region rfl (fun _=>by kernel_rfl) ?_;refine xm ?_;refine xm ?_;refine p1 (cV (k:=some 4) (i:=k) (dN hlt) bE cH) ?_;refine p1 (bT aC) ?_;refine xm ?_;refine xm ?_;refine p1 (cV (k:=some 4) (i:=k) (dN (by omega)) bE cH rfl rfl bd rfl rfl (by decide)) ?_;refine p1 (bT aC) ?_;refine xc (aHq _ _ _ _) Tryz.func29 (xb rfl rfl) hfr ?_;refine p1 (lN) ?_;refine bU (by kernel_rfl) ?_;refine CV.cond rfl (fun hd=>?_) (fun hd=>?_)
   ·refine sr rfl ?_;refine xn ?_;refine RV.done ?_;refine CV.ret ?_;exact aS rfl (.inr rfl) rfl (gB (by symm; rw[decide_eq_false_iff_not]; rintro rfl; simp at hd))
   ·refine CV.skip ?_;refine CV.region rfl (fun h=>nomatch h) ?_;refine xm ?_;refine p1 (cP (c:=((k+1:Nat):Int)) (by rw[bV (by omega) (by omega)]; omega) rfl rfl bd rfl rfl) ?_;refine xn ?_;refine RV.done ?_;have he:p.getD k 0=q.getD k 0:=(by simpa using hd)
    exact⟨⟨k+1,hlt,by rw[wJ hlt,wJ (by omega),hkt,he]⟩,aZ.mk ⟨aB _,aB _,aB _,trivial⟩ rfl rfl,by show p.length-(k+1)<p.length-k; omega⟩
  ·refine CV.exit ?_;refine sr rfl ?_;refine xn ?_;refine RV.done ?_;refine CV.ret ?_;exact aS rfl (.inr rfl) rfl (gB (by symm; rw[decide_eq_true_eq]; have hkp:k=p.length:=(by have:=of_decide_eq_false hc; omega); rw[hkp] at hkt; exact aX9 hl hkt))
end Vc
end Go.Proofs.YtbaihklbefhgdaaGreat
