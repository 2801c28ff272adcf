/-
  
-/
set_option linter.unusedVariables false
set_option linter.unusedSimpArgs false
set_option linter.unusedSectionVars false
namespace Go.Proofs.YtbaihklbefhgdaaGreat.W
def be:Nat->Nat->List Nat
 | 0,_=>[]
 | k+1,m=>(m/256^k%256)::be k m
def val:List Nat->Nat
 | []=>0
 | d::ds=>d*256^ds.length+val ds
theorem val_append (a b:List Nat):val (a++b)=val a*256^b.length+val b:=by
 induction a with
 | nil=>simp[val]
 | cons d ds ih=>simp only[List.cons_append,val,ih,List.length_append,Nat.pow_add,Nat.add_mul,Nat.mul_assoc,Nat.add_assoc]
theorem mP (ds:List Nat) (h:∀ d∈ds,d<256):val ds<256^ds.length:=by
 induction ds with
 | nil=>simp[val]
 | cons d ds ih =>
  have h1:=h d (List.mem_cons_self ..);have h2:=ih (fun x hx=>h x (List.mem_cons_of_mem _ hx));simp only[val,List.length_cons,Nat.pow_succ];have h3:d*256^ds.length<=255*256^ds.length:=Nat.mul_le_mul_right _ (by omega);omega
def wid (m:Nat):Nat :=
 if m<1 then 0 else if m<256 then 1 else if m<65536 then 2 else if m<16777216 then 3 else if m<4294967296 then 4
 else if m<1099511627776 then 5 else if m<281474976710656 then 6 else if m<72057594037927936 then 7 else 8
def mag (n:Int):Nat:=if n<0 then (-1-n).toNat else n.toNat
def fl (neg:Bool) (x:Int):Int:=if neg then 255-x else x
def code (n:Int):List Int :=
 ((128+(wid (mag n):Int))::(be (wid (mag n)) (mag n)).map Int.ofNat).map (fl (decide (n<0)))
def Bs (l:List Int):Prop:=∀ x∈l,0<=x/\x<=255
def steps {α:Type} (d:List Int->α × Nat × Int) (b:List Int) (u:Nat):Nat->List α × Nat × Int
 | 0=>([],u,0)
 | k+1 =>
  if (steps d b u k).2.2≠0 then steps d b u k
  else if (d (b.drop (steps d b u k).2.1)).2.2≠0 then ((steps d b u k).1,(steps d b u k).2.1,(d (b.drop (steps d b u k).2.1)).2.2)
  else ((steps d b u k).1++[(d (b.drop (steps d b u k).2.1)).1],(steps d b u k).2.1+(d (b.drop (steps d b u k).2.1)).2.1,0)
/-! ### What is decoded is encoded so -/
/-! ### What is cut off needs more -/
end Go.Proofs.YtbaihklbefhgdaaGreat.W
