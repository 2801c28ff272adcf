/-
  Plain: texts and codes of integers and fractions lead back.
  The reference's texts of integers: decimal, Text, Parse.
  The reference's Parse of integers, for any text.
-/
import Derived.Test.YtpgiebimhnhbiaaGreatDoorJT43
import Derived.Test.YtpgiebimhnhbiaaGreatDoorJT42
import Derived.Test.YtpgiebimhnhbiaaGreatDoorJT4
import Derived.Test.YtpgiebimhnhbiaaGreatDoorJT12
set_option linter.unusedVariables false
set_option linter.unusedSimpArgs false
set_option linter.unusedSectionVars false
namespace Go.Proofs.YtpgiebimhnhbiaaGreatDoor
open Dg Zn Tx
namespace Tx
theorem isD_ne {b c : UInt8} (h : isD b = true) (hc : isD c = false) : b ≠ c := by
 rintro rfl
 rw [h] at hc
 cases hc
theorem txtI_neg {z : Int} (h : z < 0) : txtI z = 45 :: txtN (dig z.natAbs) ((dig z.natAbs).length - 1) := by
 unfold txtI
 rw [if_neg (by omega), if_pos h]
 rfl
theorem txtI_pos {z : Int} (h : 0 < z) : txtI z = txtN (dig z.natAbs) ((dig z.natAbs).length - 1) := by
 unfold txtI
 rw [if_neg (by omega), if_neg (by omega)]
 rfl
theorem txtI_length (z : Int) : (txtI z).length ≤ 21 * len z + 1 := by
 by_cases h0 : z = 0
 ·subst h0
  show 1 ≤ _
  omega
 ·have h1 : 0 < len z := List.length_pos_iff.2 fun e => by have := dig_eq_nil.1 e; omega
  have h2 := txtN_length (dig z.natAbs) (dig_Dig _) ((dig z.natAbs).length - 1)
  obtain ⟨n, hn⟩ : ∃ n, n = (dig z.natAbs).length := ⟨_, rfl⟩
  show _ ≤ 21 * (dig z.natAbs).length + 1
  have h1 : 0 < n := hn ▸ h1
  rw [← hn] at h2 ⊢
  rcases Int.lt_or_le z 0 with h | h
  ·rw [txtI_neg h, List.length_cons, ← hn]
   omega
  ·rw [txtI_pos (by omega), ← hn]
   omega
theorem numB_of {l : List UInt8} (h1 : l.all isD = true) (h2 : l ≠ []) (h3 : l.getD 0 0 ≠ 48) : numB l = true := by
 unfold numB
 rw [h1, bne_iff_ne.2 h2, bne_iff_ne.2 h3]
 simp
theorem head_isD {l : List UInt8} (h1 : l.all isD = true) (h2 : l ≠ []) : isD (l.getD 0 0) = true := by
 cases l with
 | nil => exact absurd rfl h2
 | cons b l =>
  rw [List.all_cons, Bool.and_eq_true] at h1
  exact h1.1
theorem parse_txt (z : Int) (h : (txtI z).length ≤ 65536) : parseI (txtI z) = (z, 0) := by
 unfold parseI
 rw [if_neg (by omega)]
 by_cases h0 : z = 0
 ·subst h0
  decide
 ·obtain ⟨h1, h2, h3, h4⟩ := txt_num (m := z.natAbs) (by omega)
  rcases Int.lt_or_le z 0 with hz | hz
  ·rw [txtI_neg hz]
   generalize txtN (dig z.natAbs) ((dig z.natAbs).length - 1) = T at *
   have e : ((45 :: T).getD 0 0 == (45 : UInt8)) = true := rfl
   have h5 : (T == [48]) = false := beq_eq_false_iff_ne.2 (by rintro rfl; exact h4 rfl)
   rw [e, if_pos rfl]
   show (if (!numB T || (true && (T == [48]))) = true then _ else _) = _
   rw [numB_of h1 h3 h4, h5, if_neg (by decide)]
   show (mk true (valD T), (0 : Int)) = _
   rw [h2]
   unfold mk
   rw [if_pos rfl]
   congr 1
   omega
  ·rw [txtI_pos (by omega)]
   generalize txtN (dig z.natAbs) ((dig z.natAbs).length - 1) = T at *
   have e : (T.getD 0 0 == (45 : UInt8)) = false := beq_eq_false_iff_ne.2 (isD_ne (head_isD h1 h3) (by decide))
   rw [e]
   simp only [Bool.false_eq_true, if_false]
   rw [numB_of h1 h3 h4, Bool.false_and]
   simp only [Bool.not_true, Bool.or_false, Bool.false_eq_true, if_false]
   rw [h2]
   unfold mk
   rw [if_neg (by decide)]
   congr 1
   omega
theorem parse_zero (l : List UInt8) (h : (parseI l).2 ≠ 0) : (parseI l).1 = 0 := by
 unfold parseI at h ⊢
 by_cases h1 : 65536 < l.length
 ·rw [if_pos h1]
 ·rw [if_neg h1] at h ⊢
  generalize (if l.getD 0 0 == 45 then l.drop 1 else l) = d at h ⊢
  by_cases h2 : (!numB d || ((l.getD 0 0 == 45) && d == [48])) = true
  ·rw [if_pos h2]
  ·rw [if_neg h2] at h
   exact absurd rfl h
/-! Codes. -/
def zOf (l : List Int) : Int := mk (decide (l.getD 0 0 < 0)) (val ((l.drop 1).map Int.toNat))
def row0 (z : Int) : List Int := cmpI z 0 :: (dig z.natAbs).map Int.ofNat
theorem zOf_row0 (z : Int) : zOf (row0 z) = z := by
 unfold zOf row0
 rw [List.getD_cons_zero, List.drop_one, List.tail_cons, List.map_map]
 rw [show (Int.toNat ∘ Int.ofNat) = id from funext fun n => rfl, List.map_id, val_dig]
 unfold cmpI mk
 split
 ·rw [if_pos (by decide)]; omega
 ·split
  ·rw [if_neg (by decide)]; omega
  ·rw [if_neg (by decide)]; omega
def decI (bs : List Int) : Int × Nat × Int :=
 if (W.decList W.dec 1 bs).2.2 ≠ 0 then (0, 0, (W.decList W.dec 1 bs).2.2)
 else if row0 (zOf (W.decList W.dec 1 bs).1) = (W.decList W.dec 1 bs).1 then (zOf (W.decList W.dec 1 bs).1, (W.decList W.dec 1 bs).2.1, 0) else (0, 0, 2)
theorem row0_inj {l : List Int} {z : Int} (h : l = row0 z) : row0 (zOf l) = l ∧ zOf l = z := by
 subst h
 rw [zOf_row0]
 exact ⟨rfl, rfl⟩
theorem decI_enc (z : Int) (hz : len z ≤ 1000000000) (t : List Int) : decI (encI z ++ t) = (z, (encI z).length, 0) := by
 have h := W.decInts_enc (row0 z) (by unfold row0; rw [List.length_cons, List.length_map]; show len z + 1 ≤ _; omega) (encI_bd z) t
 unfold decI
 rw [show encI z = W.encInts (row0 z) from rfl, h]
 rw [if_neg (by simp), if_pos (by rw [zOf_row0]), zOf_row0]
theorem decList_len {bs : List Int} (hb : W.Bs bs) : (W.decList W.dec 1 bs).1.length ≤ bs.length ∧ (W.decList W.dec 1 bs).2.1 ≤ bs.length := by
 by_cases he : (W.decList W.dec 1 bs).2.2 = 0
 ·rcases hq : W.decList W.dec 1 bs with ⟨l, v, e⟩
  rw [hq] at he
  obtain rfl : e = 0 := he
  obtain ⟨h1, h2⟩ := W.decList_canonical (c := W.code) (by decide) bs hb (fun b' x m hb' h => ⟨(W.dec_canonical b' hb' x m h).1, (W.dec_canonical b' hb' x m h).2.1⟩) hq
  have h3 := W.flatMap_size W.code 1 l fun x _ => W.code_pos x
  have h4 := congrArg List.length h2
  rw [List.length_append, List.length_take] at h4
  simp only
  omega
 ·have : (W.decList W.dec 1 bs).1 = [] ∧ (W.decList W.dec 1 bs).2.1 = 0 := by
   unfold W.decList at he ⊢
   split at he
   ·rw [if_pos (by assumption)]; exact ⟨rfl, rfl⟩
   ·split at he
    ·rw [if_neg (by assumption), if_pos (by assumption)]; exact ⟨rfl, rfl⟩
    ·exact absurd (Decidable.not_not.1 (by assumption)) he
  rw [this.1, this.2]
  exact ⟨Nat.zero_le _, Nat.zero_le _⟩
theorem decI_bd {bs : List Int} (hb : W.Bs bs) : len (decI bs).1 ≤ bs.length ∧ (decI bs).2.1 ≤ bs.length := by
 have h0 : len 0 ≤ bs.length := by show (dig 0).length ≤ _; rw [dig_zero]; exact Nat.zero_le _
 obtain ⟨h1, h2⟩ := decList_len hb
 unfold decI
 split
 ·exact ⟨h0, Nat.zero_le _⟩
 ·split
  ·rename_i h
   refine ⟨?_, h2⟩
   have := congrArg List.length h
   unfold row0 at this
   rw [List.length_cons, List.length_map] at this
   show (dig (zOf (W.decList W.dec 1 bs).1).natAbs).length ≤ _
   omega
  ·exact ⟨h0, Nat.zero_le _⟩
theorem encI_bs (z : Int) : W.Bs (encI z) := by
 have h : ∀ l : List Int, W.Bs (l.flatMap W.code) := fun l => by
  induction l with
  | nil => intro x hx; cases hx
  | cons y l ih => rw [List.flatMap_cons]; exact (W.code_bs y).append ih
 exact (W.code_bs _).append (h _)
theorem encI_length (z : Int) : 2 ≤ (encI z).length ∧ (encI z).length ≤ 9 * len z + 18 := by
 have h := W.codes_le (row0 z)
 have h1 := W.code_le ((row0 z).length : Int)
 have h2 := W.code_pos ((row0 z).length : Int)
 have h3 := W.code_pos (cmpI z 0)
 have h4 : (row0 z).length = len z + 1 := by unfold row0; rw [List.length_cons, List.length_map]
 have h5 : (encI z).length = (W.code ((row0 z).length : Int)).length + ((row0 z).flatMap W.code).length := by
  show (W.code _ ++ _).length = _
  rw [List.length_append]
  rfl
 have h6 : (W.code (cmpI z 0)).length ≤ ((row0 z).flatMap W.code).length := by
  unfold row0
  rw [List.flatMap_cons, List.length_append]
  omega
 omega

/-! Fractions. -/
open Vc
theorem indexByte_none {l : List UInt8} {c : UInt8} (h : ∀ b ∈ l, b ≠ c) : Lib.indexByte l c = -1 := by
 induction l with
 | nil => rfl
 | cons b l ih =>
  unfold Lib.indexByte
  rw [beq_eq_false_iff_ne.2 (h b List.mem_cons_self), ih fun x hx => h x (List.mem_cons_of_mem _ hx)]
  rfl
theorem indexByte_at {l m : List UInt8} {c : UInt8} (h : ∀ b ∈ l, b ≠ c) : Lib.indexByte (l ++ c :: m) c = l.length := by
 induction l with
 | nil =>
  show Lib.indexByte (c :: m) c = _
  unfold Lib.indexByte
  rw [beq_self_eq_true, if_pos rfl]
  rfl
 | cons b l ih =>
  rw [List.cons_append]
  unfold Lib.indexByte
  rw [beq_eq_false_iff_ne.2 (h b List.mem_cons_self), ih fun x hx => h x (List.mem_cons_of_mem _ hx)]
  rw [if_neg (by decide), if_neg (by simp), List.length_cons]
  omega
theorem txtI_no47 (z : Int) : ∀ b ∈ txtI z, b ≠ 47 := by
 by_cases h0 : z = 0
 ·subst h0
  intro b hb
  obtain rfl := List.mem_singleton.1 hb
  decide
 ·obtain ⟨h1, h2, h3, h4⟩ := txt_num (m := z.natAbs) (by omega)
  have hT : ∀ b ∈ txtN (dig z.natAbs) ((dig z.natAbs).length - 1), b ≠ 47 := fun b hb => isD_ne (List.all_eq_true.1 h1 b hb) (by decide)
  rcases Int.lt_or_le z 0 with hz | hz
  ·rw [txtI_neg hz]
   intro b hb
   rcases List.mem_cons.1 hb with rfl | hb
   ·decide
   ·exact hT b hb
  ·rw [txtI_pos (by omega)]
   exact hT
theorem cutB_none {l : List UInt8} {c : UInt8} (h : ∀ b ∈ l, b ≠ c) : cutB l c = (l, [], false) := by
 unfold cutB
 rw [if_pos (by rw [indexByte_none h]; decide)]
theorem cutB_at {l m : List UInt8} {c : UInt8} (h : ∀ b ∈ l, b ≠ c) : cutB (l ++ c :: m) c = (l, m, true) := by
 unfold cutB
 rw [if_neg (by rw [indexByte_at h]; omega), indexByte_at h]
 simp
def txtQ (a : Rat) : List UInt8 := if qd a = 0 then txtI a.num else txtI a.num ++ 47 :: txtI (qd a)
theorem parse_txtQ (a : Rat) (h : (txtQ a).length ≤ 65536) : parseQ (txtQ a) = (a.num, qd a, 0) := by
 unfold parseQ
 rw [if_neg (by omega)]
 unfold txtQ at h ⊢
 split
 ·rename_i h0
  rw [if_pos h0] at h
  rw [cutB_none (txtI_no47 _), parse_txt _ h]
  rw [if_pos (.inr rfl), h0]
 ·rename_i h0
  rw [if_neg h0, List.length_append, List.length_cons] at h
  rw [cutB_at (txtI_no47 _)]
  rw [parse_txt _ (by omega), parse_txt _ (by omega)]
  have hq : qd a = (a.den : Int) := by unfold qd at h0 ⊢; split at h0; · exact absurd rfl h0
                                       · rw [if_neg (by assumption)]
  have h1 : a.den ≠ 1 := fun e => h0 (qd_zero.2 e)
  have hc : Int.gcd a.num (a.den : Int) = 1 := a.reduced
  have hd := a.den_nz
  rw [if_neg (by simp), if_neg (by rw [hq]; exact fun h => h.elim (fun h => h rfl) fun h => h ⟨by simpa using hd, by simp, by show ¬ (a.den : Int) = 1; omega, hc⟩)]
def decQ (bs : List Int) : Int × Int × Nat × Int :=
 if (decI bs).2.2 ≠ 0 then (0, 0, 0, (decI bs).2.2)
 else if (decI (bs.drop (decI bs).2.1)).2.2 ≠ 0 then (0, 0, 0, (decI (bs.drop (decI bs).2.1)).2.2)
 else if (decI (bs.drop (decI bs).2.1)).1 = 0 ∨ (0 ≤ (decI (bs.drop (decI bs).2.1)).1 ∧ (decI (bs.drop (decI bs).2.1)).1 ≠ 1 ∧ Int.gcd (decI bs).1 (decI (bs.drop (decI bs).2.1)).1 = 1) then ((decI bs).1, (decI (bs.drop (decI bs).2.1)).1, (decI bs).2.1 + (decI (bs.drop (decI bs).2.1)).2.1, 0)
 else (0, 0, 0, 2)
theorem decQ_enc (a : Rat) (hp : len a.num ≤ 1000000000) (hq : len (qd a) ≤ 1000000000) (t : List Int) : decQ (encR a ++ t) = (a.num, qd a, (encR a).length, 0) := by
 have h1 : decI (encR a ++ t) = (a.num, (encI a.num).length, 0) := by
  show decI (encI a.num ++ encI (qd a) ++ t) = _
  rw [List.append_assoc]
  exact decI_enc _ hp _
 have h2 : (encR a ++ t).drop (encI a.num).length = encI (qd a) ++ t := by
  show (encI a.num ++ encI (qd a) ++ t).drop _ = _
  rw [List.append_assoc, List.drop_left]
 unfold decQ
 rw [h1]
 simp only
 rw [h2, decI_enc _ hq]
 have hv : qd a = 0 ∨ (0 ≤ qd a ∧ qd a ≠ 1 ∧ Int.gcd a.num (qd a) = 1) := by
  by_cases h0 : a.den = 1
  ·exact .inl (qd_zero.2 h0)
  ·have hq : qd a = (a.den : Int) := by unfold qd; rw [if_neg h0]
   have hc : Int.gcd a.num (a.den : Int) = 1 := a.reduced
   rw [hq]
   exact .inr ⟨by omega, by omega, hc⟩
 rw [if_neg (by simp), if_neg (by simp), if_pos hv]
 show (a.num, qd a, (encI a.num).length + (encI (qd a)).length, (0 : Int)) = (a.num, qd a, (encI a.num ++ encI (qd a)).length, 0)
 rw [List.length_append]
end Tx
end Go.Proofs.YtpgiebimhnhbiaaGreatDoor

namespace Go.Proofs.YtpgiebimhnhbiaaGreatDoor
open Go.RowKit
open Go.Lib (hid)
open Dg Zn Tx
namespace Vc
set_option maxRecDepth 100000

section
variable {D : Type} [Dom D] {P : Program} {cx : Cx D} {n : Nat} {σ : St D} {o : Oper} {d : Nat} {x y : Operand} {T T' : TypeId} {k : IntKind} {a b : Int}
theorem ok_remC {c : Int} (hb : b ≠ 0) (hc : a.tmod b = c) (ho : o.op = .binOp .rem T x y T') (hd : o.dst = some d) (hn : d < n) (hx : opd σ x = .av (.one (.v (.int k a)))) (hy : opd σ y = .av (.one (.v (.int k b)))) : OpOk P cx n σ o (opk x ++ opk y) [(.s d, .av (.one (.v (.int k c))))] := hc ▸ ok_rem hb ho hd hn hx hy
theorem ok_eqlB {r : Bool} (h : (a == b) = r) (ho : o.op = .binOp .eql T x y T') (hd : o.dst = some d) (hn : d < n) (hx : opd σ x = .av (.one (.v (.int k a)))) (hy : opd σ y = .av (.one (.v (.int k b)))) : OpOk P cx n σ o (opk x ++ opk y) [(.s d, .av (.one (.v (.bool r))))] := by
 have q := ok_eql (P := P) (cx := cx) ho hd hn hx hy
 rwa [h] at q
theorem ok_lssB {r : Bool} (h : decide (a < b) = r) (ho : o.op = .binOp .lss T x y T') (hd : o.dst = some d) (hn : d < n) (hx : opd σ x = .av (.one (.v (.int k a)))) (hy : opd σ y = .av (.one (.v (.int k b)))) : OpOk P cx n σ o (opk x ++ opk y) [(.s d, .av (.one (.v (.bool r))))] := by
 have q := ok_lss (P := P) (cx := cx) ho hd hn hx hy
 rwa [h] at q
end
theorem u_int : Tryz.prog.underlying 3 = some (.int .i64) := by kernel_rfl
theorem wrap8 {z : Int} (h1 : 0 ≤ z) (h2 : z ≤ 255) : IntKind.u8.wrap z = z := by rw [IntKind.wrap_u8']; omega
theorem b48 {m : Nat} : (((UInt8.ofNat (48 + m % 10)).toNat : Nat) : Int) = 48 + ((m % 10 : Nat) : Int) := by
 rw [dg_byte (Nat.mod_lt _ (by decide))]
 omega
theorem decimal_con (u : Nat) (hu : u < 1000000000000) : Con (D := Dm) Tryz.prog 91 [.v (.int .i64 (u : Int))] (.one (.v (str (dcm u)))) := by
 have hlen := dcm_length 12 u (by omega)
 refine Con.of (n := 17) Tryz.func91 rfl rfl rfl rfl rfl fun cx hfr => ?_
 refine sr rfl ?_
 refine mr rfl rfl bd rfl ?_
 refine RV.done (sr rfl ?_)
 refine mr rfl rfl bd rfl ?_
 refine RV.done ?_
 refine CV.seq ?_
 refine CV.block ?_
 refine CV.loop (X := {q : Nat × List UInt8 // dcm q.1 ++ q.2 = dcm u ∧ q.1 ≤ u}) (fun q => [(.s 0, .av (.one (.v (.int .i64 (q.1.1 : Int))))), (.s 3, .av (.one (.v (str q.1.2))))]) (fun q => q.1.1) ⟨(u, []), by simp, Nat.le_refl _⟩ (Sub.mk ⟨XV.le_rfl _, XV.le_rfl _, trivial⟩ rfl rfl) (fun q => ?_)
 obtain ⟨⟨m, l⟩, h1, h2⟩ := q
 simp only at h1 h2 ⊢
 have hll : l.length ≤ 12 := by have := congrArg List.length h1; rw [List.length_append] at this; omega
 refine CV.seq ?_
 refine sr rfl ?_
 refine ml rfl rfl bd rfl ?_
 refine p1 (ok_gtr rfl rfl bd rfl rfl) ?_
 refine RV.done ?_
 refine CV.cond rfl (fun hc => ?_) (fun hc => ?_)
 ·refine CV.skip ?_
  refine CV.block ?_
  refine sr rfl ?_
  refine ml rfl rfl bd rfl ?_
  refine p1 (ok_remC (c := ((m % 10 : Nat) : Int)) (by decide) (by rw [Int.tmod_eq_emod_of_nonneg (by omega)]; omega) rfl rfl bd rfl rfl) ?_
  refine p1 (ok_add (c := 48 + ((m % 10 : Nat) : Int)) (by rw [wrapI (by omega) (by omega)]) rfl rfl bd rfl rfl) ?_
  refine p1 (ok_cvi (z' := (((UInt8.ofNat (48 + m % 10)).toNat : Nat) : Int)) (by rw [b48, wrap8 (by omega) (by omega)]) u_int u_u8 rfl rfl bd rfl) ?_
  refine p1 (ok_litD (G := Dm.gen (lstG none (byV [UInt8.ofNat (48 + m % 10)]))) (lstG_Lst none _) u_bytes zs_u8 rfl rfl rfl (by intro s hs; obtain rfl := List.mem_singleton.1 hs; rfl) rfl rfl rfl bd (.cons rfl Conv.any .nil)) ?_
  refine p1 (ok_b2s (u := [UInt8.ofNat (48 + m % 10)]) u_bytes u_u8 u_str rfl rfl bd rfl) ?_
  refine ml rfl rfl bd rfl ?_
  refine p1 (ok_catT (by rw [List.length_singleton]; omega) rfl rfl bd rfl rfl) ?_
  refine mr rfl rfl bd rfl ?_
  refine RV.done ?_
  refine CV.region rfl (fun h => nomatch h) ?_
  refine ml rfl rfl bd rfl ?_
  refine p1 (ok_quo (c := ((m / 10 : Nat) : Int)) (by decide) (by rw [Int.tdiv_eq_ediv_of_nonneg (by omega), wrapI (by omega) (by omega)]; omega) rfl rfl bd rfl rfl) ?_
  refine mr rfl rfl bd rfl ?_
  refine RV.done ?_
  have h0 : 0 < m := (by simpa using hc)
  exact ⟨⟨(m / 10, UInt8.ofNat (48 + m % 10) :: l), by show dcm (m / 10) ++ (_ :: l) = _; rw [← h1, dcm_pos (u := m) (by omega), List.append_assoc]; rfl, by show m / 10 ≤ u; omega⟩, Sub.mk ⟨XV.le_rfl _, XV.le_rfl _, trivial⟩ rfl rfl, by show m / 10 < m; omega⟩
 ·refine CV.exit ?_
  refine sr rfl ?_
  refine ml rfl rfl bd rfl ?_
  refine mr rfl rfl bd rfl ?_
  refine RV.done ?_
  refine CV.ret ?_
  have h0 : m = 0 := (by have : ¬ 0 < m := (by simpa using hc); omega)
  subst h0
  rw [dcm_zero, List.nil_append] at h1
  exact fin1 rfl (.inr rfl) rfl (is_of (by rw [h1]))
theorem txtN_zero {ds : List Nat} (h : ds.getD (ds.length - 1) 0 ≠ 0) : txtN ds 0 = dcm (ds.getD (ds.length - 1) 0) := by
 unfold txtN
 rw [Lib.itoa_nonneg, dcm_dec _ h]
theorem txtN_succ {ds : List Nat} (hd : Dig ds) (i : Nat) : txtN ds (i + 1) = txtN ds i ++ pad9 (dcm (ds.getD (ds.length - 2 - i) 0)) := by
 rw [txtN, itoa_drop (getD_lt hd _)]
theorem dcm9 {ds : List Nat} (hd : Dig ds) (i : Nat) : (dcm (ds.getD i 0)).length ≤ 9 := dcm_length 9 _ (by have := getD_lt hd i; omega)
theorem pad9_of {m : Nat} {l : List UInt8} (h : m + l.length = 9) : List.replicate m 48 ++ l = pad9 l := by
 unfold pad9
 rw [show 9 - l.length = m by omega]
theorem rText0_con (k : Nat) : Con Tryz.prog 15 [.d (Dm.int 0 k)] (.one (.v (str (txtI 0)))) := by
 refine Con.of (n := 46) Tryz.func15 rfl rfl rfl rfl rfl fun cx hfr => ?_
 refine sr rfl ?_
 refine p2 (ok_box (i := 0) rfl rfl bd rfl rfl rfl rfl rfl) ?_
 refine mr rfl rfl bd rfl ?_
 refine RV.done ?_
 refine CV.seq ?_
 refine sr rfl ?_
 refine p1 (ok_fieldAddr fa_int1 rfl rfl bd rfl) ?_
 refine p1 (ok_loadf 1 fld_dig rfl rfl bd rfl rfl rfl rfl ty_ints) ?_
 refine p1 (ok_len rfl rfl bd rfl) ?_
 refine p1 (ok_eql rfl rfl bd rfl rfl) ?_
 refine RV.done ?_
 refine CV.cond rfl (fun hc => ?_) (fun hc => False.elim (by simp [dig_zero] at hc))
 refine sr rfl ?_
 refine mr rfl rfl bd rfl ?_
 refine RV.done ?_
 refine CV.ret ?_
 exact fin1 rfl (.inr rfl) rfl (is_of rfl)
theorem rTextN_con (z : Int) (k : Nat) (hl : len z ≤ 1000000000) (hz : z ≠ 0) : Con Tryz.prog 15 [.d (Dm.int z k)] (.one (.v (str (txtI z)))) := by
 have h0 : 0 < len z := List.length_pos_iff.2 fun e => by have := dig_eq_nil.1 e; omega
 have hD := dig_Dig z.natAbs
 have hlz : (dig z.natAbs).length = len z := rfl
 have hlast : (dig z.natAbs).getD ((dig z.natAbs).length - 1) 0 ≠ 0 := dig_last (by omega)
 have hT := fun i => txtN_length _ hD i
 refine Con.of (n := 46) Tryz.func15 rfl rfl rfl rfl rfl fun cx hfr => ?_
 refine sr rfl ?_
 refine p2 (ok_box (i := 0) rfl rfl bd rfl rfl rfl rfl rfl) ?_
 refine mr rfl rfl bd rfl ?_
 refine RV.done ?_
 refine CV.seq ?_
 refine sr rfl ?_
 refine p1 (ok_fieldAddr fa_int1 rfl rfl bd rfl) ?_
 refine p1 (ok_loadf 1 fld_dig rfl rfl bd rfl rfl rfl rfl ty_ints) ?_
 refine p1 (ok_len rfl rfl bd rfl) ?_
 refine p1 (ok_eql rfl rfl bd rfl rfl) ?_
 refine RV.done ?_
 refine CV.cond rfl (fun hc => False.elim (by rw [dig_len_zero] at hc; simp at hc; exact hz hc)) (fun hc => ?_)
 refine CV.skip ?_
 refine sr rfl ?_
 refine p1 (ok_fieldAddr fa_int1 rfl rfl bd rfl) ?_
 refine p1 (ok_loadf 1 fld_dig rfl rfl bd rfl rfl rfl rfl ty_ints) ?_
 refine p1 (ok_fieldAddr fa_int1 rfl rfl bd rfl) ?_
 refine p1 (ok_loadf 1 fld_dig rfl rfl bd rfl rfl rfl rfl ty_ints) ?_
 refine p1 (ok_len rfl rfl bd rfl) ?_
 refine p1 (ok_sub (c := ((len z - 1 : Nat) : Int)) (by rw [wrapI (by omega) (by omega)]; omega) rfl rfl bd rfl rfl) ?_
 refine p1 (ok_idx (i := len z - 1) (by omega) rfl rfl bd rfl rfl) ?_
 refine p1 (ok_loadc rfl rfl bd rfl) ?_
 refine p1 (ok_call (decimal_con ((dig z.natAbs).getD (len z - 1) 0) (by have := getD_lt hD (len z - 1); omega)) rfl rfl bd Tryz.func91 rfl rfl (.cons rfl Conv.any .nil) rfl hfr rfl) ?_
 refine mr rfl rfl bd rfl ?_
 refine RV.done ?_
 refine CV.seq ?_
 refine sr rfl ?_
 refine p1 (ok_fieldAddr fa_int1 rfl rfl bd rfl) ?_
 refine p1 (ok_loadf 1 fld_dig rfl rfl bd rfl rfl rfl rfl ty_ints) ?_
 refine p1 (ok_len rfl rfl bd rfl) ?_
 refine p1 (ok_sub (c := (len z : Int) - 2) (by rw [wrapI (by omega) (by omega)]) rfl rfl bd rfl rfl) ?_
 refine mr rfl rfl bd rfl ?_
 refine RV.done ?_
 refine CV.block ?_
 refine CV.loop (X := {i : Int // -1 ≤ i ∧ i ≤ (len z : Int) - 2}) (fun i => [(.s 4, .av (.one (.v (.int .i64 i.1)))), (.s 3, .av (.one (.v (str (txtN (dig z.natAbs) ((len z : Int) - 2 - i.1).toNat))))), (.s 1, .av (.one (.ptr 0 0))), (.b 0, .blk 25 [(some 2, .d (Dm.int z k))])]) (fun i => (i.1 + 1).toNat) ⟨(len z : Int) - 2, by omega, Int.le_refl _⟩ (Sub.mk ⟨XV.le_rfl _, XV.le_of (by show (XV.av (.one (.v (str (dcm ((dig z.natAbs).getD (len z - 1) 0))))) : XV Dm) = .av (.one (.v (str (txtN (dig z.natAbs) ((len z : Int) - 2 - ((len z : Int) - 2)).toNat)))); rw [Int.sub_self, show (0 : Int).toNat = 0 from rfl, txtN_zero hlast]), XV.le_rfl _, XV.le_rfl _, trivial⟩ rfl rfl) (fun i => ?_)
 obtain ⟨i, hi1, hi2⟩ := i
 simp only
 refine CV.seq ?_
 refine sr rfl ?_
 refine ml rfl rfl bd rfl ?_
 refine p1 (ok_geq rfl rfl bd rfl rfl) ?_
 refine RV.done ?_
 refine CV.cond rfl (fun hc => ?_) (fun hc => ?_)
 ·obtain ⟨j, rfl⟩ : ∃ j : Nat, i = (j : Int) := ⟨i.toNat, by have : 0 ≤ i := (by simpa using hc); omega⟩
  refine CV.skip ?_
  refine CV.seq ?_
  refine CV.block ?_
  refine sr rfl ?_
  refine p1 (ok_fieldAddr fa_int1 rfl rfl bd rfl) ?_
  refine p1 (ok_loadf 1 fld_dig rfl rfl bd rfl rfl rfl rfl ty_ints) ?_
  refine ml rfl rfl bd rfl ?_
  refine p1 (ok_idx (i := j) (by omega) rfl rfl bd rfl rfl) ?_
  refine p1 (ok_loadc rfl rfl bd rfl) ?_
  refine p1 (ok_call (decimal_con ((dig z.natAbs).getD j 0) (by have := getD_lt hD j; omega)) rfl rfl bd Tryz.func91 rfl rfl (.cons rfl Conv.any .nil) rfl hfr rfl) ?_
  refine mr rfl rfl bd rfl ?_
  refine RV.done ?_
  refine CV.seq ?_
  refine CV.block ?_
  refine CV.loop (X := {m : Nat // m + (dcm ((dig z.natAbs).getD j 0)).length ≤ 9}) (fun m => [(.s 5, .av (.one (.v (str (List.replicate m.1 48 ++ dcm ((dig z.natAbs).getD j 0)))))), (.s 4, .av (.one (.v (.int .i64 (j : Int))))), (.s 3, .av (.one (.v (str (txtN (dig z.natAbs) ((len z : Int) - 2 - (j : Int)).toNat))))), (.s 1, .av (.one (.ptr 0 0))), (.b 0, .blk 25 [(some 2, .d (Dm.int z k))])]) (fun m => 9 - m.1) ⟨0, by rw [Nat.zero_add]; exact dcm9 hD j⟩ (Sub.mk ⟨XV.le_rfl _, XV.le_rfl _, XV.le_rfl _, XV.le_rfl _, XV.le_rfl _, trivial⟩ rfl rfl) (fun m => ?_)
  obtain ⟨m, hm⟩ := m
  simp only
  refine CV.seq ?_
  refine sr rfl ?_
  refine ml rfl rfl bd rfl ?_
  refine p1 (ok_lenT rfl u_str rfl rfl bd rfl) ?_
  refine p1 (ok_lss rfl rfl bd rfl rfl) ?_
  refine RV.done ?_
  refine CV.cond rfl (fun hc2 => ?_) (fun hc2 => ?_)
  ·refine CV.skip ?_
   refine CV.block ?_
   refine CV.region rfl (fun h => nomatch h) ?_
   refine ml rfl rfl bd rfl ?_
   refine p1 (ok_catT (u := [48]) (by rw [List.length_append, List.length_replicate, List.length_singleton]; omega) rfl rfl bd rfl rfl) ?_
   refine mr rfl rfl bd rfl ?_
   refine RV.done ?_
   rw [List.length_append, List.length_replicate] at hc2
   have hlt : m + (dcm ((dig z.natAbs).getD j 0)).length < 9 := (by have := of_decide_eq_true hc2; omega)
   exact ⟨⟨m + 1, by omega⟩, Sub.mk ⟨XV.le_of rfl, XV.le_rfl _, XV.le_rfl _, XV.le_rfl _, XV.le_rfl _, trivial⟩ rfl rfl, by show 9 - (m + 1) < 9 - m; omega⟩
  ·refine CV.exit ?_
   refine CV.region rfl (fun h => nomatch h) ?_
   refine ml rfl rfl bd rfl ?_
   refine ml rfl rfl bd rfl ?_
   refine p1 (ok_catT (by have := hT ((len z : Int) - 2 - (j : Int)).toNat; rw [List.length_append, List.length_replicate]; omega) rfl rfl bd rfl rfl) ?_
   refine mr rfl rfl bd rfl ?_
   refine RV.done ?_
   refine CV.region rfl (fun h => nomatch h) ?_
   refine ml rfl rfl bd rfl ?_
   refine p1 (ok_sub (c := (j : Int) - 1) (by rw [wrapI (by omega) (by omega)]) rfl rfl bd rfl rfl) ?_
   refine mr rfl rfl bd rfl ?_
   refine RV.done ?_
   have hj := dcm9 hD j
   have hm9 : m + (dcm ((dig z.natAbs).getD j 0)).length = 9 := (by rw [List.length_append, List.length_replicate] at hc2; have := of_decide_eq_false hc2; omega)
   exact ⟨⟨(j : Int) - 1, by omega, by omega⟩, Sub.mk ⟨XV.le_rfl _, XV.le_of (by show (XV.av (.one (.v (str (txtN (dig z.natAbs) ((len z : Int) - 2 - (j : Int)).toNat ++ (List.replicate m 48 ++ dcm ((dig z.natAbs).getD j 0)))))) : XV Dm) = .av (.one (.v (str (txtN (dig z.natAbs) ((len z : Int) - 2 - ((j : Int) - 1)).toNat)))); rw [pad9_of hm9, show ((len z : Int) - 2 - ((j : Int) - 1)).toNat = ((len z : Int) - 2 - (j : Int)).toNat + 1 by omega, txtN_succ hD, show (dig z.natAbs).length - 2 - ((len z : Int) - 2 - (j : Int)).toNat = j by omega]), XV.le_rfl _, XV.le_rfl _, trivial⟩ rfl rfl, by show ((j : Int) - 1 + 1).toNat < ((j : Int) + 1).toNat; omega⟩
 ·refine CV.exit ?_
  refine CV.seq ?_
  refine CV.seq ?_
  have hi : i = -1 := (by have : ¬ 0 ≤ i := (by simpa using hc); omega)
  subst hi
  have e : ((len z : Int) - 2 - -1).toNat = len z - 1 := (by omega)
  rw [e]
  refine CV.region rfl (fun h => nomatch h) ?_
  refine p1 (ok_fieldAddr fa_int0 rfl rfl bd rfl) ?_
  refine p1 (ok_loadf 0 fld_neg rfl rfl bd rfl rfl rfl rfl ty_bool) ?_
  refine RV.done ?_
  refine CV.cond rfl (fun hs => ?_) (fun hs => ?_)
  ·refine sr rfl ?_
   refine ml rfl rfl bd rfl ?_
   refine p1 (ok_catT (u := [45]) (by have := hT (len z - 1); rw [List.length_singleton]; omega) rfl rfl bd rfl rfl) ?_
   refine mr rfl rfl bd rfl ?_
   refine RV.done ?_
   refine CV.ret ?_
   exact fin1 rfl (.inr rfl) rfl (is_of (by rw [txtI_neg (by simpa using hs)]; rfl))
  ·refine CV.skip ?_
   refine sr rfl ?_
   refine ml rfl rfl bd rfl ?_
   refine mr rfl rfl bd rfl ?_
   refine RV.done ?_
   refine CV.ret ?_
   exact fin1 rfl (.inr rfl) rfl (is_of (by rw [txtI_pos (by have : ¬ z < 0 := (by simpa using hs); omega)]))
theorem rText_con (z : Int) (k : Nat) (hk : k ≤ 1000000000) : Con Tryz.prog 15 [.d (Dm.int z k)] (.one (.v (str (txtI z)))) := by
 by_cases h0 : z = 0
 ·subst h0; exact rText0_con k
 ·refine Con.know (φ := len z ≤ k) (fun L ρ w vs hv => ?_) fun h => rTextN_con z k (by omega) h0
  match vs, hv with
  | [v], ⟨h1, _⟩ => exact (is_int h1).2

theorem rnormal_con (b : Bool) (ds : List Nat) (k : Nat) (hds : Dig ds) (hk : len (mk b (val ds)) ≤ k) : Con Tryz.prog 78 [.v (.bool b), .d (Dm.dl ds)] (.one (.d (Dm.int (mk b (val ds)) k))) := by
 rintro L ρ w vs hlt hn hwf hall
 match vs, hall with
 | [u, v], ⟨h1, h2, _⟩ =>
  obtain rfl : u = _ := h1
  refine (normal_any b v ds w (h2 w (Agree.refl _ _)) hds).mono ?_
  rintro e w' ⟨r, rfl, h3, h4⟩
  exact ⟨r, rfl, h4, int_is (ρ := ρ) h3 hk hn hlt h4⟩
theorem valD_step {d : List UInt8} {a i : Nat} (h1 : a ≤ i) (h2 : i < d.length) : valD ((d.take (i + 1)).drop a) = 10 * valD ((d.take i).drop a) + ((d.getD i 0).toNat - 48) := by
 rw [List.take_add_one, List.drop_append_of_le_length (by rw [List.length_take]; omega), List.getElem?_eq_getElem h2]
 simp only [Option.toList]
 rw [valD_snoc, List.getD_eq_getElem?_getD, List.getElem?_eq_getElem h2]
 simp only [Option.getD_some]
 omega
theorem valD9 {d : List UInt8} (h : d.all isD = true) {a i : Nat} (h1 : i ≤ a + 9) : valD ((d.take i).drop a) < 1000000000 := by
 have hs : ((d.take i).drop a).all isD = true := List.all_eq_true.2 fun x hx => List.all_eq_true.1 h x (List.mem_of_mem_take (List.mem_of_mem_drop hx))
 have := valD_lt _ hs
 have h2 : ((d.take i).drop a).length ≤ 9 := by rw [List.length_drop, List.length_take]; omega
 have h3 : 10 ^ ((d.take i).drop a).length ≤ 10 ^ 9 := Nat.pow_le_pow_right (by decide) h2
 have : (10 : Nat) ^ 9 = 1000000000 := by decide
 omega
theorem isD_at {d : List UInt8} (h : d.all isD = true) {i : Nat} (hi : i < d.length) : 48 ≤ (d.getD i 0).toNat ∧ (d.getD i 0).toNat ≤ 57 := by
 have := List.all_eq_true.1 h d[i] (List.getElem_mem hi)
 unfold isD at this
 rw [Bool.and_eq_true, decide_eq_true_eq, decide_eq_true_eq] at this
 rw [List.getD_eq_getElem?_getD, List.getElem?_eq_getElem hi]
 exact this
section
variable (l d : List UInt8)
theorem eq45 {l : List UInt8} {g : Bool} (hg : g = (l.getD 0 0 == 45)) : ((((l.getD 0 0).toNat : Nat) : Int) == 45) = g := by
 rw [hg, Bool.eq_iff_iff, beq_iff_eq, beq_iff_eq]
 constructor
 ·intro h; exact UInt8.toNat_inj.1 (show (l.getD 0 0).toNat = 45 by omega)
 ·intro h; rw [h]; rfl
theorem eq48 {l : List UInt8} {g : Bool} (hg : g = (l.getD 0 0 == 48)) : ((((l.getD 0 0).toNat : Nat) : Int) == 48) = g := by
 rw [hg, Bool.eq_iff_iff, beq_iff_eq, beq_iff_eq]
 constructor
 ·intro h; exact UInt8.toNat_inj.1 (show (l.getD 0 0).toNat = 48 by omega)
 ·intro h; rw [h]; rfl
theorem rParseLimit_con (h : 65536 < l.length) : Con (D := Dm) Tryz.prog 21 [.v (str l)] (.tup [.d (Dm.int 0 7300), .v (.int .i64 4)]) := by
 refine Con.of (n := 90) Tryz.func21 rfl rfl rfl rfl rfl fun cx hfr => ?_
 refine sr rfl ?_
 refine p2 (ok_alloc (i := 0) rfl rfl bd zero_int rfl rfl rfl rfl) ?_
 refine mr rfl rfl bd rfl ?_
 refine RV.done ?_
 refine CV.seq ?_
 refine sr rfl ?_
 refine ml rfl rfl bd rfl ?_
 refine p1 (ok_lenT rfl u_str rfl rfl bd rfl) ?_
 refine p1 (ok_gtr rfl rfl bd rfl rfl) ?_
 refine RV.done ?_
 refine CV.cond rfl (fun hc => ?_) (fun hc => False.elim (by simp at hc; omega))
 refine sr rfl ?_
 refine p1 (ok_buildI rfl rfl bd) ?_
 refine p1 (ok_store rfl rfl rfl rfl rfl rfl rfl (ty_int).2 rfl rfl rfl rfl) ?_
 refine mr rfl rfl bd rfl ?_
 refine RV.done ?_
 refine CV.ret ?_
 exact fin2 rfl (.inr rfl) ⟨_, _, _, _, _, rfl, rfl, rfl, ty_int⟩ rfl (is_pair (is_lenle (by show (dig 0).length ≤ _; rw [dig_zero]; exact Nat.zero_le _)) (fun _ _ _ _ h => h))
theorem rParseNil_con : Con (D := Dm) Tryz.prog 21 [.v (str [])] (.tup [.d (Dm.int 0 7300), .v (.int .i64 2)]) := by
 refine Con.of (n := 90) Tryz.func21 rfl rfl rfl rfl rfl fun cx hfr => ?_
 refine sr rfl ?_
 refine p2 (ok_alloc (i := 0) rfl rfl bd zero_int rfl rfl rfl rfl) ?_
 refine mr rfl rfl bd rfl ?_
 refine RV.done ?_
 refine CV.seq ?_
 refine sr rfl ?_
 refine ml rfl rfl bd rfl ?_
 refine p1 (ok_lenT (m := 0) rfl u_str rfl rfl bd rfl) ?_
 refine p1 (ok_gtr rfl rfl bd rfl rfl) ?_
 refine RV.done ?_
 refine CV.cond rfl (fun hc => False.elim (by simp at hc)) (fun hc => ?_)
 refine CV.skip ?_
 refine sr rfl ?_
 refine ml rfl rfl bd rfl ?_
 refine p1 (ok_lenT (m := 0) rfl u_str rfl rfl bd rfl) ?_
 refine p1 (ok_gtr rfl rfl bd rfl rfl) ?_
 refine ml rfl rfl bd rfl ?_
 refine RV.bool (fun hb => False.elim (by simp at hb)) (fun hb => ?_)
 refine RV.step1 (OpOk.skip rfl rfl rfl rfl rfl bd) ?_
 refine RV.step1 (OpOk.skip rfl rfl rfl rfl rfl bd) ?_
 refine RV.step1 (OpOk.skip rfl rfl rfl rfl rfl bd) ?_
 refine p1 (ok_pickF rfl rfl bd rfl rfl rfl) ?_
 refine mr rfl rfl bd rfl ?_
 refine RV.done (sr rfl ?_)
 refine ml rfl rfl bd rfl ?_
 refine mr rfl rfl bd rfl ?_
 refine RV.done ?_
 refine CV.seq ?_
 refine sr rfl ?_
 refine ml rfl rfl bd rfl ?_
 refine RV.done ?_
 refine CV.no rfl ?_
 refine CV.skip ?_
 refine CV.seq ?_
 refine sr rfl ?_
 refine ml rfl rfl bd rfl ?_
 refine p1 (ok_lenT (m := 0) rfl u_str rfl rfl bd rfl) ?_
 refine p1 (ok_eql rfl rfl bd rfl rfl) ?_
 refine ml rfl rfl bd rfl ?_
 refine RV.bool (fun hb => ?_) (fun hb => False.elim (by simp at hb))
 refine RV.step1 (OpOk.skip rfl rfl rfl rfl rfl bd) ?_
 refine RV.step1 (OpOk.skip rfl rfl rfl rfl rfl bd) ?_
 refine RV.step1 (OpOk.skip rfl rfl rfl rfl rfl bd) ?_
 refine RV.step1 (OpOk.skip rfl rfl rfl rfl rfl bd) ?_
 refine RV.step1 (OpOk.skipU rfl rfl rfl rfl bd) ?_
 refine RV.step1 (OpOk.skipU rfl rfl rfl rfl bd) ?_
 refine RV.step1 (OpOk.skipU rfl rfl rfl rfl bd) ?_
 refine RV.step1 (OpOk.skipU rfl rfl rfl rfl bd) ?_
 refine RV.step1 (OpOk.skipU rfl rfl rfl rfl bd) ?_
 refine RV.step1 (OpOk.skipU rfl rfl rfl rfl bd) ?_
 refine RV.step1 (OpOk.skip rfl rfl rfl rfl rfl bd) ?_
 refine p1 (ok_pickT rfl rfl bd rfl rfl rfl) ?_
 refine RV.done ?_
 refine CV.yes rfl ?_
 refine sr rfl ?_
 refine p1 (ok_buildI rfl rfl bd) ?_
 refine p1 (ok_store rfl rfl rfl rfl rfl rfl rfl (ty_int).2 rfl rfl rfl rfl) ?_
 refine mr rfl rfl bd rfl ?_
 refine RV.done ?_
 refine CV.ret ?_
 exact fin2 rfl (.inr rfl) ⟨_, _, _, _, _, rfl, rfl, rfl, ty_int⟩ rfl (is_pair (is_lenle (by show (dig 0).length ≤ _; rw [dig_zero]; exact Nat.zero_le _)) (fun _ _ _ _ h => h))
theorem rParseEN_con (h : ¬ 65536 < l.length) (hl0 : l ≠ []) (hg : true = (l.getD 0 0 == 45)) (hd : d = l.drop 1) (hd0 : d = []) : Con (D := Dm) Tryz.prog 21 [.v (str l)] (.tup [.d (Dm.int 0 7300), .v (.int .i64 2)]) := by
 have hll : 0 < l.length := List.length_pos_iff.2 hl0
 refine Con.of (n := 90) Tryz.func21 rfl rfl rfl rfl rfl fun cx hfr => ?_
 refine sr rfl ?_
 refine p2 (ok_alloc (i := 0) rfl rfl bd zero_int rfl rfl rfl rfl) ?_
 refine mr rfl rfl bd rfl ?_
 refine RV.done ?_
 refine CV.seq ?_
 refine sr rfl ?_
 refine ml rfl rfl bd rfl ?_
 refine p1 (ok_lenT rfl u_str rfl rfl bd rfl) ?_
 refine p1 (ok_gtr rfl rfl bd rfl rfl) ?_
 refine RV.done ?_
 refine CV.cond rfl (fun hc => False.elim (by simp at hc; omega)) (fun hc => ?_)
 refine CV.skip ?_
 refine sr rfl ?_
 refine ml rfl rfl bd rfl ?_
 refine p1 (ok_lenT rfl u_str rfl rfl bd rfl) ?_
 refine p1 (ok_gtr rfl rfl bd rfl rfl) ?_
 refine ml rfl rfl bd rfl ?_
 refine RV.bool (fun hb => ?_) (fun hb => False.elim (by simp at hb; exact hl0 hb))
 refine RV.step1 (OpOk.yes (ok_move (.inl rfl) rfl bd rfl) rfl rfl rfl) ?_
 refine RV.step1 (OpOk.yes (ok_idxT (i := 0) hll u_str rfl rfl bd rfl rfl) rfl rfl rfl) ?_
 refine RV.step1 (OpOk.yes (ok_eqlB (r := true) (eq45 hg) rfl rfl bd rfl rfl) rfl rfl rfl) ?_
 refine p1 (ok_pickT rfl rfl bd rfl rfl rfl) ?_
 refine mr rfl rfl bd rfl ?_
 refine RV.done (sr rfl ?_)
 refine ml rfl rfl bd rfl ?_
 refine mr rfl rfl bd rfl ?_
 refine RV.done ?_
 refine CV.seq ?_
 refine sr rfl ?_
 refine ml rfl rfl bd rfl ?_
 refine RV.done ?_
 refine CV.yes rfl ?_
 refine CV.region rfl (fun h => nomatch h) ?_
 refine ml rfl rfl bd rfl ?_
 refine p1 (ok_cutT (v := d) (some 1) none (by rw [hd]; show (l.take l.length).drop 1 = _; rw [List.take_length]) (by show 1 ≤ l.length; omega) (Nat.le_refl _) u_str rfl rfl bd rfl rfl trivial) ?_
 refine mr rfl rfl bd rfl ?_
 refine RV.done ?_
 refine CV.seq ?_
 refine sr rfl ?_
 refine ml rfl rfl bd rfl ?_
 refine p1 (ok_lenT rfl u_str rfl rfl bd rfl) ?_
 refine p1 (ok_eql rfl rfl bd rfl rfl) ?_
 refine ml rfl rfl bd rfl ?_
 refine RV.bool (fun hb => ?_) (fun hb => False.elim (by simp at hb; exact hb hd0))
 refine RV.step1 (OpOk.skip rfl rfl rfl rfl rfl bd) ?_
 refine RV.step1 (OpOk.skip rfl rfl rfl rfl rfl bd) ?_
 refine RV.step1 (OpOk.skip rfl rfl rfl rfl rfl bd) ?_
 refine RV.step1 (OpOk.skip rfl rfl rfl rfl rfl bd) ?_
 refine RV.step1 (OpOk.skipU rfl rfl rfl rfl bd) ?_
 refine RV.step1 (OpOk.skipU rfl rfl rfl rfl bd) ?_
 refine RV.step1 (OpOk.skipU rfl rfl rfl rfl bd) ?_
 refine RV.step1 (OpOk.skipU rfl rfl rfl rfl bd) ?_
 refine RV.step1 (OpOk.skipU rfl rfl rfl rfl bd) ?_
 refine RV.step1 (OpOk.skipU rfl rfl rfl rfl bd) ?_
 refine RV.step1 (OpOk.skip rfl rfl rfl rfl rfl bd) ?_
 refine p1 (ok_pickT rfl rfl bd rfl rfl rfl) ?_
 refine RV.done ?_
 refine CV.yes rfl ?_
 refine sr rfl ?_
 refine p1 (ok_buildI rfl rfl bd) ?_
 refine p1 (ok_store rfl rfl rfl rfl rfl rfl rfl (ty_int).2 rfl rfl rfl rfl) ?_
 refine mr rfl rfl bd rfl ?_
 refine RV.done ?_
 refine CV.ret ?_
 exact fin2 rfl (.inr rfl) ⟨_, _, _, _, _, rfl, rfl, rfl, ty_int⟩ rfl (is_pair (is_lenle (by show (dig 0).length ≤ _; rw [dig_zero]; exact Nat.zero_le _)) (fun _ _ _ _ h => h))
theorem rParseZN_con (h : ¬ 65536 < l.length) (hl0 : l ≠ []) (hg : true = (l.getD 0 0 == 45)) (hd : d = l.drop 1) (hd0 : d ≠ []) (h48 : true = (d.getD 0 0 == 48)) : Con (D := Dm) Tryz.prog 21 [.v (str l)] (.tup [.d (Dm.int 0 7300), .v (.int .i64 2)]) := by
 have hll : 0 < l.length := List.length_pos_iff.2 hl0
 refine Con.of (n := 90) Tryz.func21 rfl rfl rfl rfl rfl fun cx hfr => ?_
 refine sr rfl ?_
 refine p2 (ok_alloc (i := 0) rfl rfl bd zero_int rfl rfl rfl rfl) ?_
 refine mr rfl rfl bd rfl ?_
 refine RV.done ?_
 refine CV.seq ?_
 refine sr rfl ?_
 refine ml rfl rfl bd rfl ?_
 refine p1 (ok_lenT rfl u_str rfl rfl bd rfl) ?_
 refine p1 (ok_gtr rfl rfl bd rfl rfl) ?_
 refine RV.done ?_
 refine CV.cond rfl (fun hc => False.elim (by simp at hc; omega)) (fun hc => ?_)
 refine CV.skip ?_
 refine sr rfl ?_
 refine ml rfl rfl bd rfl ?_
 refine p1 (ok_lenT rfl u_str rfl rfl bd rfl) ?_
 refine p1 (ok_gtr rfl rfl bd rfl rfl) ?_
 refine ml rfl rfl bd rfl ?_
 refine RV.bool (fun hb => ?_) (fun hb => False.elim (by simp at hb; exact hl0 hb))
 refine RV.step1 (OpOk.yes (ok_move (.inl rfl) rfl bd rfl) rfl rfl rfl) ?_
 refine RV.step1 (OpOk.yes (ok_idxT (i := 0) hll u_str rfl rfl bd rfl rfl) rfl rfl rfl) ?_
 refine RV.step1 (OpOk.yes (ok_eqlB (r := true) (eq45 hg) rfl rfl bd rfl rfl) rfl rfl rfl) ?_
 refine p1 (ok_pickT rfl rfl bd rfl rfl rfl) ?_
 refine mr rfl rfl bd rfl ?_
 refine RV.done (sr rfl ?_)
 refine ml rfl rfl bd rfl ?_
 refine mr rfl rfl bd rfl ?_
 refine RV.done ?_
 refine CV.seq ?_
 refine sr rfl ?_
 refine ml rfl rfl bd rfl ?_
 refine RV.done ?_
 refine CV.yes rfl ?_
 refine CV.region rfl (fun h => nomatch h) ?_
 refine ml rfl rfl bd rfl ?_
 refine p1 (ok_cutT (v := d) (some 1) none (by rw [hd]; show (l.take l.length).drop 1 = _; rw [List.take_length]) (by show 1 ≤ l.length; omega) (Nat.le_refl _) u_str rfl rfl bd rfl rfl trivial) ?_
 refine mr rfl rfl bd rfl ?_
 refine RV.done ?_
 refine CV.seq ?_
 refine sr rfl ?_
 refine ml rfl rfl bd rfl ?_
 refine p1 (ok_lenT rfl u_str rfl rfl bd rfl) ?_
 refine p1 (ok_eql rfl rfl bd rfl rfl) ?_
 refine ml rfl rfl bd rfl ?_
 refine RV.bool (fun hb => False.elim (by simp at hb; exact hd0 hb)) (fun hb => ?_)
 refine RV.step1 (OpOk.yes (ok_move (.inl rfl) rfl bd rfl) rfl rfl rfl) ?_
 refine RV.step1 (OpOk.yes (ok_idxT (i := 0) (List.length_pos_iff.2 hd0) u_str rfl rfl bd rfl rfl) rfl rfl rfl) ?_
 refine RV.step1 (OpOk.yes (ok_eqlB (r := true) (eq48 h48) rfl rfl bd rfl rfl) rfl rfl rfl) ?_
 refine RV.step1 (OpOk.yes (ok_move (.inl rfl) rfl bd rfl) rfl rfl rfl) ?_
 refine RV.step1 (OpOk.yes (ok_move (.inl rfl) rfl bd rfl) rfl rfl rfl) ?_
 refine RV.step1 (OpOk.yes (ok_move (.inl rfl) rfl bd rfl) rfl rfl rfl) ?_
 refine RV.step1 (OpOk.skip rfl rfl rfl rfl rfl bd) ?_
 refine RV.step1 (OpOk.skip rfl rfl rfl rfl rfl bd) ?_
 refine RV.step1 (OpOk.skip rfl rfl rfl rfl rfl bd) ?_
 refine RV.step1 (OpOk.yes (ok_pickT rfl rfl bd rfl rfl rfl) rfl rfl rfl) ?_
 refine RV.step1 (OpOk.yes (ok_pickT rfl rfl bd rfl rfl rfl) rfl rfl rfl) ?_
 refine p1 (ok_pickF rfl rfl bd rfl rfl rfl) ?_
 refine RV.done ?_
 refine CV.yes rfl ?_
 refine sr rfl ?_
 refine p1 (ok_buildI rfl rfl bd) ?_
 refine p1 (ok_store rfl rfl rfl rfl rfl rfl rfl (ty_int).2 rfl rfl rfl rfl) ?_
 refine mr rfl rfl bd rfl ?_
 refine RV.done ?_
 refine CV.ret ?_
 exact fin2 rfl (.inr rfl) ⟨_, _, _, _, _, rfl, rfl, rfl, ty_int⟩ rfl (is_pair (is_lenle (by show (dig 0).length ≤ _; rw [dig_zero]; exact Nat.zero_le _)) (fun _ _ _ _ h => h))
theorem rParseMN_con (h : ¬ 65536 < l.length) (hl0 : l ≠ []) (hg : true = (l.getD 0 0 == 45)) (hd : d = l.drop 1) (hd0 : d ≠ []) (h48 : false = (d.getD 0 0 == 48)) : Con (D := Dm) Tryz.prog 21 [.v (str l)] (.tup [.d (Dm.int (if d.all isD = true then mk true (valD d) else 0) 7300), .v (.int .i64 (if d.all isD = true then 0 else 2))]) := by
 have hdl : d.length ≤ 65536 := by rw [hd, List.length_drop]; omega
 have hcl := chunks_len 7282 d (by omega)
 have hll : 0 < l.length := List.length_pos_iff.2 hl0
 refine Con.of (n := 90) Tryz.func21 rfl rfl rfl rfl rfl fun cx hfr => ?_
 refine sr rfl ?_
 refine p2 (ok_alloc (i := 0) rfl rfl bd zero_int rfl rfl rfl rfl) ?_
 refine mr rfl rfl bd rfl ?_
 refine RV.done ?_
 refine CV.seq ?_
 refine sr rfl ?_
 refine ml rfl rfl bd rfl ?_
 refine p1 (ok_lenT rfl u_str rfl rfl bd rfl) ?_
 refine p1 (ok_gtr rfl rfl bd rfl rfl) ?_
 refine RV.done ?_
 refine CV.cond rfl (fun hc => False.elim (by simp at hc; omega)) (fun hc => ?_)
 refine CV.skip ?_
 refine sr rfl ?_
 refine ml rfl rfl bd rfl ?_
 refine p1 (ok_lenT rfl u_str rfl rfl bd rfl) ?_
 refine p1 (ok_gtr rfl rfl bd rfl rfl) ?_
 refine ml rfl rfl bd rfl ?_
 refine RV.bool (fun hb => ?_) (fun hb => False.elim (by simp at hb; exact hl0 hb))
 refine RV.step1 (OpOk.yes (ok_move (.inl rfl) rfl bd rfl) rfl rfl rfl) ?_
 refine RV.step1 (OpOk.yes (ok_idxT (i := 0) hll u_str rfl rfl bd rfl rfl) rfl rfl rfl) ?_
 refine RV.step1 (OpOk.yes (ok_eqlB (r := true) (eq45 hg) rfl rfl bd rfl rfl) rfl rfl rfl) ?_
 refine p1 (ok_pickT rfl rfl bd rfl rfl rfl) ?_
 refine mr rfl rfl bd rfl ?_
 refine RV.done (sr rfl ?_)
 refine ml rfl rfl bd rfl ?_
 refine mr rfl rfl bd rfl ?_
 refine RV.done ?_
 refine CV.seq ?_
 refine sr rfl ?_
 refine ml rfl rfl bd rfl ?_
 refine RV.done ?_
 refine CV.yes rfl ?_
 refine CV.region rfl (fun h => nomatch h) ?_
 refine ml rfl rfl bd rfl ?_
 refine p1 (ok_cutT (v := d) (some 1) none (by rw [hd]; show (l.take l.length).drop 1 = _; rw [List.take_length]) (by show 1 ≤ l.length; omega) (Nat.le_refl _) u_str rfl rfl bd rfl rfl trivial) ?_
 refine mr rfl rfl bd rfl ?_
 refine RV.done ?_
 refine CV.seq ?_
 refine sr rfl ?_
 refine ml rfl rfl bd rfl ?_
 refine p1 (ok_lenT rfl u_str rfl rfl bd rfl) ?_
 refine p1 (ok_eql rfl rfl bd rfl rfl) ?_
 refine ml rfl rfl bd rfl ?_
 refine RV.bool (fun hb => False.elim (by simp at hb; exact hd0 hb)) (fun hb => ?_)
 refine RV.step1 (OpOk.yes (ok_move (.inl rfl) rfl bd rfl) rfl rfl rfl) ?_
 refine RV.step1 (OpOk.yes (ok_idxT (i := 0) (List.length_pos_iff.2 hd0) u_str rfl rfl bd rfl rfl) rfl rfl rfl) ?_
 refine RV.step1 (OpOk.yes (ok_eqlB (r := false) (eq48 h48) rfl rfl bd rfl rfl) rfl rfl rfl) ?_
 refine RV.step1 (OpOk.yes (ok_move (.inl rfl) rfl bd rfl) rfl rfl rfl) ?_
 refine RV.step1 (OpOk.skip rfl rfl rfl rfl rfl bd) ?_
 refine RV.step1 (OpOk.skip rfl rfl rfl rfl rfl bd) ?_
 refine RV.step1 (OpOk.skipU rfl rfl rfl rfl bd) ?_
 refine RV.step1 (OpOk.skipU rfl rfl rfl rfl bd) ?_
 refine RV.step1 (OpOk.skipU rfl rfl rfl rfl bd) ?_
 refine RV.step1 (OpOk.skip rfl rfl rfl rfl rfl bd) ?_
 refine RV.step1 (OpOk.yes (ok_pickF rfl rfl bd rfl rfl rfl) rfl rfl rfl) ?_
 refine p1 (ok_pickF rfl rfl bd rfl rfl rfl) ?_
 refine RV.done ?_
 refine CV.no rfl ?_
 refine CV.skip ?_
 refine CV.seq ?_
 refine sr rfl ?_
 refine mr rfl rfl bd rfl ?_
 refine RV.done ?_
 refine CV.block ?_
 refine CV.loop (X := {k : Nat // k ≤ d.length ∧ (d.take k).all isD = true}) (fun k => [(.s 6, .av (.one (.v (.int .i64 (k.1 : Int))))), (.s 5, .av (.one (.v (str d)))), (.s 4, .av (.one (.v (.bool true)))), (.s 2, .av (.one (.ptr 0 0))), (.b 0, .blk 25 [(some 2, .v (.agg #[.bool false, .slice none 0 0]))])]) (fun k => d.length - k.1) ⟨0, Nat.zero_le _, by simp⟩ (Sub.mk ⟨XV.le_rfl _, XV.le_rfl _, XV.le_rfl _, XV.le_rfl _, XV.le_rfl _, trivial⟩ rfl rfl) (fun k => ?_)
 obtain ⟨k, hk, hk2⟩ := k
 simp only
 refine CV.seq ?_
 refine sr rfl ?_
 refine ml rfl rfl bd rfl ?_
 refine ml rfl rfl bd rfl ?_
 refine p1 (ok_lenT rfl u_str rfl rfl bd rfl) ?_
 refine p1 (ok_lss rfl rfl bd rfl rfl) ?_
 refine RV.done ?_
 refine CV.cond rfl (fun hc => ?_) (fun hc => ?_)
 ·refine CV.skip ?_
  refine CV.seq ?_
  refine CV.block ?_
  refine sr rfl ?_
  refine ml rfl rfl bd rfl ?_
  refine ml rfl rfl bd rfl ?_
  refine p1 (ok_idxT (i := k) (by simpa using hc) u_str rfl rfl bd rfl rfl) ?_
  refine p1 (ok_lss rfl rfl bd rfl rfl) ?_
  refine ml rfl rfl bd rfl ?_
  refine RV.bool (fun hb => ?_) (fun hb => ?_)
  ·refine RV.step1 (OpOk.skip rfl rfl rfl rfl rfl bd) ?_
   refine RV.step1 (OpOk.skip rfl rfl rfl rfl rfl bd) ?_
   refine RV.step1 (OpOk.skip rfl rfl rfl rfl rfl bd) ?_
   refine RV.step1 (OpOk.skip rfl rfl rfl rfl rfl bd) ?_
   refine p1 (ok_pickT rfl rfl bd rfl rfl rfl) ?_
   refine RV.done ?_
   refine CV.yes rfl ?_
   refine sr rfl ?_
   refine p1 (ok_buildI rfl rfl bd) ?_
   refine p1 (ok_store rfl rfl rfl rfl rfl rfl rfl (ty_int).2 rfl rfl rfl rfl) ?_
   refine mr rfl rfl bd rfl ?_
   refine RV.done ?_
   refine CV.ret ?_
   have hf : ¬ d.all isD = true := (by have hlt : k < d.length := (by simpa using hc); intro ha; have := isD_at ha hlt; have := of_decide_eq_true hb; omega)
   rw [if_neg hf, if_neg hf]
   exact fin2 rfl (.inr rfl) ⟨_, _, _, _, _, rfl, rfl, rfl, ty_int⟩ rfl (is_pair (is_lenle (by show (dig 0).length ≤ _; rw [dig_zero]; exact Nat.zero_le _)) (fun _ _ _ _ h => h))
  ·refine RV.step1 (OpOk.yes (ok_move (.inl rfl) rfl bd rfl) rfl rfl rfl) ?_
   refine RV.step1 (OpOk.yes (ok_move (.inl rfl) rfl bd rfl) rfl rfl rfl) ?_
   refine RV.step1 (OpOk.yes (ok_idxT (i := k) (by simpa using hc) u_str rfl rfl bd rfl rfl) rfl rfl rfl) ?_
   refine RV.step1 (OpOk.yes (ok_gtr rfl rfl bd rfl rfl) rfl rfl rfl) ?_
   refine p1 (ok_pickF rfl rfl bd rfl rfl rfl) ?_
   refine RV.done ?_
   refine CV.cond rfl (fun hg1 => ?_) (fun hg1 => ?_)
   ·refine sr rfl ?_
    refine p1 (ok_buildI rfl rfl bd) ?_
    refine p1 (ok_store rfl rfl rfl rfl rfl rfl rfl (ty_int).2 rfl rfl rfl rfl) ?_
    refine mr rfl rfl bd rfl ?_
    refine RV.done ?_
    refine CV.ret ?_
    have hf : ¬ d.all isD = true := (by have hlt : k < d.length := (by simpa using hc); intro ha; have := isD_at ha hlt; have := of_decide_eq_true hg1; omega)
    rw [if_neg hf, if_neg hf]
    exact fin2 rfl (.inr rfl) ⟨_, _, _, _, _, rfl, rfl, rfl, ty_int⟩ rfl (is_pair (is_lenle (by show (dig 0).length ≤ _; rw [dig_zero]; exact Nat.zero_le _)) (fun _ _ _ _ h => h))
   ·refine CV.skip ?_
    refine CV.region rfl (fun h => nomatch h) ?_
    refine ml rfl rfl bd rfl ?_
    refine p1 (ok_add (c := ((k + 1 : Nat) : Int)) (by rw [wrapI (by omega) (by omega)]; omega) rfl rfl bd rfl rfl) ?_
    refine mr rfl rfl bd rfl ?_
    refine RV.done ?_
    have hlt : k < d.length := (by simpa using hc)
    exact ⟨⟨k + 1, hlt, take_isD hlt hk2 (by simpa using hb) (by simpa using hg1)⟩, Sub.mk ⟨XV.le_rfl _, XV.le_rfl _, XV.le_rfl _, XV.le_rfl _, XV.le_rfl _, trivial⟩ rfl rfl, by show d.length - (k + 1) < d.length - k; omega⟩
 ·refine CV.exit ?_
  refine CV.seq ?_
  have hall : d.all isD = true := all_take (by simpa using hc) hk2
  rw [if_pos hall, if_pos hall]
  refine CV.region rfl (fun h => nomatch h) ?_
  refine mr rfl rfl bd rfl ?_
  refine RV.done ?_
  refine CV.seq ?_
  refine CV.seq ?_
  refine CV.nilrow 7 10 3 none rfl rfl rfl rfl ?_
  refine CV.kp [10] rfl rfl ?_
  refine CV.region rfl (fun h => nomatch h) ?_
  refine ml rfl rfl bd rfl ?_
  refine p1 (ok_lenT rfl u_str rfl rfl bd rfl) ?_
  refine mr rfl rfl bd rfl ?_
  refine RV.done ?_
  refine CV.block ?_
  refine CV.loop (X := {q : Int × List Nat // q.1 ≤ d.length ∧ -9 ≤ q.1 ∧ q.2 ++ chunks (d.take q.1.toNat) = chunks d}) (fun q => [(.s 8, .av (.one (.v (.int .i64 q.1.1)))), (.s 7, .av (.one (.sl 10 q.1.2.length))), (.b 10, .row 3 none (nuV q.1.2)), (KP, .np [10]), (.s 5, .av (.one (.v (str d)))), (.s 4, .av (.one (.v (.bool true)))), (.s 2, .av (.one (.ptr 0 0))), (.b 0, .blk 25 [(some 2, .v (.agg #[.bool false, .slice none 0 0]))])]) (fun q => q.1.1.toNat) ⟨((d.length : Int), []), Int.le_refl _, by omega, by rw [Int.toNat_natCast, List.take_length]; rfl⟩ (Sub.mk ⟨XV.le_rfl _, XV.le_rfl _, XV.le_rfl _, trivial, XV.le_rfl _, XV.le_rfl _, XV.le_rfl _, XV.le_rfl _, trivial⟩ rfl rfl rfl rfl) (fun q => ?_)
  obtain ⟨⟨e, ds⟩, hm1, hm0, hm2⟩ := q
  simp only at hm1 hm0 hm2 ⊢
  have hds : ds.length ≤ 7282 := by have := congrArg List.length hm2; rw [List.length_append] at this; omega
  refine CV.seq ?_
  refine sr rfl ?_
  refine ml rfl rfl bd rfl ?_
  refine p1 (ok_gtr rfl rfl bd rfl rfl) ?_
  refine RV.done ?_
  refine CV.cond rfl (fun hc2 => ?_) (fun hc2 => ?_)
  ·obtain ⟨m, rfl⟩ : ∃ m : Nat, e = (m : Int) := ⟨e.toNat, by have : 0 < e := (by simpa using hc2) ; omega⟩
   have hm0 : 0 < m := (by simpa using hc2)
   have hmd : m ≤ d.length := (by omega)
   rw [Int.toNat_natCast] at hm2
   refine CV.skip ?_
   refine CV.seq ?_
   refine CV.block ?_
   refine sr rfl ?_
   refine mr rfl rfl bd rfl ?_
   refine RV.done ?_
   refine CV.seq ?_
   refine sr rfl ?_
   refine ml rfl rfl bd rfl ?_
   refine p1 (ok_sub (c := (m : Int) - 9) (by rw [wrapI (by omega) (by omega)]) rfl rfl bd rfl rfl) ?_
   refine p1 (ok_maxI (c := ((m - 9 : Nat) : Int)) (by split <;> omega) rfl rfl bd rfl rfl) ?_
   refine mr rfl rfl bd rfl ?_
   refine RV.done ?_
   refine CV.block ?_
   refine CV.loop (X := {i : Nat // m - 9 ≤ i ∧ i ≤ m}) (fun i => [(.s 10, .av (.one (.v (.int .i64 (i.1 : Int))))), (.s 9, .av (.one (.v (.int .i64 ((valD ((d.take i.1).drop (m - 9)) : Nat) : Int))))), (.s 8, .av (.one (.v (.int .i64 (m : Int))))), (.s 7, .av (.one (.sl 10 ds.length))), (.b 10, .row 3 none (nuV ds)), (KP, .np [10]), (.s 5, .av (.one (.v (str d)))), (.s 4, .av (.one (.v (.bool true)))), (.s 2, .av (.one (.ptr 0 0))), (.b 0, .blk 25 [(some 2, .v (.agg #[.bool false, .slice none 0 0]))])]) (fun i => m - i.1) ⟨m - 9, Nat.le_refl _, by omega⟩ (Sub.mk ⟨XV.le_rfl _, XV.le_of (by rw [List.drop_eq_nil_of_le (by show (d.take (m - 9)).length ≤ m - 9; rw [List.length_take]; omega)]; rfl), XV.le_rfl _, XV.le_rfl _, XV.le_rfl _, trivial, XV.le_rfl _, XV.le_rfl _, XV.le_rfl _, XV.le_rfl _, trivial⟩ rfl rfl rfl rfl) (fun i => ?_)
   obtain ⟨i, hi1, hi2⟩ := i
   simp only
   have hv9 := valD9 hall (a := m - 9) (i := i) (by omega)
   refine CV.seq ?_
   refine sr rfl ?_
   refine ml rfl rfl bd rfl ?_
   refine ml rfl rfl bd rfl ?_
   refine p1 (ok_lss rfl rfl bd rfl rfl) ?_
   refine RV.done ?_
   refine CV.cond rfl (fun hc3 => ?_) (fun hc3 => ?_)
   ·refine CV.skip ?_
    refine CV.seq ?_
    refine CV.block ?_
    refine CV.region rfl (fun h => nomatch h) ?_
    refine ml rfl rfl bd rfl ?_
    refine p1 (ok_mul (c := ((10 * valD ((d.take i).drop (m - 9)) : Nat) : Int)) (by rw [wrapI (by omega) (by omega)]; omega) rfl rfl bd rfl rfl) ?_
    refine ml rfl rfl bd rfl ?_
    refine ml rfl rfl bd rfl ?_
    refine p1 (ok_idxT (i := i) (by have : i < m := (by simpa using hc3); omega) u_str rfl rfl bd rfl rfl) ?_
    refine p1 (ok_sub (c := (((d.getD i 0).toNat - 48 : Nat) : Int)) (by have := isD_at hall (i := i) (by have : i < m := (by simpa using hc3); omega); rw [wrap8 (by omega) (by omega)]; omega) rfl rfl bd rfl rfl) ?_
    refine p1 (ok_cvi (z' := (((d.getD i 0).toNat - 48 : Nat) : Int)) (by have := (d.getD i 0).toNat_lt; rw [wrapI (by omega) (by omega)]) u_u8 u_int rfl rfl bd rfl) ?_
    refine p1 (ok_add (c := ((valD ((d.take (i + 1)).drop (m - 9)) : Nat) : Int)) (by have hlt : i < m := (by simpa using hc3); have := isD_at hall (i := i) (by omega); rw [valD_step hi1 (by omega), wrapI (by omega) (by omega)]; omega) rfl rfl bd rfl rfl) ?_
    refine mr rfl rfl bd rfl ?_
    refine RV.done ?_
    refine CV.region rfl (fun h => nomatch h) ?_
    refine ml rfl rfl bd rfl ?_
    refine p1 (ok_add (c := ((i + 1 : Nat) : Int)) (by rw [wrapI (by omega) (by omega)]; omega) rfl rfl bd rfl rfl) ?_
    refine mr rfl rfl bd rfl ?_
    refine RV.done ?_
    have hlt : i < m := (by simpa using hc3)
    exact ⟨⟨i + 1, by omega, hlt⟩, Sub.mk ⟨XV.le_rfl _, XV.le_rfl _, XV.le_rfl _, XV.le_rfl _, XV.le_rfl _, trivial, XV.le_rfl _, XV.le_rfl _, XV.le_rfl _, XV.le_rfl _, trivial⟩ rfl rfl rfl rfl, by show m - (i + 1) < m - i; omega⟩
   ·refine CV.exit ?_
    refine CV.region rfl (fun h => nomatch h) ?_
    refine ml rfl rfl bd rfl ?_
    refine ml rfl rfl bd rfl ?_
    refine p1 (ok_litD (G := Dm.gen (lstG none [_])) (lstG_Lst none _) u_ints zs_i64 rfl rfl rfl (by intro s hs; obtain rfl := List.mem_singleton.1 hs; rfl) rfl rfl rfl bd (.cons rfl Conv.any .nil)) ?_
    refine RV.step4 (OpOk.plain (ok_appendN (r := 10) (r' := 11) (k := none) (lst_elems (by decide) rfl) (by rw [nuV_length]; simp; omega) (by rw [nuV_length]; simp; omega) u_ints inf_i64 rfl rfl (nuV_length _).symm rfl rfl bd rfl rfl rfl rfl rfl rfl rfl) rfl) ?_
    refine mr rfl rfl bd rfl ?_
    refine RV.done ?_
    refine CV.region rfl (fun h => nomatch h) ?_
    refine ml rfl rfl bd rfl ?_
    refine p1 (ok_sub (c := (m : Int) - 9) (by rw [wrapI (by omega) (by omega)]) rfl rfl bd rfl rfl) ?_
    refine mr rfl rfl bd rfl ?_
    refine RV.done ?_
    have hi : i = m := (by have : ¬ i < m := (by simpa using hc3); omega)
    subst hi
    have hml : (d.take i).length = i := by rw [List.length_take]; omega
    have hstep : chunks (d.take i) = valD ((d.take i).drop (i - 9)) :: chunks (d.take (i - 9)) := by rw [chunks_cons (fun e => by rw [e] at hml; simp at hml; omega), hml, List.take_take, Nat.min_eq_left (by omega)]
    exact ⟨⟨((i : Int) - 9, ds ++ [valD ((d.take i).drop (i - 9))]), by show (i : Int) - 9 ≤ d.length; omega, by show -9 ≤ (i : Int) - 9; omega, by show (ds ++ [_]) ++ chunks (d.take ((i : Int) - 9).toNat) = _; rw [show ((i : Int) - 9).toNat = i - 9 by omega, List.append_assoc, ← hm2, hstep]; rfl⟩, Sub.mkr (fun i => if i = 10 then 11 else i) ⟨XV.le_same, XV.le_sl rfl (by simp [nuV_length]), XV.le_row (nuV_snoc ds _), trivial, XV.le_same, XV.le_same, fun _ _ _ _ h => h, ⟨rfl, fun _ _ _ _ h => h⟩, trivial⟩ rfl rfl rfl rfl, by show ((i : Int) - 9).toNat < ((i : Int)).toNat; omega⟩
  ·refine CV.exit ?_
   refine CV.seq ?_
   have he0 : e.toNat = 0 := by have : ¬ 0 < e := (by simpa using hc2); omega
   rw [he0, List.take_zero, chunks_nil, List.append_nil] at hm2
   refine CV.freeze (r := 10) (t := 7) (G := Dm.dl ds) (cx.bw hfr) rfl rfl (nuV_length ds).symm rfl rfl (nuV_Lst ds) (nuV_Lst0 ds) ?_
   refine CV.kp [] rfl rfl ?_
   refine CV.region rfl (fun h => nomatch h) ?_
   refine ml rfl rfl bd rfl ?_
   refine ml rfl rfl bd rfl ?_
   refine p1 (ok_call (rnormal_con _ _ 7300 (by rw [hm2]; exact chunks_Dig 7282 d (by omega) hall) (Nat.le_trans (len_mk _ _ (by rw [hm2]; exact chunks_Dig 7282 d (by omega) hall)) (by omega))) rfl rfl bd Tryz.func78 rfl rfl (.cons rfl Conv.any (.cons rfl Conv.any .nil)) rfl hfr rfl) ?_
   refine p1 (ok_store rfl rfl rfl rfl rfl rfl rfl (ty_int).2 rfl rfl rfl rfl) ?_
   refine mr rfl rfl bd rfl ?_
   refine RV.done ?_
   refine CV.ret ?_
   exact fin2 rfl (.inr rfl) ⟨_, _, _, _, _, rfl, rfl, rfl, ty_int⟩ rfl (is_pair (is_int' (by rw [hm2, chunks_val 7282 d (by omega)]) (Nat.le_refl _)) (fun _ _ _ _ h => h))
theorem rParseZP_con (h : ¬ 65536 < l.length) (hl0 : l ≠ []) (hg : false = (l.getD 0 0 == 45)) (hd : d = l) (hd0 : d ≠ []) (h48 : true = (d.getD 0 0 == 48)) (h1 : 1 < d.length) : Con (D := Dm) Tryz.prog 21 [.v (str l)] (.tup [.d (Dm.int 0 7300), .v (.int .i64 2)]) := by
 subst hd
 have hll : 0 < d.length := List.length_pos_iff.2 hl0
 refine Con.of (n := 90) Tryz.func21 rfl rfl rfl rfl rfl fun cx hfr => ?_
 refine sr rfl ?_
 refine p2 (ok_alloc (i := 0) rfl rfl bd zero_int rfl rfl rfl rfl) ?_
 refine mr rfl rfl bd rfl ?_
 refine RV.done ?_
 refine CV.seq ?_
 refine sr rfl ?_
 refine ml rfl rfl bd rfl ?_
 refine p1 (ok_lenT rfl u_str rfl rfl bd rfl) ?_
 refine p1 (ok_gtr rfl rfl bd rfl rfl) ?_
 refine RV.done ?_
 refine CV.cond rfl (fun hc => False.elim (by simp at hc; omega)) (fun hc => ?_)
 refine CV.skip ?_
 refine sr rfl ?_
 refine ml rfl rfl bd rfl ?_
 refine p1 (ok_lenT rfl u_str rfl rfl bd rfl) ?_
 refine p1 (ok_gtr rfl rfl bd rfl rfl) ?_
 refine ml rfl rfl bd rfl ?_
 refine RV.bool (fun hb => ?_) (fun hb => False.elim (by simp at hb; exact hl0 hb))
 refine RV.step1 (OpOk.yes (ok_move (.inl rfl) rfl bd rfl) rfl rfl rfl) ?_
 refine RV.step1 (OpOk.yes (ok_idxT (i := 0) hll u_str rfl rfl bd rfl rfl) rfl rfl rfl) ?_
 refine RV.step1 (OpOk.yes (ok_eqlB (r := false) (eq45 hg) rfl rfl bd rfl rfl) rfl rfl rfl) ?_
 refine p1 (ok_pickT rfl rfl bd rfl rfl rfl) ?_
 refine mr rfl rfl bd rfl ?_
 refine RV.done (sr rfl ?_)
 refine ml rfl rfl bd rfl ?_
 refine mr rfl rfl bd rfl ?_
 refine RV.done ?_
 refine CV.seq ?_
 refine sr rfl ?_
 refine ml rfl rfl bd rfl ?_
 refine RV.done ?_
 refine CV.no rfl ?_
 refine CV.skip ?_
 refine CV.seq ?_
 refine sr rfl ?_
 refine ml rfl rfl bd rfl ?_
 refine p1 (ok_lenT rfl u_str rfl rfl bd rfl) ?_
 refine p1 (ok_eql rfl rfl bd rfl rfl) ?_
 refine ml rfl rfl bd rfl ?_
 refine RV.bool (fun hb => False.elim (by simp at hb; exact hd0 hb)) (fun hb => ?_)
 refine RV.step1 (OpOk.yes (ok_move (.inl rfl) rfl bd rfl) rfl rfl rfl) ?_
 refine RV.step1 (OpOk.yes (ok_idxT (i := 0) (List.length_pos_iff.2 hd0) u_str rfl rfl bd rfl rfl) rfl rfl rfl) ?_
 refine RV.step1 (OpOk.yes (ok_eqlB (r := true) (eq48 h48) rfl rfl bd rfl rfl) rfl rfl rfl) ?_
 refine RV.step1 (OpOk.yes (ok_move (.inl rfl) rfl bd rfl) rfl rfl rfl) ?_
 refine RV.step1 (OpOk.yes (ok_move (.inl rfl) rfl bd rfl) rfl rfl rfl) ?_
 refine RV.step1 (OpOk.yes (ok_move (.inl rfl) rfl bd rfl) rfl rfl rfl) ?_
 refine RV.step1 (OpOk.yes (ok_move (.inl rfl) rfl bd rfl) rfl rfl rfl) ?_
 refine RV.step1 (OpOk.yes (ok_lenT rfl u_str rfl rfl bd rfl) rfl rfl rfl) ?_
 refine RV.step1 (OpOk.yes (ok_gtr rfl rfl bd rfl rfl) rfl rfl rfl) ?_
 refine RV.step1 (OpOk.yes (ok_pickF rfl rfl bd rfl rfl rfl) rfl rfl rfl) ?_
 refine RV.step1 (OpOk.yes (ok_pickT rfl rfl bd rfl rfl rfl) rfl rfl rfl) ?_
 refine p1 (ok_pickF rfl rfl bd rfl rfl rfl) ?_
 refine RV.done ?_
 refine CV.cond rfl (fun hc => ?_) (fun hc => False.elim (by simp at hc; omega))
 refine sr rfl ?_
 refine p1 (ok_buildI rfl rfl bd) ?_
 refine p1 (ok_store rfl rfl rfl rfl rfl rfl rfl (ty_int).2 rfl rfl rfl rfl) ?_
 refine mr rfl rfl bd rfl ?_
 refine RV.done ?_
 refine CV.ret ?_
 exact fin2 rfl (.inr rfl) ⟨_, _, _, _, _, rfl, rfl, rfl, ty_int⟩ rfl (is_pair (is_lenle (by show (dig 0).length ≤ _; rw [dig_zero]; exact Nat.zero_le _)) (fun _ _ _ _ h => h))
theorem rParseMP_con (h : ¬ 65536 < l.length) (hl0 : l ≠ []) (hg : false = (l.getD 0 0 == 45)) (hd : d = l) (hd0 : d ≠ []) (h48 : false = (d.getD 0 0 == 48)) : Con (D := Dm) Tryz.prog 21 [.v (str l)] (.tup [.d (Dm.int (if d.all isD = true then mk false (valD d) else 0) 7300), .v (.int .i64 (if d.all isD = true then 0 else 2))]) := by
 subst hd
 have hdl : d.length ≤ 65536 := by omega
 have hcl := chunks_len 7282 d (by omega)
 have hll : 0 < d.length := List.length_pos_iff.2 hl0
 refine Con.of (n := 90) Tryz.func21 rfl rfl rfl rfl rfl fun cx hfr => ?_
 refine sr rfl ?_
 refine p2 (ok_alloc (i := 0) rfl rfl bd zero_int rfl rfl rfl rfl) ?_
 refine mr rfl rfl bd rfl ?_
 refine RV.done ?_
 refine CV.seq ?_
 refine sr rfl ?_
 refine ml rfl rfl bd rfl ?_
 refine p1 (ok_lenT rfl u_str rfl rfl bd rfl) ?_
 refine p1 (ok_gtr rfl rfl bd rfl rfl) ?_
 refine RV.done ?_
 refine CV.cond rfl (fun hc => False.elim (by simp at hc; omega)) (fun hc => ?_)
 refine CV.skip ?_
 refine sr rfl ?_
 refine ml rfl rfl bd rfl ?_
 refine p1 (ok_lenT rfl u_str rfl rfl bd rfl) ?_
 refine p1 (ok_gtr rfl rfl bd rfl rfl) ?_
 refine ml rfl rfl bd rfl ?_
 refine RV.bool (fun hb => ?_) (fun hb => False.elim (by simp at hb; exact hl0 hb))
 refine RV.step1 (OpOk.yes (ok_move (.inl rfl) rfl bd rfl) rfl rfl rfl) ?_
 refine RV.step1 (OpOk.yes (ok_idxT (i := 0) hll u_str rfl rfl bd rfl rfl) rfl rfl rfl) ?_
 refine RV.step1 (OpOk.yes (ok_eqlB (r := false) (eq45 hg) rfl rfl bd rfl rfl) rfl rfl rfl) ?_
 refine p1 (ok_pickT rfl rfl bd rfl rfl rfl) ?_
 refine mr rfl rfl bd rfl ?_
 refine RV.done (sr rfl ?_)
 refine ml rfl rfl bd rfl ?_
 refine mr rfl rfl bd rfl ?_
 refine RV.done ?_
 refine CV.seq ?_
 refine sr rfl ?_
 refine ml rfl rfl bd rfl ?_
 refine RV.done ?_
 refine CV.no rfl ?_
 refine CV.skip ?_
 refine CV.seq ?_
 refine sr rfl ?_
 refine ml rfl rfl bd rfl ?_
 refine p1 (ok_lenT rfl u_str rfl rfl bd rfl) ?_
 refine p1 (ok_eql rfl rfl bd rfl rfl) ?_
 refine ml rfl rfl bd rfl ?_
 refine RV.bool (fun hb => False.elim (by simp at hb; exact hd0 hb)) (fun hb => ?_)
 refine RV.step1 (OpOk.yes (ok_move (.inl rfl) rfl bd rfl) rfl rfl rfl) ?_
 refine RV.step1 (OpOk.yes (ok_idxT (i := 0) (List.length_pos_iff.2 hd0) u_str rfl rfl bd rfl rfl) rfl rfl rfl) ?_
 refine RV.step1 (OpOk.yes (ok_eqlB (r := false) (eq48 h48) rfl rfl bd rfl rfl) rfl rfl rfl) ?_
 refine RV.step1 (OpOk.yes (ok_move (.inl rfl) rfl bd rfl) rfl rfl rfl) ?_
 refine RV.step1 (OpOk.skip rfl rfl rfl rfl rfl bd) ?_
 refine RV.step1 (OpOk.skip rfl rfl rfl rfl rfl bd) ?_
 refine RV.step1 (OpOk.skipU rfl rfl rfl rfl bd) ?_
 refine RV.step1 (OpOk.skipU rfl rfl rfl rfl bd) ?_
 refine RV.step1 (OpOk.skipU rfl rfl rfl rfl bd) ?_
 refine RV.step1 (OpOk.skip rfl rfl rfl rfl rfl bd) ?_
 refine RV.step1 (OpOk.yes (ok_pickF rfl rfl bd rfl rfl rfl) rfl rfl rfl) ?_
 refine p1 (ok_pickF rfl rfl bd rfl rfl rfl) ?_
 refine RV.done ?_
 refine CV.no rfl ?_
 refine CV.skip ?_
 refine CV.seq ?_
 refine sr rfl ?_
 refine mr rfl rfl bd rfl ?_
 refine RV.done ?_
 refine CV.block ?_
 refine CV.loop (X := {k : Nat // k ≤ d.length ∧ (d.take k).all isD = true}) (fun k => [(.s 6, .av (.one (.v (.int .i64 (k.1 : Int))))), (.s 5, .av (.one (.v (str d)))), (.s 4, .av (.one (.v (.bool false)))), (.s 2, .av (.one (.ptr 0 0))), (.b 0, .blk 25 [(some 2, .v (.agg #[.bool false, .slice none 0 0]))])]) (fun k => d.length - k.1) ⟨0, Nat.zero_le _, by simp⟩ (Sub.mk ⟨XV.le_rfl _, XV.le_rfl _, XV.le_rfl _, XV.le_rfl _, XV.le_rfl _, trivial⟩ rfl rfl) (fun k => ?_)
 obtain ⟨k, hk, hk2⟩ := k
 simp only
 refine CV.seq ?_
 refine sr rfl ?_
 refine ml rfl rfl bd rfl ?_
 refine ml rfl rfl bd rfl ?_
 refine p1 (ok_lenT rfl u_str rfl rfl bd rfl) ?_
 refine p1 (ok_lss rfl rfl bd rfl rfl) ?_
 refine RV.done ?_
 refine CV.cond rfl (fun hc => ?_) (fun hc => ?_)
 ·refine CV.skip ?_
  refine CV.seq ?_
  refine CV.block ?_
  refine sr rfl ?_
  refine ml rfl rfl bd rfl ?_
  refine ml rfl rfl bd rfl ?_
  refine p1 (ok_idxT (i := k) (by simpa using hc) u_str rfl rfl bd rfl rfl) ?_
  refine p1 (ok_lss rfl rfl bd rfl rfl) ?_
  refine ml rfl rfl bd rfl ?_
  refine RV.bool (fun hb => ?_) (fun hb => ?_)
  ·refine RV.step1 (OpOk.skip rfl rfl rfl rfl rfl bd) ?_
   refine RV.step1 (OpOk.skip rfl rfl rfl rfl rfl bd) ?_
   refine RV.step1 (OpOk.skip rfl rfl rfl rfl rfl bd) ?_
   refine RV.step1 (OpOk.skip rfl rfl rfl rfl rfl bd) ?_
   refine p1 (ok_pickT rfl rfl bd rfl rfl rfl) ?_
   refine RV.done ?_
   refine CV.yes rfl ?_
   refine sr rfl ?_
   refine p1 (ok_buildI rfl rfl bd) ?_
   refine p1 (ok_store rfl rfl rfl rfl rfl rfl rfl (ty_int).2 rfl rfl rfl rfl) ?_
   refine mr rfl rfl bd rfl ?_
   refine RV.done ?_
   refine CV.ret ?_
   have hf : ¬ d.all isD = true := (by have hlt : k < d.length := (by simpa using hc); intro ha; have := isD_at ha hlt; have := of_decide_eq_true hb; omega)
   rw [if_neg hf, if_neg hf]
   exact fin2 rfl (.inr rfl) ⟨_, _, _, _, _, rfl, rfl, rfl, ty_int⟩ rfl (is_pair (is_lenle (by show (dig 0).length ≤ _; rw [dig_zero]; exact Nat.zero_le _)) (fun _ _ _ _ h => h))
  ·refine RV.step1 (OpOk.yes (ok_move (.inl rfl) rfl bd rfl) rfl rfl rfl) ?_
   refine RV.step1 (OpOk.yes (ok_move (.inl rfl) rfl bd rfl) rfl rfl rfl) ?_
   refine RV.step1 (OpOk.yes (ok_idxT (i := k) (by simpa using hc) u_str rfl rfl bd rfl rfl) rfl rfl rfl) ?_
   refine RV.step1 (OpOk.yes (ok_gtr rfl rfl bd rfl rfl) rfl rfl rfl) ?_
   refine p1 (ok_pickF rfl rfl bd rfl rfl rfl) ?_
   refine RV.done ?_
   refine CV.cond rfl (fun hg1 => ?_) (fun hg1 => ?_)
   ·refine sr rfl ?_
    refine p1 (ok_buildI rfl rfl bd) ?_
    refine p1 (ok_store rfl rfl rfl rfl rfl rfl rfl (ty_int).2 rfl rfl rfl rfl) ?_
    refine mr rfl rfl bd rfl ?_
    refine RV.done ?_
    refine CV.ret ?_
    have hf : ¬ d.all isD = true := (by have hlt : k < d.length := (by simpa using hc); intro ha; have := isD_at ha hlt; have := of_decide_eq_true hg1; omega)
    rw [if_neg hf, if_neg hf]
    exact fin2 rfl (.inr rfl) ⟨_, _, _, _, _, rfl, rfl, rfl, ty_int⟩ rfl (is_pair (is_lenle (by show (dig 0).length ≤ _; rw [dig_zero]; exact Nat.zero_le _)) (fun _ _ _ _ h => h))
   ·refine CV.skip ?_
    refine CV.region rfl (fun h => nomatch h) ?_
    refine ml rfl rfl bd rfl ?_
    refine p1 (ok_add (c := ((k + 1 : Nat) : Int)) (by rw [wrapI (by omega) (by omega)]; omega) rfl rfl bd rfl rfl) ?_
    refine mr rfl rfl bd rfl ?_
    refine RV.done ?_
    have hlt : k < d.length := (by simpa using hc)
    exact ⟨⟨k + 1, hlt, take_isD hlt hk2 (by simpa using hb) (by simpa using hg1)⟩, Sub.mk ⟨XV.le_rfl _, XV.le_rfl _, XV.le_rfl _, XV.le_rfl _, XV.le_rfl _, trivial⟩ rfl rfl, by show d.length - (k + 1) < d.length - k; omega⟩
 ·refine CV.exit ?_
  refine CV.seq ?_
  have hall : d.all isD = true := all_take (by simpa using hc) hk2
  rw [if_pos hall, if_pos hall]
  refine CV.region rfl (fun h => nomatch h) ?_
  refine mr rfl rfl bd rfl ?_
  refine RV.done ?_
  refine CV.seq ?_
  refine CV.seq ?_
  refine CV.nilrow 7 10 3 none rfl rfl rfl rfl ?_
  refine CV.kp [10] rfl rfl ?_
  refine CV.region rfl (fun h => nomatch h) ?_
  refine ml rfl rfl bd rfl ?_
  refine p1 (ok_lenT rfl u_str rfl rfl bd rfl) ?_
  refine mr rfl rfl bd rfl ?_
  refine RV.done ?_
  refine CV.block ?_
  refine CV.loop (X := {q : Int × List Nat // q.1 ≤ d.length ∧ -9 ≤ q.1 ∧ q.2 ++ chunks (d.take q.1.toNat) = chunks d}) (fun q => [(.s 8, .av (.one (.v (.int .i64 q.1.1)))), (.s 7, .av (.one (.sl 10 q.1.2.length))), (.b 10, .row 3 none (nuV q.1.2)), (KP, .np [10]), (.s 5, .av (.one (.v (str d)))), (.s 4, .av (.one (.v (.bool false)))), (.s 2, .av (.one (.ptr 0 0))), (.b 0, .blk 25 [(some 2, .v (.agg #[.bool false, .slice none 0 0]))])]) (fun q => q.1.1.toNat) ⟨((d.length : Int), []), Int.le_refl _, by omega, by rw [Int.toNat_natCast, List.take_length]; rfl⟩ (Sub.mk ⟨XV.le_rfl _, XV.le_rfl _, XV.le_rfl _, trivial, XV.le_rfl _, XV.le_rfl _, XV.le_rfl _, XV.le_rfl _, trivial⟩ rfl rfl rfl rfl) (fun q => ?_)
  obtain ⟨⟨e, ds⟩, hm1, hm0, hm2⟩ := q
  simp only at hm1 hm0 hm2 ⊢
  have hds : ds.length ≤ 7282 := by have := congrArg List.length hm2; rw [List.length_append] at this; omega
  refine CV.seq ?_
  refine sr rfl ?_
  refine ml rfl rfl bd rfl ?_
  refine p1 (ok_gtr rfl rfl bd rfl rfl) ?_
  refine RV.done ?_
  refine CV.cond rfl (fun hc2 => ?_) (fun hc2 => ?_)
  ·obtain ⟨m, rfl⟩ : ∃ m : Nat, e = (m : Int) := ⟨e.toNat, by have : 0 < e := (by simpa using hc2) ; omega⟩
   have hm0 : 0 < m := (by simpa using hc2)
   have hmd : m ≤ d.length := (by omega)
   rw [Int.toNat_natCast] at hm2
   refine CV.skip ?_
   refine CV.seq ?_
   refine CV.block ?_
   refine sr rfl ?_
   refine mr rfl rfl bd rfl ?_
   refine RV.done ?_
   refine CV.seq ?_
   refine sr rfl ?_
   refine ml rfl rfl bd rfl ?_
   refine p1 (ok_sub (c := (m : Int) - 9) (by rw [wrapI (by omega) (by omega)]) rfl rfl bd rfl rfl) ?_
   refine p1 (ok_maxI (c := ((m - 9 : Nat) : Int)) (by split <;> omega) rfl rfl bd rfl rfl) ?_
   refine mr rfl rfl bd rfl ?_
   refine RV.done ?_
   refine CV.block ?_
   refine CV.loop (X := {i : Nat // m - 9 ≤ i ∧ i ≤ m}) (fun i => [(.s 10, .av (.one (.v (.int .i64 (i.1 : Int))))), (.s 9, .av (.one (.v (.int .i64 ((valD ((d.take i.1).drop (m - 9)) : Nat) : Int))))), (.s 8, .av (.one (.v (.int .i64 (m : Int))))), (.s 7, .av (.one (.sl 10 ds.length))), (.b 10, .row 3 none (nuV ds)), (KP, .np [10]), (.s 5, .av (.one (.v (str d)))), (.s 4, .av (.one (.v (.bool false)))), (.s 2, .av (.one (.ptr 0 0))), (.b 0, .blk 25 [(some 2, .v (.agg #[.bool false, .slice none 0 0]))])]) (fun i => m - i.1) ⟨m - 9, Nat.le_refl _, by omega⟩ (Sub.mk ⟨XV.le_rfl _, XV.le_of (by rw [List.drop_eq_nil_of_le (by show (d.take (m - 9)).length ≤ m - 9; rw [List.length_take]; omega)]; rfl), XV.le_rfl _, XV.le_rfl _, XV.le_rfl _, trivial, XV.le_rfl _, XV.le_rfl _, XV.le_rfl _, XV.le_rfl _, trivial⟩ rfl rfl rfl rfl) (fun i => ?_)
   obtain ⟨i, hi1, hi2⟩ := i
   simp only
   have hv9 := valD9 hall (a := m - 9) (i := i) (by omega)
   refine CV.seq ?_
   refine sr rfl ?_
   refine ml rfl rfl bd rfl ?_
   refine ml rfl rfl bd rfl ?_
   refine p1 (ok_lss rfl rfl bd rfl rfl) ?_
   refine RV.done ?_
   refine CV.cond rfl (fun hc3 => ?_) (fun hc3 => ?_)
   ·refine CV.skip ?_
    refine CV.seq ?_
    refine CV.block ?_
    refine CV.region rfl (fun h => nomatch h) ?_
    refine ml rfl rfl bd rfl ?_
    refine p1 (ok_mul (c := ((10 * valD ((d.take i).drop (m - 9)) : Nat) : Int)) (by rw [wrapI (by omega) (by omega)]; omega) rfl rfl bd rfl rfl) ?_
    refine ml rfl rfl bd rfl ?_
    refine ml rfl rfl bd rfl ?_
    refine p1 (ok_idxT (i := i) (by have : i < m := (by simpa using hc3); omega) u_str rfl rfl bd rfl rfl) ?_
    refine p1 (ok_sub (c := (((d.getD i 0).toNat - 48 : Nat) : Int)) (by have := isD_at hall (i := i) (by have : i < m := (by simpa using hc3); omega); rw [wrap8 (by omega) (by omega)]; omega) rfl rfl bd rfl rfl) ?_
    refine p1 (ok_cvi (z' := (((d.getD i 0).toNat - 48 : Nat) : Int)) (by have := (d.getD i 0).toNat_lt; rw [wrapI (by omega) (by omega)]) u_u8 u_int rfl rfl bd rfl) ?_
    refine p1 (ok_add (c := ((valD ((d.take (i + 1)).drop (m - 9)) : Nat) : Int)) (by have hlt : i < m := (by simpa using hc3); have := isD_at hall (i := i) (by omega); rw [valD_step hi1 (by omega), wrapI (by omega) (by omega)]; omega) rfl rfl bd rfl rfl) ?_
    refine mr rfl rfl bd rfl ?_
    refine RV.done ?_
    refine CV.region rfl (fun h => nomatch h) ?_
    refine ml rfl rfl bd rfl ?_
    refine p1 (ok_add (c := ((i + 1 : Nat) : Int)) (by rw [wrapI (by omega) (by omega)]; omega) rfl rfl bd rfl rfl) ?_
    refine mr rfl rfl bd rfl ?_
    refine RV.done ?_
    have hlt : i < m := (by simpa using hc3)
    exact ⟨⟨i + 1, by omega, hlt⟩, Sub.mk ⟨XV.le_rfl _, XV.le_rfl _, XV.le_rfl _, XV.le_rfl _, XV.le_rfl _, trivial, XV.le_rfl _, XV.le_rfl _, XV.le_rfl _, XV.le_rfl _, trivial⟩ rfl rfl rfl rfl, by show m - (i + 1) < m - i; omega⟩
   ·refine CV.exit ?_
    refine CV.region rfl (fun h => nomatch h) ?_
    refine ml rfl rfl bd rfl ?_
    refine ml rfl rfl bd rfl ?_
    refine p1 (ok_litD (G := Dm.gen (lstG none [_])) (lstG_Lst none _) u_ints zs_i64 rfl rfl rfl (by intro s hs; obtain rfl := List.mem_singleton.1 hs; rfl) rfl rfl rfl bd (.cons rfl Conv.any .nil)) ?_
    refine RV.step4 (OpOk.plain (ok_appendN (r := 10) (r' := 11) (k := none) (lst_elems (by decide) rfl) (by rw [nuV_length]; simp; omega) (by rw [nuV_length]; simp; omega) u_ints inf_i64 rfl rfl (nuV_length _).symm rfl rfl bd rfl rfl rfl rfl rfl rfl rfl) rfl) ?_
    refine mr rfl rfl bd rfl ?_
    refine RV.done ?_
    refine CV.region rfl (fun h => nomatch h) ?_
    refine ml rfl rfl bd rfl ?_
    refine p1 (ok_sub (c := (m : Int) - 9) (by rw [wrapI (by omega) (by omega)]) rfl rfl bd rfl rfl) ?_
    refine mr rfl rfl bd rfl ?_
    refine RV.done ?_
    have hi : i = m := (by have : ¬ i < m := (by simpa using hc3); omega)
    subst hi
    have hml : (d.take i).length = i := by rw [List.length_take]; omega
    have hstep : chunks (d.take i) = valD ((d.take i).drop (i - 9)) :: chunks (d.take (i - 9)) := by rw [chunks_cons (fun e => by rw [e] at hml; simp at hml; omega), hml, List.take_take, Nat.min_eq_left (by omega)]
    exact ⟨⟨((i : Int) - 9, ds ++ [valD ((d.take i).drop (i - 9))]), by show (i : Int) - 9 ≤ d.length; omega, by show -9 ≤ (i : Int) - 9; omega, by show (ds ++ [_]) ++ chunks (d.take ((i : Int) - 9).toNat) = _; rw [show ((i : Int) - 9).toNat = i - 9 by omega, List.append_assoc, ← hm2, hstep]; rfl⟩, Sub.mkr (fun i => if i = 10 then 11 else i) ⟨XV.le_same, XV.le_sl rfl (by simp [nuV_length]), XV.le_row (nuV_snoc ds _), trivial, XV.le_same, XV.le_same, fun _ _ _ _ h => h, ⟨rfl, fun _ _ _ _ h => h⟩, trivial⟩ rfl rfl rfl rfl, by show ((i : Int) - 9).toNat < ((i : Int)).toNat; omega⟩
  ·refine CV.exit ?_
   refine CV.seq ?_
   have he0 : e.toNat = 0 := by have : ¬ 0 < e := (by simpa using hc2); omega
   rw [he0, List.take_zero, chunks_nil, List.append_nil] at hm2
   refine CV.freeze (r := 10) (t := 7) (G := Dm.dl ds) (cx.bw hfr) rfl rfl (nuV_length ds).symm rfl rfl (nuV_Lst ds) (nuV_Lst0 ds) ?_
   refine CV.kp [] rfl rfl ?_
   refine CV.region rfl (fun h => nomatch h) ?_
   refine ml rfl rfl bd rfl ?_
   refine ml rfl rfl bd rfl ?_
   refine p1 (ok_call (rnormal_con _ _ 7300 (by rw [hm2]; exact chunks_Dig 7282 d (by omega) hall) (Nat.le_trans (len_mk _ _ (by rw [hm2]; exact chunks_Dig 7282 d (by omega) hall)) (by omega))) rfl rfl bd Tryz.func78 rfl rfl (.cons rfl Conv.any (.cons rfl Conv.any .nil)) rfl hfr rfl) ?_
   refine p1 (ok_store rfl rfl rfl rfl rfl rfl rfl (ty_int).2 rfl rfl rfl rfl) ?_
   refine mr rfl rfl bd rfl ?_
   refine RV.done ?_
   refine CV.ret ?_
   exact fin2 rfl (.inr rfl) ⟨_, _, _, _, _, rfl, rfl, rfl, ty_int⟩ rfl (is_pair (is_int' (by rw [hm2, chunks_val 7282 d (by omega)]) (Nat.le_refl _)) (fun _ _ _ _ h => h))
theorem rParseMPZ_con (h : ¬ 65536 < l.length) (hl0 : l ≠ []) (hg : false = (l.getD 0 0 == 45)) (hd : d = l) (hd0 : d ≠ []) (h48 : true = (d.getD 0 0 == 48)) (h1 : d.length = 1) : Con (D := Dm) Tryz.prog 21 [.v (str l)] (.tup [.d (Dm.int (if d.all isD = true then mk false (valD d) else 0) 7300), .v (.int .i64 (if d.all isD = true then 0 else 2))]) := by
 subst hd
 have hdl : d.length ≤ 65536 := by omega
 have hcl := chunks_len 7282 d (by omega)
 have hll : 0 < d.length := List.length_pos_iff.2 hl0
 refine Con.of (n := 90) Tryz.func21 rfl rfl rfl rfl rfl fun cx hfr => ?_
 refine sr rfl ?_
 refine p2 (ok_alloc (i := 0) rfl rfl bd zero_int rfl rfl rfl rfl) ?_
 refine mr rfl rfl bd rfl ?_
 refine RV.done ?_
 refine CV.seq ?_
 refine sr rfl ?_
 refine ml rfl rfl bd rfl ?_
 refine p1 (ok_lenT rfl u_str rfl rfl bd rfl) ?_
 refine p1 (ok_gtr rfl rfl bd rfl rfl) ?_
 refine RV.done ?_
 refine CV.cond rfl (fun hc => False.elim (by simp at hc; omega)) (fun hc => ?_)
 refine CV.skip ?_
 refine sr rfl ?_
 refine ml rfl rfl bd rfl ?_
 refine p1 (ok_lenT rfl u_str rfl rfl bd rfl) ?_
 refine p1 (ok_gtr rfl rfl bd rfl rfl) ?_
 refine ml rfl rfl bd rfl ?_
 refine RV.bool (fun hb => ?_) (fun hb => False.elim (by simp at hb; exact hl0 hb))
 refine RV.step1 (OpOk.yes (ok_move (.inl rfl) rfl bd rfl) rfl rfl rfl) ?_
 refine RV.step1 (OpOk.yes (ok_idxT (i := 0) hll u_str rfl rfl bd rfl rfl) rfl rfl rfl) ?_
 refine RV.step1 (OpOk.yes (ok_eqlB (r := false) (eq45 hg) rfl rfl bd rfl rfl) rfl rfl rfl) ?_
 refine p1 (ok_pickT rfl rfl bd rfl rfl rfl) ?_
 refine mr rfl rfl bd rfl ?_
 refine RV.done (sr rfl ?_)
 refine ml rfl rfl bd rfl ?_
 refine mr rfl rfl bd rfl ?_
 refine RV.done ?_
 refine CV.seq ?_
 refine sr rfl ?_
 refine ml rfl rfl bd rfl ?_
 refine RV.done ?_
 refine CV.no rfl ?_
 refine CV.skip ?_
 refine CV.seq ?_
 refine sr rfl ?_
 refine ml rfl rfl bd rfl ?_
 refine p1 (ok_lenT rfl u_str rfl rfl bd rfl) ?_
 refine p1 (ok_eql rfl rfl bd rfl rfl) ?_
 refine ml rfl rfl bd rfl ?_
 refine RV.bool (fun hb => False.elim (by simp at hb; exact hd0 hb)) (fun hb => ?_)
 refine RV.step1 (OpOk.yes (ok_move (.inl rfl) rfl bd rfl) rfl rfl rfl) ?_
 refine RV.step1 (OpOk.yes (ok_idxT (i := 0) (List.length_pos_iff.2 hd0) u_str rfl rfl bd rfl rfl) rfl rfl rfl) ?_
 refine RV.step1 (OpOk.yes (ok_eqlB (r := true) (eq48 h48) rfl rfl bd rfl rfl) rfl rfl rfl) ?_
 refine RV.step1 (OpOk.yes (ok_move (.inl rfl) rfl bd rfl) rfl rfl rfl) ?_
 refine RV.step1 (OpOk.yes (ok_move (.inl rfl) rfl bd rfl) rfl rfl rfl) ?_
 refine RV.step1 (OpOk.yes (ok_move (.inl rfl) rfl bd rfl) rfl rfl rfl) ?_
 refine RV.step1 (OpOk.yes (ok_move (.inl rfl) rfl bd rfl) rfl rfl rfl) ?_
 refine RV.step1 (OpOk.yes (ok_lenT rfl u_str rfl rfl bd rfl) rfl rfl rfl) ?_
 refine RV.step1 (OpOk.yes (ok_gtr rfl rfl bd rfl rfl) rfl rfl rfl) ?_
 refine RV.step1 (OpOk.yes (ok_pickF rfl rfl bd rfl rfl rfl) rfl rfl rfl) ?_
 refine RV.step1 (OpOk.yes (ok_pickT rfl rfl bd rfl rfl rfl) rfl rfl rfl) ?_
 refine p1 (ok_pickF rfl rfl bd rfl rfl rfl) ?_
 refine RV.done ?_
 refine CV.cond rfl (fun hc => False.elim (by simp at hc; omega)) (fun hc => ?_)
 refine CV.skip ?_
 refine CV.seq ?_
 refine sr rfl ?_
 refine mr rfl rfl bd rfl ?_
 refine RV.done ?_
 refine CV.block ?_
 refine CV.loop (X := {k : Nat // k ≤ d.length ∧ (d.take k).all isD = true}) (fun k => [(.s 6, .av (.one (.v (.int .i64 (k.1 : Int))))), (.s 5, .av (.one (.v (str d)))), (.s 4, .av (.one (.v (.bool false)))), (.s 2, .av (.one (.ptr 0 0))), (.b 0, .blk 25 [(some 2, .v (.agg #[.bool false, .slice none 0 0]))])]) (fun k => d.length - k.1) ⟨0, Nat.zero_le _, by simp⟩ (Sub.mk ⟨XV.le_rfl _, XV.le_rfl _, XV.le_rfl _, XV.le_rfl _, XV.le_rfl _, trivial⟩ rfl rfl) (fun k => ?_)
 obtain ⟨k, hk, hk2⟩ := k
 simp only
 refine CV.seq ?_
 refine sr rfl ?_
 refine ml rfl rfl bd rfl ?_
 refine ml rfl rfl bd rfl ?_
 refine p1 (ok_lenT rfl u_str rfl rfl bd rfl) ?_
 refine p1 (ok_lss rfl rfl bd rfl rfl) ?_
 refine RV.done ?_
 refine CV.cond rfl (fun hc => ?_) (fun hc => ?_)
 ·refine CV.skip ?_
  refine CV.seq ?_
  refine CV.block ?_
  refine sr rfl ?_
  refine ml rfl rfl bd rfl ?_
  refine ml rfl rfl bd rfl ?_
  refine p1 (ok_idxT (i := k) (by simpa using hc) u_str rfl rfl bd rfl rfl) ?_
  refine p1 (ok_lss rfl rfl bd rfl rfl) ?_
  refine ml rfl rfl bd rfl ?_
  refine RV.bool (fun hb => ?_) (fun hb => ?_)
  ·refine RV.step1 (OpOk.skip rfl rfl rfl rfl rfl bd) ?_
   refine RV.step1 (OpOk.skip rfl rfl rfl rfl rfl bd) ?_
   refine RV.step1 (OpOk.skip rfl rfl rfl rfl rfl bd) ?_
   refine RV.step1 (OpOk.skip rfl rfl rfl rfl rfl bd) ?_
   refine p1 (ok_pickT rfl rfl bd rfl rfl rfl) ?_
   refine RV.done ?_
   refine CV.yes rfl ?_
   refine sr rfl ?_
   refine p1 (ok_buildI rfl rfl bd) ?_
   refine p1 (ok_store rfl rfl rfl rfl rfl rfl rfl (ty_int).2 rfl rfl rfl rfl) ?_
   refine mr rfl rfl bd rfl ?_
   refine RV.done ?_
   refine CV.ret ?_
   have hf : ¬ d.all isD = true := (by have hlt : k < d.length := (by simpa using hc); intro ha; have := isD_at ha hlt; have := of_decide_eq_true hb; omega)
   rw [if_neg hf, if_neg hf]
   exact fin2 rfl (.inr rfl) ⟨_, _, _, _, _, rfl, rfl, rfl, ty_int⟩ rfl (is_pair (is_lenle (by show (dig 0).length ≤ _; rw [dig_zero]; exact Nat.zero_le _)) (fun _ _ _ _ h => h))
  ·refine RV.step1 (OpOk.yes (ok_move (.inl rfl) rfl bd rfl) rfl rfl rfl) ?_
   refine RV.step1 (OpOk.yes (ok_move (.inl rfl) rfl bd rfl) rfl rfl rfl) ?_
   refine RV.step1 (OpOk.yes (ok_idxT (i := k) (by simpa using hc) u_str rfl rfl bd rfl rfl) rfl rfl rfl) ?_
   refine RV.step1 (OpOk.yes (ok_gtr rfl rfl bd rfl rfl) rfl rfl rfl) ?_
   refine p1 (ok_pickF rfl rfl bd rfl rfl rfl) ?_
   refine RV.done ?_
   refine CV.cond rfl (fun hg1 => ?_) (fun hg1 => ?_)
   ·refine sr rfl ?_
    refine p1 (ok_buildI rfl rfl bd) ?_
    refine p1 (ok_store rfl rfl rfl rfl rfl rfl rfl (ty_int).2 rfl rfl rfl rfl) ?_
    refine mr rfl rfl bd rfl ?_
    refine RV.done ?_
    refine CV.ret ?_
    have hf : ¬ d.all isD = true := (by have hlt : k < d.length := (by simpa using hc); intro ha; have := isD_at ha hlt; have := of_decide_eq_true hg1; omega)
    rw [if_neg hf, if_neg hf]
    exact fin2 rfl (.inr rfl) ⟨_, _, _, _, _, rfl, rfl, rfl, ty_int⟩ rfl (is_pair (is_lenle (by show (dig 0).length ≤ _; rw [dig_zero]; exact Nat.zero_le _)) (fun _ _ _ _ h => h))
   ·refine CV.skip ?_
    refine CV.region rfl (fun h => nomatch h) ?_
    refine ml rfl rfl bd rfl ?_
    refine p1 (ok_add (c := ((k + 1 : Nat) : Int)) (by rw [wrapI (by omega) (by omega)]; omega) rfl rfl bd rfl rfl) ?_
    refine mr rfl rfl bd rfl ?_
    refine RV.done ?_
    have hlt : k < d.length := (by simpa using hc)
    exact ⟨⟨k + 1, hlt, take_isD hlt hk2 (by simpa using hb) (by simpa using hg1)⟩, Sub.mk ⟨XV.le_rfl _, XV.le_rfl _, XV.le_rfl _, XV.le_rfl _, XV.le_rfl _, trivial⟩ rfl rfl, by show d.length - (k + 1) < d.length - k; omega⟩
 ·refine CV.exit ?_
  refine CV.seq ?_
  have hall : d.all isD = true := all_take (by simpa using hc) hk2
  rw [if_pos hall, if_pos hall]
  refine CV.region rfl (fun h => nomatch h) ?_
  refine mr rfl rfl bd rfl ?_
  refine RV.done ?_
  refine CV.seq ?_
  refine CV.seq ?_
  refine CV.nilrow 7 10 3 none rfl rfl rfl rfl ?_
  refine CV.kp [10] rfl rfl ?_
  refine CV.region rfl (fun h => nomatch h) ?_
  refine ml rfl rfl bd rfl ?_
  refine p1 (ok_lenT rfl u_str rfl rfl bd rfl) ?_
  refine mr rfl rfl bd rfl ?_
  refine RV.done ?_
  refine CV.block ?_
  refine CV.loop (X := {q : Int × List Nat // q.1 ≤ d.length ∧ -9 ≤ q.1 ∧ q.2 ++ chunks (d.take q.1.toNat) = chunks d}) (fun q => [(.s 8, .av (.one (.v (.int .i64 q.1.1)))), (.s 7, .av (.one (.sl 10 q.1.2.length))), (.b 10, .row 3 none (nuV q.1.2)), (KP, .np [10]), (.s 5, .av (.one (.v (str d)))), (.s 4, .av (.one (.v (.bool false)))), (.s 2, .av (.one (.ptr 0 0))), (.b 0, .blk 25 [(some 2, .v (.agg #[.bool false, .slice none 0 0]))])]) (fun q => q.1.1.toNat) ⟨((d.length : Int), []), Int.le_refl _, by omega, by rw [Int.toNat_natCast, List.take_length]; rfl⟩ (Sub.mk ⟨XV.le_rfl _, XV.le_rfl _, XV.le_rfl _, trivial, XV.le_rfl _, XV.le_rfl _, XV.le_rfl _, XV.le_rfl _, trivial⟩ rfl rfl rfl rfl) (fun q => ?_)
  obtain ⟨⟨e, ds⟩, hm1, hm0, hm2⟩ := q
  simp only at hm1 hm0 hm2 ⊢
  have hds : ds.length ≤ 7282 := by have := congrArg List.length hm2; rw [List.length_append] at this; omega
  refine CV.seq ?_
  refine sr rfl ?_
  refine ml rfl rfl bd rfl ?_
  refine p1 (ok_gtr rfl rfl bd rfl rfl) ?_
  refine RV.done ?_
  refine CV.cond rfl (fun hc2 => ?_) (fun hc2 => ?_)
  ·obtain ⟨m, rfl⟩ : ∃ m : Nat, e = (m : Int) := ⟨e.toNat, by have : 0 < e := (by simpa using hc2) ; omega⟩
   have hm0 : 0 < m := (by simpa using hc2)
   have hmd : m ≤ d.length := (by omega)
   rw [Int.toNat_natCast] at hm2
   refine CV.skip ?_
   refine CV.seq ?_
   refine CV.block ?_
   refine sr rfl ?_
   refine mr rfl rfl bd rfl ?_
   refine RV.done ?_
   refine CV.seq ?_
   refine sr rfl ?_
   refine ml rfl rfl bd rfl ?_
   refine p1 (ok_sub (c := (m : Int) - 9) (by rw [wrapI (by omega) (by omega)]) rfl rfl bd rfl rfl) ?_
   refine p1 (ok_maxI (c := ((m - 9 : Nat) : Int)) (by split <;> omega) rfl rfl bd rfl rfl) ?_
   refine mr rfl rfl bd rfl ?_
   refine RV.done ?_
   refine CV.block ?_
   refine CV.loop (X := {i : Nat // m - 9 ≤ i ∧ i ≤ m}) (fun i => [(.s 10, .av (.one (.v (.int .i64 (i.1 : Int))))), (.s 9, .av (.one (.v (.int .i64 ((valD ((d.take i.1).drop (m - 9)) : Nat) : Int))))), (.s 8, .av (.one (.v (.int .i64 (m : Int))))), (.s 7, .av (.one (.sl 10 ds.length))), (.b 10, .row 3 none (nuV ds)), (KP, .np [10]), (.s 5, .av (.one (.v (str d)))), (.s 4, .av (.one (.v (.bool false)))), (.s 2, .av (.one (.ptr 0 0))), (.b 0, .blk 25 [(some 2, .v (.agg #[.bool false, .slice none 0 0]))])]) (fun i => m - i.1) ⟨m - 9, Nat.le_refl _, by omega⟩ (Sub.mk ⟨XV.le_rfl _, XV.le_of (by rw [List.drop_eq_nil_of_le (by show (d.take (m - 9)).length ≤ m - 9; rw [List.length_take]; omega)]; rfl), XV.le_rfl _, XV.le_rfl _, XV.le_rfl _, trivial, XV.le_rfl _, XV.le_rfl _, XV.le_rfl _, XV.le_rfl _, trivial⟩ rfl rfl rfl rfl) (fun i => ?_)
   obtain ⟨i, hi1, hi2⟩ := i
   simp only
   have hv9 := valD9 hall (a := m - 9) (i := i) (by omega)
   refine CV.seq ?_
   refine sr rfl ?_
   refine ml rfl rfl bd rfl ?_
   refine ml rfl rfl bd rfl ?_
   refine p1 (ok_lss rfl rfl bd rfl rfl) ?_
   refine RV.done ?_
   refine CV.cond rfl (fun hc3 => ?_) (fun hc3 => ?_)
   ·refine CV.skip ?_
    refine CV.seq ?_
    refine CV.block ?_
    refine CV.region rfl (fun h => nomatch h) ?_
    refine ml rfl rfl bd rfl ?_
    refine p1 (ok_mul (c := ((10 * valD ((d.take i).drop (m - 9)) : Nat) : Int)) (by rw [wrapI (by omega) (by omega)]; omega) rfl rfl bd rfl rfl) ?_
    refine ml rfl rfl bd rfl ?_
    refine ml rfl rfl bd rfl ?_
    refine p1 (ok_idxT (i := i) (by have : i < m := (by simpa using hc3); omega) u_str rfl rfl bd rfl rfl) ?_
    refine p1 (ok_sub (c := (((d.getD i 0).toNat - 48 : Nat) : Int)) (by have := isD_at hall (i := i) (by have : i < m := (by simpa using hc3); omega); rw [wrap8 (by omega) (by omega)]; omega) rfl rfl bd rfl rfl) ?_
    refine p1 (ok_cvi (z' := (((d.getD i 0).toNat - 48 : Nat) : Int)) (by have := (d.getD i 0).toNat_lt; rw [wrapI (by omega) (by omega)]) u_u8 u_int rfl rfl bd rfl) ?_
    refine p1 (ok_add (c := ((valD ((d.take (i + 1)).drop (m - 9)) : Nat) : Int)) (by have hlt : i < m := (by simpa using hc3); have := isD_at hall (i := i) (by omega); rw [valD_step hi1 (by omega), wrapI (by omega) (by omega)]; omega) rfl rfl bd rfl rfl) ?_
    refine mr rfl rfl bd rfl ?_
    refine RV.done ?_
    refine CV.region rfl (fun h => nomatch h) ?_
    refine ml rfl rfl bd rfl ?_
    refine p1 (ok_add (c := ((i + 1 : Nat) : Int)) (by rw [wrapI (by omega) (by omega)]; omega) rfl rfl bd rfl rfl) ?_
    refine mr rfl rfl bd rfl ?_
    refine RV.done ?_
    have hlt : i < m := (by simpa using hc3)
    exact ⟨⟨i + 1, by omega, hlt⟩, Sub.mk ⟨XV.le_rfl _, XV.le_rfl _, XV.le_rfl _, XV.le_rfl _, XV.le_rfl _, trivial, XV.le_rfl _, XV.le_rfl _, XV.le_rfl _, XV.le_rfl _, trivial⟩ rfl rfl rfl rfl, by show m - (i + 1) < m - i; omega⟩
   ·refine CV.exit ?_
    refine CV.region rfl (fun h => nomatch h) ?_
    refine ml rfl rfl bd rfl ?_
    refine ml rfl rfl bd rfl ?_
    refine p1 (ok_litD (G := Dm.gen (lstG none [_])) (lstG_Lst none _) u_ints zs_i64 rfl rfl rfl (by intro s hs; obtain rfl := List.mem_singleton.1 hs; rfl) rfl rfl rfl bd (.cons rfl Conv.any .nil)) ?_
    refine RV.step4 (OpOk.plain (ok_appendN (r := 10) (r' := 11) (k := none) (lst_elems (by decide) rfl) (by rw [nuV_length]; simp; omega) (by rw [nuV_length]; simp; omega) u_ints inf_i64 rfl rfl (nuV_length _).symm rfl rfl bd rfl rfl rfl rfl rfl rfl rfl) rfl) ?_
    refine mr rfl rfl bd rfl ?_
    refine RV.done ?_
    refine CV.region rfl (fun h => nomatch h) ?_
    refine ml rfl rfl bd rfl ?_
    refine p1 (ok_sub (c := (m : Int) - 9) (by rw [wrapI (by omega) (by omega)]) rfl rfl bd rfl rfl) ?_
    refine mr rfl rfl bd rfl ?_
    refine RV.done ?_
    have hi : i = m := (by have : ¬ i < m := (by simpa using hc3); omega)
    subst hi
    have hml : (d.take i).length = i := by rw [List.length_take]; omega
    have hstep : chunks (d.take i) = valD ((d.take i).drop (i - 9)) :: chunks (d.take (i - 9)) := by rw [chunks_cons (fun e => by rw [e] at hml; simp at hml; omega), hml, List.take_take, Nat.min_eq_left (by omega)]
    exact ⟨⟨((i : Int) - 9, ds ++ [valD ((d.take i).drop (i - 9))]), by show (i : Int) - 9 ≤ d.length; omega, by show -9 ≤ (i : Int) - 9; omega, by show (ds ++ [_]) ++ chunks (d.take ((i : Int) - 9).toNat) = _; rw [show ((i : Int) - 9).toNat = i - 9 by omega, List.append_assoc, ← hm2, hstep]; rfl⟩, Sub.mkr (fun i => if i = 10 then 11 else i) ⟨XV.le_same, XV.le_sl rfl (by simp [nuV_length]), XV.le_row (nuV_snoc ds _), trivial, XV.le_same, XV.le_same, fun _ _ _ _ h => h, ⟨rfl, fun _ _ _ _ h => h⟩, trivial⟩ rfl rfl rfl rfl, by show ((i : Int) - 9).toNat < ((i : Int)).toNat; omega⟩
  ·refine CV.exit ?_
   refine CV.seq ?_
   have he0 : e.toNat = 0 := by have : ¬ 0 < e := (by simpa using hc2); omega
   rw [he0, List.take_zero, chunks_nil, List.append_nil] at hm2
   refine CV.freeze (r := 10) (t := 7) (G := Dm.dl ds) (cx.bw hfr) rfl rfl (nuV_length ds).symm rfl rfl (nuV_Lst ds) (nuV_Lst0 ds) ?_
   refine CV.kp [] rfl rfl ?_
   refine CV.region rfl (fun h => nomatch h) ?_
   refine ml rfl rfl bd rfl ?_
   refine ml rfl rfl bd rfl ?_
   refine p1 (ok_call (rnormal_con _ _ 7300 (by rw [hm2]; exact chunks_Dig 7282 d (by omega) hall) (Nat.le_trans (len_mk _ _ (by rw [hm2]; exact chunks_Dig 7282 d (by omega) hall)) (by omega))) rfl rfl bd Tryz.func78 rfl rfl (.cons rfl Conv.any (.cons rfl Conv.any .nil)) rfl hfr rfl) ?_
   refine p1 (ok_store rfl rfl rfl rfl rfl rfl rfl (ty_int).2 rfl rfl rfl rfl) ?_
   refine mr rfl rfl bd rfl ?_
   refine RV.done ?_
   refine CV.ret ?_
   exact fin2 rfl (.inr rfl) ⟨_, _, _, _, _, rfl, rfl, rfl, ty_int⟩ rfl (is_pair (is_int' (by rw [hm2, chunks_val 7282 d (by omega)]) (Nat.le_refl _)) (fun _ _ _ _ h => h))
end
theorem rParse_con (l : List UInt8) : Con (D := Dm) Tryz.prog 21 [.v (str l)] (.tup [.d (Dm.int (parseI l).1 7300), .v (.int .i64 (parseI l).2)]) := by
 unfold parseI
 by_cases h : 65536 < l.length
 ·rw [if_pos h]; exact rParseLimit_con l h
 ·rw [if_neg h]
  by_cases hl0 : l = []
  ·subst hl0; exact rParseNil_con
  ·generalize hd : (if l.getD 0 0 == 45 then l.drop 1 else l) = d
   generalize hg : (l.getD 0 0 == 45) = ng at *
   by_cases hd0 : d = []
   ·cases ng with
    | false => exact absurd (hd.trans hd0) hl0
    | true =>
     have hb : (!numB d || (true && d == [48])) = true := by rw [hd0]; decide
     rw [if_pos hb]
     exact rParseEN_con l d h hl0 hg.symm hd.symm hd0
   ·generalize h48 : (d.getD 0 0 == 48) = z
    have hne : (d != []) = true := bne_iff_ne.2 hd0
    have hnB : numB d = (d.all isD && (d == [48] || !z)) := by
     unfold numB
     rw [hne, Bool.true_and]
     congr 2
     rw [← h48]
     rfl
    cases ng with
    | true =>
     cases z with
     | true =>
      have hb : (!numB d || (true && d == [48])) = true := by
       rw [hnB]
       cases d.all isD <;> cases (d == [48]) <;> rfl
      rw [if_pos hb]
      exact rParseZN_con l d h hl0 hg.symm hd.symm hd0 h48.symm
     | false =>
      have hn48 : (d == [48]) = false := beq_eq_false_iff_ne.2 (by rintro rfl; cases h48)
      have hM := rParseMN_con l d h hl0 hg.symm hd.symm hd0 h48.symm
      rw [hnB, hn48]
      cases ha : d.all isD with
      | true => rw [ha, if_pos rfl, if_pos rfl] at hM; rw [if_neg (by decide)]; exact hM
      | false => rw [ha, if_neg (by decide), if_neg (by decide)] at hM; rw [if_pos (by decide)]; exact hM
    | false =>
     cases z with
     | true =>
      by_cases h1 : d.length = 1
      ·have hM := rParseMPZ_con l d h hl0 hg.symm hd.symm hd0 h48.symm h1
       have e : d = [48] := by
        match d, h1, h48 with
        | [b], _, h48 => rw [show b = 48 from by simpa using h48]
       subst e
       rw [if_neg (by decide)]
       rw [if_pos (by decide), if_pos (by decide)] at hM
       exact hM
      ·have hl1 : 1 < d.length := by have := List.length_pos_iff.2 hd0; omega
       have hn48 : (d == [48]) = false := beq_eq_false_iff_ne.2 (by rintro rfl; simp at hl1)
       have hb : (!numB d || (false && d == [48])) = true := by
        rw [hnB, hn48]
        cases d.all isD <;> rfl
       rw [if_pos hb]
       exact rParseZP_con l d h hl0 hg.symm hd.symm hd0 h48.symm hl1
     | false =>
      have hn48 : (d == [48]) = false := beq_eq_false_iff_ne.2 (by rintro rfl; cases h48)
      have hM := rParseMP_con l d h hl0 hg.symm hd.symm hd0 h48.symm
      rw [hnB, hn48]
      cases ha : d.all isD with
      | true => rw [ha, if_pos rfl, if_pos rfl] at hM; rw [if_neg (by decide)]; exact hM
      | false => rw [ha, if_neg (by decide), if_neg (by decide)] at hM; rw [if_pos (by decide)]; exact hM
end Vc
end Go.Proofs.YtpgiebimhnhbiaaGreatDoor
