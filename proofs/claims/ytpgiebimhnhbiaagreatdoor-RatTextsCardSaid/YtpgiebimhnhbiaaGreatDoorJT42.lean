/-
  numeral and Parse of package integer, for any text.
  Parse of package integer, for any text; Text.
  Text of package integer; strings.Cut at one byte; Parse and Text of package rat.
  Rows of numbers as data; functions that return a new row; Encode of package integer and of the references; equal bytes.
  Layer 5's examples hold.
  Towards RatRounds: numbers at any place, Whole, Floor, Ceil, sums of products.
  RatRounds: Dot of both sides, and the law.
  RatMakes: numbers of any digits, Valid of both sides, and the law.
  Plain: the fraction of least numerator and denominator between two others.
  Between of both sides, in general.
-/
import Derived.Test.YtpgiebimhnhbiaaGreatDoorJT12
import Derived.Test.YtpgiebimhnhbiaaGreatDoorJT41
import Derived.Test.YtpgiebimhnhbiaaGreatDoorJT14
import Derived.Test.YtpgiebimhnhbiaaGreatDoorJT40
import Derived.Test.YtpgiebimhnhbiaaGreatDoorJT13
import Derived.Test.YtpgiebimhnhbiaaGreatDoorJT28
set_option linter.unusedVariables false
set_option linter.unusedSimpArgs false
set_option linter.unusedSectionVars false
namespace Go.Proofs.YtpgiebimhnhbiaaGreatDoor
open Go.RowKit
open Go.Lib (hid)
open Dg Zn Tx
namespace Vc
set_option maxRecDepth 100000

theorem isD_false {b : UInt8} (h : ((b.toNat : Int) < 48) ∨ (57 < (b.toNat : Int))) : isD b = false := by
 unfold isD
 rw [Bool.and_eq_false_iff, decide_eq_false_iff_not, decide_eq_false_iff_not]
 omega
theorem numB_bad {l : List UInt8} {k : Nat} (hk : k < l.length) (h : isD (l.getD k 0) = false) : numB l = false := by
 unfold numB
 rw [Bool.and_eq_false_iff]
 left
 rw [List.all_eq_false]
 exact ⟨l[k], List.getElem_mem hk, by rw [List.getD_eq_getElem?_getD, List.getElem?_eq_getElem hk] at h; simpa using h⟩
theorem take_isD {l : List UInt8} {k : Nat} (hk : k < l.length) (h : (l.take k).all isD = true) (h1 : ¬ ((l.getD k 0).toNat : Int) < 48) (h2 : ¬ (57 < ((l.getD k 0).toNat : Int))) : (l.take (k + 1)).all isD = true := by
 rw [List.take_add_one, List.all_append, h, Bool.true_and, List.getElem?_eq_getElem hk]
 rw [List.getD_eq_getElem?_getD, List.getElem?_eq_getElem hk] at h1 h2
 simp only [Option.getD_some] at h1 h2
 simp only [Option.toList, List.all_cons, List.all_nil, Bool.and_true]
 unfold isD
 rw [Bool.and_eq_true, decide_eq_true_eq, decide_eq_true_eq]
 omega
theorem all_take {l : List UInt8} {k : Nat} (hk : ¬ ((k : Int) < (l.length : Int))) (h : (l.take k).all isD = true) : l.all isD = true := by rwa [List.take_of_length_le (by omega)] at h

theorem ne48 (b : UInt8) : (((b.toNat : Nat) : Int) != 48) = (b != 48) := by
 rw [Bool.eq_iff_iff, bne_iff_ne, bne_iff_ne]
 constructor
 ·rintro h rfl; exact h rfl
 ·intro h e; exact h (UInt8.toNat_inj.1 (show b.toNat = 48 by omega))
theorem numeral_con (l : List UInt8) (hl : l.length ≤ 100000) : Con (D := Dm) Tryz.prog 84 [.v (str l)] (.one (.v (.bool (numB l)))) := by
 refine Con.of (n := 30) Tryz.func84 rfl rfl rfl rfl rfl fun cx hfr => ?_
 refine sr rfl ?_
 refine mr rfl rfl bd rfl ?_
 refine RV.done ?_
 refine CV.seq ?_
 refine sr rfl ?_
 refine ml rfl rfl bd rfl ?_
 refine p1 (ok_s2b (by omega) u_str u_bytes u_u8 rfl rfl bd rfl) ?_
 refine p1 (ok_lenL rfl u_bytes rfl rfl bd rfl) ?_
 refine ml rfl rfl bd rfl ?_
 refine RV.done ?_
 refine CV.block ?_
 refine CV.loop (X := {k : Nat // k ≤ l.length ∧ (l.take k).all isD = true}) (fun k => [(.s 8, .av (.one (.v (.int .i64 (k.1 : Int))))), (.s 6, .av (.one (BY l))), (.s 7, .av (.one (.v (.int .i64 (l.length : Int))))), (.s 0, .av (.one (.v (str l))))]) (fun k => l.length - k.1) ⟨0, Nat.zero_le _, by simp⟩ (Sub.mk ⟨XV.le_rfl _, XV.le_rfl _, XV.le_of (by rw [byV_length]; rfl), XV.le_rfl _, trivial⟩ rfl rfl) (fun k => ?_)
 obtain ⟨k, hk, hd⟩ := k
 simp only
 refine sr rfl ?_
 refine p1 (ok_lss rfl rfl bd rfl rfl) ?_
 refine RV.done ?_
 refine CV.seq ?_
 refine CV.cond rfl (fun hc => ?_) (fun hc => ?_)
 ·refine CV.skip ?_
  refine CV.seq ?_
  refine CV.block ?_
  refine sr rfl ?_
  refine p1 (ok_idxL (k := none) (i := k) (byV_at (by simpa using hc)) u_bytes sz_u8 (by decide) rfl rfl bd rfl rfl) ?_
  refine p1 (ok_loadP ty_u8 (by decide) rfl rfl bd rfl) ?_
  refine mr rfl rfl bd rfl ?_
  refine RV.done (sr rfl ?_)
  refine ml rfl rfl bd rfl ?_
  refine p1 (ok_lss rfl rfl bd rfl rfl) ?_
  refine ml rfl rfl bd rfl ?_
  refine RV.bool (fun hb => ?_) (fun hb => ?_)
  ·refine RV.step1 (OpOk.skip rfl rfl rfl rfl rfl bd) ?_
   refine RV.step1 (OpOk.skip rfl rfl rfl rfl rfl bd) ?_
   refine p1 (ok_pickT rfl rfl bd rfl rfl rfl) ?_
   refine RV.done ?_
   refine CV.yes rfl ?_
   refine sr rfl ?_
   refine mr rfl rfl bd rfl ?_
   refine RV.done ?_
   refine CV.ret ?_
   exact fin1 rfl (.inr rfl) rfl (is_bool (numB_bad (by simpa using hc) (isD_false (.inl (by simpa using hb)))).symm)
  ·refine RV.step1 (OpOk.yes (ok_move (.inl rfl) rfl bd rfl) rfl rfl rfl) ?_
   refine RV.step1 (OpOk.yes (ok_gtr rfl rfl bd rfl rfl) rfl rfl rfl) ?_
   refine p1 (ok_pickF rfl rfl bd rfl rfl rfl) ?_
   refine RV.done ?_
   refine CV.cond rfl (fun hg => ?_) (fun hg => ?_)
   ·refine sr rfl ?_
    refine mr rfl rfl bd rfl ?_
    refine RV.done ?_
    refine CV.ret ?_
    exact fin1 rfl (.inr rfl) rfl (is_bool (numB_bad (by simpa using hc) (isD_false (.inr (by simpa using hg)))).symm)
   ·refine CV.skip ?_
    refine CV.region rfl (fun h => nomatch h) ?_
    refine p1 (ok_add (c := ((k + 1 : Nat) : Int)) (by rw [wrapI (by omega) (by omega)]; omega) rfl rfl bd rfl rfl) ?_
    refine ml rfl rfl bd rfl ?_
    refine RV.done ?_
    have hlt : k < l.length := by simpa using hc
    exact ⟨⟨k + 1, hlt, take_isD hlt hd (by simpa using hb) (by simpa using hg)⟩, Sub.mk ⟨XV.le_rfl _, XV.le_rfl _, XV.le_rfl _, XV.le_rfl _, trivial⟩ rfl rfl, by show l.length - (k + 1) < l.length - k; omega⟩
 ·refine CV.exit ?_
  refine sr rfl ?_
  refine ml rfl rfl bd rfl ?_
  refine p1 (ok_eqT rfl rfl rfl bd rfl rfl) ?_
  refine ml rfl rfl bd rfl ?_
  refine RV.bool (fun h1 => ?_) (fun h1 => ?_)
  ·refine RV.step1 (OpOk.skip rfl rfl rfl rfl rfl bd) ?_
   refine RV.step1 (OpOk.skip rfl rfl rfl rfl rfl bd) ?_
   refine RV.step1 (OpOk.skip rfl rfl rfl rfl rfl bd) ?_
   refine RV.step1 (OpOk.skipU rfl rfl rfl rfl bd) ?_
   refine RV.step1 (OpOk.skipU rfl rfl rfl rfl bd) ?_
   refine RV.step1 (OpOk.skipU rfl rfl rfl rfl bd) ?_
   refine RV.step1 (OpOk.skip rfl rfl rfl rfl rfl bd) ?_
   refine p1 (ok_pickT rfl rfl bd rfl rfl rfl) ?_
   refine mr rfl rfl bd rfl ?_
   refine RV.done ?_
   refine CV.ret ?_
   have ha := all_take (by simpa using hc) hd
   exact fin1 rfl (.inr rfl) rfl (is_bool (by unfold numB; rw [ha, h1]; rfl))
  ·refine RV.step1 (OpOk.yes (ok_move (.inl rfl) rfl bd rfl) rfl rfl rfl) ?_
   refine RV.step1 (OpOk.yes (ok_neT rfl rfl rfl bd rfl rfl) rfl rfl rfl) ?_
   refine RV.step1 (OpOk.yes (ok_move (.inl rfl) rfl bd rfl) rfl rfl rfl) ?_
   refine RV.bool (fun h2 => ?_) (fun h2 => ?_)
   ·refine RV.step1 (OpOk.yes (ok_move (.inl rfl) rfl bd rfl) rfl rfl rfl) ?_
    refine RV.step1 (OpOk.yes (ok_idxT (i := 0) (List.length_pos_iff.2 (by simpa using h2)) u_str rfl rfl bd rfl rfl) rfl rfl rfl) ?_
    refine RV.step1 (OpOk.yes (ok_neq rfl rfl bd rfl rfl) rfl rfl rfl) ?_
    refine RV.step1 (OpOk.yes (ok_pickT rfl rfl bd rfl rfl rfl) rfl rfl rfl) ?_
    refine p1 (ok_pickF rfl rfl bd rfl rfl rfl) ?_
    refine mr rfl rfl bd rfl ?_
    refine RV.done ?_
    refine CV.ret ?_
    have ha := all_take (by simpa using hc) hd
    exact fin1 rfl (.inr rfl) rfl (is_bool (by unfold numB; rw [ha, h1, h2]; simp only [Bool.true_and, Bool.false_or]; exact ne48 _))
   ·refine RV.step1 (OpOk.skip rfl rfl rfl rfl rfl bd) ?_
    refine RV.step1 (OpOk.skip rfl rfl rfl rfl rfl bd) ?_
    refine RV.step1 (OpOk.skip rfl rfl rfl rfl rfl bd) ?_
    refine RV.step1 (OpOk.yes (ok_pickF rfl rfl bd rfl rfl rfl) rfl rfl rfl) ?_
    refine p1 (ok_pickF rfl rfl bd rfl rfl rfl) ?_
    refine mr rfl rfl bd rfl ?_
    refine RV.done ?_
    refine CV.ret ?_
    have ha := all_take (by simpa using hc) hd
    exact fin1 rfl (.inr rfl) rfl (is_bool (by unfold numB; rw [ha, h1, h2]; rfl))

theorem conF_vals {f : FuncId} {us : List Value} {r : AV Dm} (h : ∀ w, Calls Tryz.prog f us.toArray w fun e w' => ∃ v, e = .returned v ∧ Below w.heap.size w w' ∧ ∀ L ρ, r.is L ρ w' v) : ConF Tryz.prog f (us.map fun u => SA.v u) r := by
 intro L ρ w vs _ hall
 have key : ∀ (us vs : List Value), isAll L ρ w (us.map fun u => (SA.v u : SA Dm)) vs → vs = us := by
  intro us
  induction us with
  | nil => intro vs h; cases vs with | nil => rfl | cons => exact h.elim
  | cons u us ih =>
   intro vs h
   cases vs with
   | nil => exact h.elim
   | cons v vs => rw [show v = u from h.1, ih vs h.2]
 rw [key us vs hall]
 refine (h w).mono ?_
 rintro e w' ⟨v, h1, h2, h3⟩
 exact ⟨v, h1, h2, h3 L ρ⟩
theorem cutm (l : List UInt8) : Lib.hasPrefix l [45] = (l.getD 0 0 == 45) ∧ Lib.trimPrefix l [45] = if l.getD 0 0 == 45 then l.drop 1 else l := by
 cases l with
 | nil => exact ⟨by decide, by decide⟩
 | cons b l =>
  constructor
  ·rw [Bool.eq_iff_iff]
   simp [Lib.hasPrefix, List.isPrefixOf]
   exact eq_comm
  ·by_cases e : b = 45
   ·subst e; rfl
   ·have h1 : (b == 45) = false := beq_eq_false_iff_ne.2 e
    have h2 : Lib.hasPrefix (b :: l) [45] = false := by
     simp [Lib.hasPrefix, List.isPrefixOf]
     exact fun h => e h.symm
    unfold Lib.trimPrefix
    rw [show (b :: l).getD 0 0 = b from rfl, h1, h2]
    rfl
theorem CutPrefix_con (l : List UInt8) : ConF (D := Dm) Tryz.prog 83 [.v (str l), .v (str [45])] (.tup [.v (str (if l.getD 0 0 == 45 then l.drop 1 else l)), .v (.bool (l.getD 0 0 == 45))]) :=
 conF_vals (us := [str l, str [45]]) fun w => by
  refine (Tryz.strings_CutPrefix ⟨l.toArray⟩ ⟨#[45]⟩ w).mono ?_
  rintro e w' ⟨rfl, rfl⟩
  refine ⟨_, rfl, Below.refl _ _, fun L ρ => ⟨[_, _], rfl, ?_, ?_, trivial⟩⟩
  ·show Value.string _ = Value.string _
   rw [← (cutm l).2]
  ·show Value.bool _ = Value.bool _
   rw [← (cutm l).1]
theorem Atoi_con (l : List UInt8) (h : l.all isD = true) (hn : l ≠ []) (hl : l.length ≤ 18) : ConF (D := Dm) Tryz.prog 85 [.v (str l)] (.tup [.v (.int .i64 ((valD l : Nat) : Int)), .v .nilIface]) :=
 conF_vals (us := [str l]) fun w => by
  refine (Tryz.strconv_Atoi ⟨l.toArray⟩ _ (by rw [str_sz]; exact hl) (atoi_val l h hn) w).mono ?_
  rintro e w' ⟨rfl, t, rfl⟩
  exact ⟨_, rfl, bw_below _ _ _, fun L ρ => ⟨[_, _], rfl, rfl, rfl, trivial⟩⟩
def nuV (ds : List Nat) : List (SA Dm) := ds.map fun (d : Nat) => .v (.int .i64 (d : Int))
theorem nuV_length (ds : List Nat) : (nuV ds).length = ds.length := by simp [nuV]
theorem nuV_snoc (ds : List Nat) (x : Nat) : nuV ds ++ [.v (.int .i64 (x : Int))] = nuV (ds ++ [x]) := by simp [nuV]
theorem nuV_ats {w : World} : ∀ {ds : List Nat} {cs : List Value}, Ats w none (nuV ds) cs → cs = ds.map fun (d : Nat) => Value.int .i64 (d : Int)
 | [], _, h => h
 | b :: l, _, ⟨p, r, v, h1, h2, h3, h4⟩ => by
  have e1 : p = [v] := h2.1
  have e2 : v = .int .i64 (b : Int) := h3
  rw [h1, e1, e2, nuV_ats h4]
  rfl
theorem nuV_Lst (ds : List Nat) : Lst (Dm.dl ds) none (nuV ds) := by
 intro w b off c cs hl hm h1 h2
 rw [nuV_length] at hl ⊢
 obtain rfl := nuV_ats h1
 exact ⟨_, _, rfl, hl, hm, fun hp => ⟨b, off, rfl, fun i hi => h2 i _ (by simp [List.getElem?_eq_getElem hi, List.getD_eq_getElem?_getD])⟩⟩
theorem nuV_Lst0 (ds : List Nat) : nuV ds = [] → Lst0 (Dm.dl ds) := by
 intro h w a
 obtain rfl : ds = [] := List.map_eq_nil_iff.1 h
 exact ⟨a, 0, rfl, Nat.le_refl _, by decide, fun h => absurd h (Nat.lt_irrefl _)⟩
theorem signed_con (b : Bool) (ds : List Nat) (k : Nat) (hds : Dig ds) (hk : len (mk b (val ds)) ≤ k) : Con Tryz.prog 86 [.v (.bool b), .d (Dm.dl ds)] (.one (.d (Dm.int (mk b (val ds)) k))) := by
 rintro L ρ w vs hlt hn hwf hall
 match vs, hall with
 | [u, v], ⟨h1, h2, _⟩ =>
  obtain rfl : u = _ := h1
  refine (signed_any b v ds w (h2 w (Agree.refl _ _)) hds).mono ?_
  rintro e w' ⟨r, rfl, h3, h4⟩
  exact ⟨r, rfl, h4, int_is (ρ := ρ) h3 hk hn hlt h4⟩
theorem len_mk (b : Bool) (ds : List Nat) (hd : Dig ds) : len (mk b (val ds)) ≤ ds.length := by
 show (dig (mk b (val ds)).natAbs).length ≤ _
 rw [mk_abs]
 exact dig_length_le.2 (val_lt hd)

section
variable (l d : List UInt8) (ng : Bool)
theorem ParseLimit_con (h : 65536 < l.length) : Con (D := Dm) Tryz.prog 11 [.v (str l)] (.tup [.d (Dm.int 0 7300), .v (.int .i64 4)]) := by
 refine Con.of (n := 59) Tryz.func11 rfl rfl rfl rfl rfl fun cx hfr => ?_
 refine sr rfl ?_
 refine p2 (ok_alloc (i := 0) rfl rfl bd zero_int rfl rfl rfl rfl) ?_
 refine mr rfl rfl bd rfl ?_
 refine RV.done ?_
 refine CV.seq ?_
 refine sr rfl ?_
 refine ml rfl rfl bd rfl ?_
 refine p1 (ok_lenT rfl u_str rfl rfl bd rfl) ?_
 refine p1 (ok_gtr rfl rfl bd rfl rfl) ?_
 refine RV.done ?_
 refine CV.cond rfl (fun hc => ?_) (fun hc => False.elim (by simp at hc; omega))
 refine sr rfl ?_
 refine p1 (ok_buildI rfl rfl bd) ?_
 refine p1 (ok_store rfl rfl rfl rfl rfl rfl rfl (ty_int).2 rfl rfl rfl rfl) ?_
 refine mr rfl rfl bd rfl ?_
 refine RV.done ?_
 refine CV.ret ?_
 exact fin2 rfl (.inr rfl) ⟨_, _, _, _, _, rfl, rfl, rfl, ty_int⟩ rfl (is_pair (is_lenle (by show (dig 0).length ≤ _; rw [dig_zero]; exact Nat.zero_le _)) (fun _ _ _ _ h => h))
theorem ParseForm_con (h : ¬ 65536 < l.length) (hd : d = if l.getD 0 0 == 45 then l.drop 1 else l) (hg : ng = (l.getD 0 0 == 45)) (hbad : (!numB d || (ng && d == [48])) = true) : Con (D := Dm) Tryz.prog 11 [.v (str l)] (.tup [.d (Dm.int 0 7300), .v (.int .i64 2)]) := by
 have hdl : d.length ≤ 65536 := by rw [hd]; split <;> first | omega | (rw [List.length_drop]; omega)
 refine Con.of (n := 59) Tryz.func11 rfl rfl rfl rfl rfl fun cx hfr => ?_
 refine sr rfl ?_
 refine p2 (ok_alloc (i := 0) rfl rfl bd zero_int rfl rfl rfl rfl) ?_
 refine mr rfl rfl bd rfl ?_
 refine RV.done ?_
 refine CV.seq ?_
 refine sr rfl ?_
 refine ml rfl rfl bd rfl ?_
 refine p1 (ok_lenT rfl u_str rfl rfl bd rfl) ?_
 refine p1 (ok_gtr rfl rfl bd rfl rfl) ?_
 refine RV.done ?_
 refine CV.cond rfl (fun hc => False.elim (by simp at hc; omega)) (fun hc => ?_)
 refine CV.skip ?_
 refine sr rfl ?_
 refine ml rfl rfl bd rfl ?_
 refine p1 (ok_callF ((show ConF (D := Dm) Tryz.prog _ _ (.tup [.v (str d), .v (.bool ng)]) by have q := CutPrefix_con l; rw [← hg] at q; rw [hd, ← hg]; exact q)) rfl rfl bd Tryz.func83 rfl rfl (.cons rfl Conv.any (.cons rfl Conv.any .nil)) rfl) ?_
 refine ml rfl rfl bd rfl ?_
 refine p1 (ok_extract rfl rfl bd rfl rfl) ?_
 refine p1 (ok_extract rfl rfl bd rfl rfl) ?_
 refine mr rfl rfl bd rfl ?_
 refine mr rfl rfl bd rfl ?_
 refine RV.done ?_
 refine CV.seq ?_
 refine sr rfl ?_
 refine ml rfl rfl bd rfl ?_
 refine p1 (ok_call (numeral_con _ (by omega)) rfl rfl bd Tryz.func84 rfl rfl (.cons rfl Conv.any .nil) rfl hfr rfl) ?_
 refine p1 (ok_not rfl rfl bd rfl) ?_
 refine ml rfl rfl bd rfl ?_
 refine RV.bool (fun hn => ?_) (fun hn => ?_)
 ·refine RV.step1 (OpOk.skip rfl rfl rfl rfl rfl bd) ?_
  refine RV.step1 (OpOk.skip rfl rfl rfl rfl rfl bd) ?_
  refine RV.step1 (OpOk.skipU rfl rfl rfl rfl bd) ?_
  refine RV.step1 (OpOk.skipU rfl rfl rfl rfl bd) ?_
  refine RV.step1 (OpOk.skip rfl rfl rfl rfl rfl bd) ?_
  refine p1 (ok_pickT rfl rfl bd rfl rfl rfl) ?_
  refine RV.done ?_
  refine CV.yes rfl ?_
  refine sr rfl ?_
  refine p1 (ok_buildI rfl rfl bd) ?_
  refine p1 (ok_store rfl rfl rfl rfl rfl rfl rfl (ty_int).2 rfl rfl rfl rfl) ?_
  refine mr rfl rfl bd rfl ?_
  refine RV.done ?_
  refine CV.ret ?_
  exact fin2 rfl (.inr rfl) ⟨_, _, _, _, _, rfl, rfl, rfl, ty_int⟩ rfl (is_pair (is_lenle (by show (dig 0).length ≤ _; rw [dig_zero]; exact Nat.zero_le _)) (fun _ _ _ _ h => h))
 ·refine RV.step1 (OpOk.yes (ok_move (.inl rfl) rfl bd rfl) rfl rfl rfl) ?_
  refine RV.step1 (OpOk.yes (ok_move (.inl rfl) rfl bd rfl) rfl rfl rfl) ?_
  refine RV.bool (fun hb => ?_) (fun hb => False.elim (by rw [hb] at hbad; simp at hn hbad; rw [hn] at hbad; cases hbad))
  refine RV.step1 (OpOk.yes (ok_move (.inl rfl) rfl bd rfl) rfl rfl rfl) ?_
  refine RV.step1 (OpOk.yes (ok_eqT rfl rfl rfl bd rfl rfl) rfl rfl rfl) ?_
  refine RV.step1 (OpOk.yes (ok_pickT rfl rfl bd rfl rfl rfl) rfl rfl rfl) ?_
  refine p1 (ok_pickF rfl rfl bd rfl rfl rfl) ?_
  refine RV.done ?_
  refine CV.cond rfl (fun hc => ?_) (fun hc => False.elim (by simp at hn; rw [hn] at hbad; simp at hbad; rw [hbad.2] at hc; exact absurd hc (by decide)))
  refine sr rfl ?_
  refine p1 (ok_buildI rfl rfl bd) ?_
  refine p1 (ok_store rfl rfl rfl rfl rfl rfl rfl (ty_int).2 rfl rfl rfl rfl) ?_
  refine mr rfl rfl bd rfl ?_
  refine RV.done ?_
  refine CV.ret ?_
  exact fin2 rfl (.inr rfl) ⟨_, _, _, _, _, rfl, rfl, rfl, ty_int⟩ rfl (is_pair (is_lenle (by show (dig 0).length ≤ _; rw [dig_zero]; exact Nat.zero_le _)) (fun _ _ _ _ h => h))
theorem ParseOkP_con (h : ¬ 65536 < l.length) (hd : d = if l.getD 0 0 == 45 then l.drop 1 else l) (hg : false = (l.getD 0 0 == 45)) (hnum : numB d = true) (h0 : ¬ (false = true ∧ d = [48])) : Con (D := Dm) Tryz.prog 11 [.v (str l)] (.tup [.d (Dm.int (mk false (valD d)) 7300), .v (.int .i64 0)]) := by
 have hdl : d.length ≤ 65536 := by rw [hd]; split <;> first | omega | (rw [List.length_drop]; omega)
 have hall : d.all isD = true := by unfold numB at hnum; rw [Bool.and_eq_true] at hnum; exact hnum.1
 have hsub : ∀ m : List UInt8, (∀ x ∈ m, x ∈ d) → m.all isD = true := fun m hm => List.all_eq_true.2 fun x hx => List.all_eq_true.1 hall x (hm x hx)
 have hcl := chunks_len 7282 d (by omega)
 refine Con.of (n := 59) Tryz.func11 rfl rfl rfl rfl rfl fun cx hfr => ?_
 refine sr rfl ?_
 refine p2 (ok_alloc (i := 0) rfl rfl bd zero_int rfl rfl rfl rfl) ?_
 refine mr rfl rfl bd rfl ?_
 refine RV.done ?_
 refine CV.seq ?_
 refine sr rfl ?_
 refine ml rfl rfl bd rfl ?_
 refine p1 (ok_lenT rfl u_str rfl rfl bd rfl) ?_
 refine p1 (ok_gtr rfl rfl bd rfl rfl) ?_
 refine RV.done ?_
 refine CV.cond rfl (fun hc => False.elim (by simp at hc; omega)) (fun hc => ?_)
 refine CV.skip ?_
 refine sr rfl ?_
 refine ml rfl rfl bd rfl ?_
 refine p1 (ok_callF ((show ConF (D := Dm) Tryz.prog _ _ (.tup [.v (str d), .v (.bool false)]) by have q := CutPrefix_con l; rw [← hg] at q; rw [hd, ← hg]; exact q)) rfl rfl bd Tryz.func83 rfl rfl (.cons rfl Conv.any (.cons rfl Conv.any .nil)) rfl) ?_
 refine ml rfl rfl bd rfl ?_
 refine p1 (ok_extract rfl rfl bd rfl rfl) ?_
 refine p1 (ok_extract rfl rfl bd rfl rfl) ?_
 refine mr rfl rfl bd rfl ?_
 refine mr rfl rfl bd rfl ?_
 refine RV.done ?_
 refine CV.seq ?_
 refine sr rfl ?_
 refine ml rfl rfl bd rfl ?_
 refine p1 (ok_call (numeral_con _ (by omega)) rfl rfl bd Tryz.func84 rfl rfl (.cons rfl Conv.any .nil) rfl hfr rfl) ?_
 refine p1 (ok_not rfl rfl bd rfl) ?_
 refine ml rfl rfl bd rfl ?_
 refine RV.bool (fun hb => False.elim (by rw [hnum] at hb; cases hb)) (fun hb => ?_)
 refine RV.step1 (OpOk.yes (ok_move (.inl rfl) rfl bd rfl) rfl rfl rfl) ?_
 refine RV.step1 (OpOk.yes (ok_move (.inl rfl) rfl bd rfl) rfl rfl rfl) ?_
 refine RV.step1 (OpOk.skip rfl rfl rfl rfl rfl bd) ?_
 refine RV.step1 (OpOk.skip rfl rfl rfl rfl rfl bd) ?_
 refine RV.step1 (OpOk.yes (ok_pickF rfl rfl bd rfl rfl rfl) rfl rfl rfl) ?_
 refine p1 (ok_pickF rfl rfl bd rfl rfl rfl) ?_
 refine RV.done ?_
 refine CV.no rfl ?_
 refine CV.skip ?_
 refine sr rfl ?_
 refine ml rfl rfl bd rfl ?_
 refine p1 (ok_lenT rfl u_str rfl rfl bd rfl) ?_
 refine p1 (ok_quo (c := ((d.length / 9 : Nat) : Int)) (by decide) (by rw [Int.tdiv_eq_ediv_of_nonneg (by omega), wrapI (by omega) (by omega)]; omega) rfl rfl bd rfl rfl) ?_
 refine p1 (ok_add (c := ((d.length / 9 + 1 : Nat) : Int)) (by rw [wrapI (by omega) (by omega)]; omega) rfl rfl bd rfl rfl) ?_
 refine RV.step3 (OpOk.plain (ok_makeN (r := 10) (m := 0) (c := d.length / 9 + 1) (k := none) (Nat.zero_le _) (by omega) (by omega) u_ints inf_i64 rfl rfl rfl rfl bd rfl rfl rfl rfl rfl) rfl) ?_
 refine mr rfl rfl bd rfl ?_
 refine RV.done ?_
 refine CV.seq ?_
 refine CV.block ?_
 refine CV.loop (X := {q : Nat × List Nat // q.1 ≤ d.length ∧ q.2 ++ chunks (d.take q.1) = chunks d}) (fun q => [(.s 4, .av (.one (.v (str (d.take q.1.1))))), (.s 6, .av (.one (.sl 10 q.1.2.length))), (.b 10, .row 3 none (nuV q.1.2)), (KP, .np [10]), (.s 5, .av (.one (.v (.bool false)))), (.s 2, .av (.one (.ptr 0 0))), (.b 0, .blk 25 [(some 2, .v (.agg #[.bool false, .slice none 0 0]))])]) (fun q => q.1.1) ⟨(d.length, []), Nat.le_refl _, by rw [List.take_length]; rfl⟩ (Sub.mk ⟨XV.le_of (by rw [List.take_length]; rfl), XV.le_rfl _, XV.le_rfl _, trivial, XV.le_rfl _, XV.le_rfl _, XV.le_rfl _, trivial⟩ rfl rfl rfl rfl) (fun q => ?_)
 obtain ⟨⟨m, ds⟩, hm1, hm2⟩ := q
 simp only at hm1 hm2 ⊢
 have hml : (d.take m).length = m := by rw [List.length_take]; omega
 have hds : ds.length ≤ 7282 := by have := congrArg List.length hm2; rw [List.length_append] at this; omega
 refine CV.seq ?_
 refine sr rfl ?_
 refine ml rfl rfl bd rfl ?_
 refine p1 (ok_lenT hml u_str rfl rfl bd rfl) ?_
 refine p1 (ok_gtr rfl rfl bd rfl rfl) ?_
 refine RV.done ?_
 refine CV.cond rfl (fun hc => ?_) (fun hc => ?_)
 ·refine CV.skip ?_
  refine CV.block ?_
  refine sr rfl ?_
  refine ml rfl rfl bd rfl ?_
  refine p1 (ok_lenT hml u_str rfl rfl bd rfl) ?_
  refine p1 (ok_sub (c := (m : Int) - 9) (by rw [wrapI (by omega) (by omega)]) rfl rfl bd rfl rfl) ?_
  refine p1 (ok_maxI (c := ((m - 9 : Nat) : Int)) (by split <;> omega) rfl rfl bd rfl rfl) ?_
  refine mr rfl rfl bd rfl ?_
  refine RV.done (sr rfl ?_)
  refine ml rfl rfl bd rfl ?_
  refine ml rfl rfl bd rfl ?_
  refine p1 (ok_cutT (v := (d.take m).drop (m - 9)) (some (m - 9)) none (by show ((d.take m).take (d.take m).length).drop (m - 9) = _; rw [List.take_length]) (by show m - 9 ≤ (d.take m).length; omega) (Nat.le_refl _) u_str rfl rfl bd rfl rfl trivial) ?_
  refine p1 (ok_callF (Atoi_con _ (hsub _ fun x hx => List.mem_of_mem_take (List.mem_of_mem_drop hx)) (fun e => by have := congrArg List.length e; rw [List.length_drop, hml, List.length_nil] at this; have : 0 < m := (by simpa using hc); omega) (by rw [List.length_drop, hml]; omega)) rfl rfl bd Tryz.func85 rfl rfl (.cons rfl Conv.any .nil) rfl) ?_
  refine ml rfl rfl bd rfl ?_
  refine p1 (ok_extract rfl rfl bd rfl rfl) ?_
  refine p1 (ok_extract rfl rfl bd rfl rfl) ?_
  refine mr rfl rfl bd rfl ?_
  refine mr rfl rfl bd rfl ?_
  refine RV.done (sr rfl ?_)
  refine ml rfl rfl bd rfl ?_
  refine ml rfl rfl bd rfl ?_
  refine p1 (ok_litD (G := Dm.gen (lstG none [_])) (lstG_Lst none _) u_ints zs_i64 rfl rfl rfl (by intro s hs; obtain rfl := List.mem_singleton.1 hs; rfl) rfl rfl rfl bd (.cons rfl Conv.any .nil)) ?_
  refine RV.step4 (OpOk.plain (ok_appendN (r := 10) (r' := 11) (k := none) (lst_elems (by decide) rfl) (by rw [nuV_length]; simp; omega) (by rw [nuV_length]; simp; omega) u_ints inf_i64 rfl rfl (nuV_length _).symm rfl rfl bd rfl rfl rfl rfl rfl rfl rfl) rfl) ?_
  refine mr rfl rfl bd rfl ?_
  refine RV.done ?_
  refine CV.region rfl (fun h => nomatch h) ?_
  refine ml rfl rfl bd rfl ?_
  refine ml rfl rfl bd rfl ?_
  refine p1 (ok_cutT (v := d.take (m - 9)) none (some (m - 9)) (by show ((d.take m).take (m - 9)).drop 0 = _; rw [List.drop_zero, List.take_take, Nat.min_eq_left (by omega)]) (Nat.zero_le _) (by show m - 9 ≤ (d.take m).length; omega) u_str rfl rfl bd rfl trivial rfl) ?_
  refine mr rfl rfl bd rfl ?_
  refine RV.done ?_
  have h0 : 0 < m := (by simpa using hc)
  have hstep : chunks (d.take m) = valD ((d.take m).drop (m - 9)) :: chunks (d.take (m - 9)) := by rw [chunks_cons (fun e => by rw [e] at hml; simp at hml; omega), hml, List.take_take, Nat.min_eq_left (by omega)]
  exact ⟨⟨(m - 9, ds ++ [valD ((d.take m).drop (m - 9))]), by show m - 9 ≤ d.length; omega, by show (ds ++ [_]) ++ chunks (d.take (m - 9)) = _; rw [List.append_assoc, ← hm2, hstep]; rfl⟩, Sub.mkr (fun i => if i = 10 then 11 else i) ⟨XV.le_same, XV.le_sl rfl (by simp [nuV_length]), XV.le_row (nuV_snoc ds _), trivial, XV.le_same, fun _ _ _ _ h => h, ⟨rfl, fun _ _ _ _ h => h⟩, trivial⟩ rfl rfl rfl rfl, by show m - 9 < m; omega⟩
 ·refine CV.exit ?_
  refine CV.seq ?_
  have hm0 : m = 0 := by have : ¬ 0 < m := (by simpa using hc); omega
  subst hm0
  rw [List.take_zero, chunks_nil, List.append_nil] at hm2
  refine CV.freeze (r := 10) (t := 6) (G := Dm.dl ds) (cx.bw hfr) rfl rfl (nuV_length ds).symm rfl rfl (nuV_Lst ds) (nuV_Lst0 ds) ?_
  refine CV.kp [] rfl rfl ?_
  refine CV.region rfl (fun h => nomatch h) ?_
  refine ml rfl rfl bd rfl ?_
  refine ml rfl rfl bd rfl ?_
  refine p1 (ok_call (signed_con _ _ 7300 (by rw [hm2]; exact chunks_Dig 7282 d (by omega) hall) (Nat.le_trans (len_mk _ _ (by rw [hm2]; exact chunks_Dig 7282 d (by omega) hall)) (by omega))) rfl rfl bd Tryz.func86 rfl rfl (.cons rfl Conv.any (.cons rfl Conv.any .nil)) rfl hfr rfl) ?_
  refine p1 (ok_store rfl rfl rfl rfl rfl rfl rfl (ty_int).2 rfl rfl rfl rfl) ?_
  refine mr rfl rfl bd rfl ?_
  refine RV.done ?_
  refine CV.ret ?_
  exact fin2 rfl (.inr rfl) ⟨_, _, _, _, _, rfl, rfl, rfl, ty_int⟩ rfl (is_pair (is_int' (by rw [hm2, chunks_val 7282 d (by omega)]) (Nat.le_refl _)) (fun _ _ _ _ h => h))
theorem ParseOkN_con (h : ¬ 65536 < l.length) (hd : d = if l.getD 0 0 == 45 then l.drop 1 else l) (hg : true = (l.getD 0 0 == 45)) (hnum : numB d = true) (h0 : ¬ (true = true ∧ d = [48])) : Con (D := Dm) Tryz.prog 11 [.v (str l)] (.tup [.d (Dm.int (mk true (valD d)) 7300), .v (.int .i64 0)]) := by
 have hdl : d.length ≤ 65536 := by rw [hd]; split <;> first | omega | (rw [List.length_drop]; omega)
 have hall : d.all isD = true := by unfold numB at hnum; rw [Bool.and_eq_true] at hnum; exact hnum.1
 have hsub : ∀ m : List UInt8, (∀ x ∈ m, x ∈ d) → m.all isD = true := fun m hm => List.all_eq_true.2 fun x hx => List.all_eq_true.1 hall x (hm x hx)
 have hcl := chunks_len 7282 d (by omega)
 refine Con.of (n := 59) Tryz.func11 rfl rfl rfl rfl rfl fun cx hfr => ?_
 refine sr rfl ?_
 refine p2 (ok_alloc (i := 0) rfl rfl bd zero_int rfl rfl rfl rfl) ?_
 refine mr rfl rfl bd rfl ?_
 refine RV.done ?_
 refine CV.seq ?_
 refine sr rfl ?_
 refine ml rfl rfl bd rfl ?_
 refine p1 (ok_lenT rfl u_str rfl rfl bd rfl) ?_
 refine p1 (ok_gtr rfl rfl bd rfl rfl) ?_
 refine RV.done ?_
 refine CV.cond rfl (fun hc => False.elim (by simp at hc; omega)) (fun hc => ?_)
 refine CV.skip ?_
 refine sr rfl ?_
 refine ml rfl rfl bd rfl ?_
 refine p1 (ok_callF ((show ConF (D := Dm) Tryz.prog _ _ (.tup [.v (str d), .v (.bool true)]) by have q := CutPrefix_con l; rw [← hg] at q; rw [hd, ← hg]; exact q)) rfl rfl bd Tryz.func83 rfl rfl (.cons rfl Conv.any (.cons rfl Conv.any .nil)) rfl) ?_
 refine ml rfl rfl bd rfl ?_
 refine p1 (ok_extract rfl rfl bd rfl rfl) ?_
 refine p1 (ok_extract rfl rfl bd rfl rfl) ?_
 refine mr rfl rfl bd rfl ?_
 refine mr rfl rfl bd rfl ?_
 refine RV.done ?_
 refine CV.seq ?_
 refine sr rfl ?_
 refine ml rfl rfl bd rfl ?_
 refine p1 (ok_call (numeral_con _ (by omega)) rfl rfl bd Tryz.func84 rfl rfl (.cons rfl Conv.any .nil) rfl hfr rfl) ?_
 refine p1 (ok_not rfl rfl bd rfl) ?_
 refine ml rfl rfl bd rfl ?_
 refine RV.bool (fun hb => False.elim (by rw [hnum] at hb; cases hb)) (fun hb => ?_)
 refine RV.step1 (OpOk.yes (ok_move (.inl rfl) rfl bd rfl) rfl rfl rfl) ?_
 refine RV.step1 (OpOk.yes (ok_move (.inl rfl) rfl bd rfl) rfl rfl rfl) ?_
 refine RV.step1 (OpOk.yes (ok_move (.inl rfl) rfl bd rfl) rfl rfl rfl) ?_
 refine RV.step1 (OpOk.yes (ok_eqT rfl rfl rfl bd rfl rfl) rfl rfl rfl) ?_
 refine RV.step1 (OpOk.yes (ok_pickT rfl rfl bd rfl rfl rfl) rfl rfl rfl) ?_
 refine p1 (ok_pickF rfl rfl bd rfl rfl rfl) ?_
 refine RV.done ?_
 refine CV.cond rfl (fun hc => False.elim (by simp at hc; exact h0 ⟨rfl, hc⟩)) (fun hc => ?_)
 refine CV.skip ?_
 refine sr rfl ?_
 refine ml rfl rfl bd rfl ?_
 refine p1 (ok_lenT rfl u_str rfl rfl bd rfl) ?_
 refine p1 (ok_quo (c := ((d.length / 9 : Nat) : Int)) (by decide) (by rw [Int.tdiv_eq_ediv_of_nonneg (by omega), wrapI (by omega) (by omega)]; omega) rfl rfl bd rfl rfl) ?_
 refine p1 (ok_add (c := ((d.length / 9 + 1 : Nat) : Int)) (by rw [wrapI (by omega) (by omega)]; omega) rfl rfl bd rfl rfl) ?_
 refine RV.step3 (OpOk.plain (ok_makeN (r := 10) (m := 0) (c := d.length / 9 + 1) (k := none) (Nat.zero_le _) (by omega) (by omega) u_ints inf_i64 rfl rfl rfl rfl bd rfl rfl rfl rfl rfl) rfl) ?_
 refine mr rfl rfl bd rfl ?_
 refine RV.done ?_
 refine CV.seq ?_
 refine CV.block ?_
 refine CV.loop (X := {q : Nat × List Nat // q.1 ≤ d.length ∧ q.2 ++ chunks (d.take q.1) = chunks d}) (fun q => [(.s 4, .av (.one (.v (str (d.take q.1.1))))), (.s 6, .av (.one (.sl 10 q.1.2.length))), (.b 10, .row 3 none (nuV q.1.2)), (KP, .np [10]), (.s 5, .av (.one (.v (.bool true)))), (.s 2, .av (.one (.ptr 0 0))), (.b 0, .blk 25 [(some 2, .v (.agg #[.bool false, .slice none 0 0]))])]) (fun q => q.1.1) ⟨(d.length, []), Nat.le_refl _, by rw [List.take_length]; rfl⟩ (Sub.mk ⟨XV.le_of (by rw [List.take_length]; rfl), XV.le_rfl _, XV.le_rfl _, trivial, XV.le_rfl _, XV.le_rfl _, XV.le_rfl _, trivial⟩ rfl rfl rfl rfl) (fun q => ?_)
 obtain ⟨⟨m, ds⟩, hm1, hm2⟩ := q
 simp only at hm1 hm2 ⊢
 have hml : (d.take m).length = m := by rw [List.length_take]; omega
 have hds : ds.length ≤ 7282 := by have := congrArg List.length hm2; rw [List.length_append] at this; omega
 refine CV.seq ?_
 refine sr rfl ?_
 refine ml rfl rfl bd rfl ?_
 refine p1 (ok_lenT hml u_str rfl rfl bd rfl) ?_
 refine p1 (ok_gtr rfl rfl bd rfl rfl) ?_
 refine RV.done ?_
 refine CV.cond rfl (fun hc => ?_) (fun hc => ?_)
 ·refine CV.skip ?_
  refine CV.block ?_
  refine sr rfl ?_
  refine ml rfl rfl bd rfl ?_
  refine p1 (ok_lenT hml u_str rfl rfl bd rfl) ?_
  refine p1 (ok_sub (c := (m : Int) - 9) (by rw [wrapI (by omega) (by omega)]) rfl rfl bd rfl rfl) ?_
  refine p1 (ok_maxI (c := ((m - 9 : Nat) : Int)) (by split <;> omega) rfl rfl bd rfl rfl) ?_
  refine mr rfl rfl bd rfl ?_
  refine RV.done (sr rfl ?_)
  refine ml rfl rfl bd rfl ?_
  refine ml rfl rfl bd rfl ?_
  refine p1 (ok_cutT (v := (d.take m).drop (m - 9)) (some (m - 9)) none (by show ((d.take m).take (d.take m).length).drop (m - 9) = _; rw [List.take_length]) (by show m - 9 ≤ (d.take m).length; omega) (Nat.le_refl _) u_str rfl rfl bd rfl rfl trivial) ?_
  refine p1 (ok_callF (Atoi_con _ (hsub _ fun x hx => List.mem_of_mem_take (List.mem_of_mem_drop hx)) (fun e => by have := congrArg List.length e; rw [List.length_drop, hml, List.length_nil] at this; have : 0 < m := (by simpa using hc); omega) (by rw [List.length_drop, hml]; omega)) rfl rfl bd Tryz.func85 rfl rfl (.cons rfl Conv.any .nil) rfl) ?_
  refine ml rfl rfl bd rfl ?_
  refine p1 (ok_extract rfl rfl bd rfl rfl) ?_
  refine p1 (ok_extract rfl rfl bd rfl rfl) ?_
  refine mr rfl rfl bd rfl ?_
  refine mr rfl rfl bd rfl ?_
  refine RV.done (sr rfl ?_)
  refine ml rfl rfl bd rfl ?_
  refine ml rfl rfl bd rfl ?_
  refine p1 (ok_litD (G := Dm.gen (lstG none [_])) (lstG_Lst none _) u_ints zs_i64 rfl rfl rfl (by intro s hs; obtain rfl := List.mem_singleton.1 hs; rfl) rfl rfl rfl bd (.cons rfl Conv.any .nil)) ?_
  refine RV.step4 (OpOk.plain (ok_appendN (r := 10) (r' := 11) (k := none) (lst_elems (by decide) rfl) (by rw [nuV_length]; simp; omega) (by rw [nuV_length]; simp; omega) u_ints inf_i64 rfl rfl (nuV_length _).symm rfl rfl bd rfl rfl rfl rfl rfl rfl rfl) rfl) ?_
  refine mr rfl rfl bd rfl ?_
  refine RV.done ?_
  refine CV.region rfl (fun h => nomatch h) ?_
  refine ml rfl rfl bd rfl ?_
  refine ml rfl rfl bd rfl ?_
  refine p1 (ok_cutT (v := d.take (m - 9)) none (some (m - 9)) (by show ((d.take m).take (m - 9)).drop 0 = _; rw [List.drop_zero, List.take_take, Nat.min_eq_left (by omega)]) (Nat.zero_le _) (by show m - 9 ≤ (d.take m).length; omega) u_str rfl rfl bd rfl trivial rfl) ?_
  refine mr rfl rfl bd rfl ?_
  refine RV.done ?_
  have h0 : 0 < m := (by simpa using hc)
  have hstep : chunks (d.take m) = valD ((d.take m).drop (m - 9)) :: chunks (d.take (m - 9)) := by rw [chunks_cons (fun e => by rw [e] at hml; simp at hml; omega), hml, List.take_take, Nat.min_eq_left (by omega)]
  exact ⟨⟨(m - 9, ds ++ [valD ((d.take m).drop (m - 9))]), by show m - 9 ≤ d.length; omega, by show (ds ++ [_]) ++ chunks (d.take (m - 9)) = _; rw [List.append_assoc, ← hm2, hstep]; rfl⟩, Sub.mkr (fun i => if i = 10 then 11 else i) ⟨XV.le_same, XV.le_sl rfl (by simp [nuV_length]), XV.le_row (nuV_snoc ds _), trivial, XV.le_same, fun _ _ _ _ h => h, ⟨rfl, fun _ _ _ _ h => h⟩, trivial⟩ rfl rfl rfl rfl, by show m - 9 < m; omega⟩
 ·refine CV.exit ?_
  refine CV.seq ?_
  have hm0 : m = 0 := by have : ¬ 0 < m := (by simpa using hc); omega
  subst hm0
  rw [List.take_zero, chunks_nil, List.append_nil] at hm2
  refine CV.freeze (r := 10) (t := 6) (G := Dm.dl ds) (cx.bw hfr) rfl rfl (nuV_length ds).symm rfl rfl (nuV_Lst ds) (nuV_Lst0 ds) ?_
  refine CV.kp [] rfl rfl ?_
  refine CV.region rfl (fun h => nomatch h) ?_
  refine ml rfl rfl bd rfl ?_
  refine ml rfl rfl bd rfl ?_
  refine p1 (ok_call (signed_con _ _ 7300 (by rw [hm2]; exact chunks_Dig 7282 d (by omega) hall) (Nat.le_trans (len_mk _ _ (by rw [hm2]; exact chunks_Dig 7282 d (by omega) hall)) (by omega))) rfl rfl bd Tryz.func86 rfl rfl (.cons rfl Conv.any (.cons rfl Conv.any .nil)) rfl hfr rfl) ?_
  refine p1 (ok_store rfl rfl rfl rfl rfl rfl rfl (ty_int).2 rfl rfl rfl rfl) ?_
  refine mr rfl rfl bd rfl ?_
  refine RV.done ?_
  refine CV.ret ?_
  exact fin2 rfl (.inr rfl) ⟨_, _, _, _, _, rfl, rfl, rfl, ty_int⟩ rfl (is_pair (is_int' (by rw [hm2, chunks_val 7282 d (by omega)]) (Nat.le_refl _)) (fun _ _ _ _ h => h))
end
theorem Parse_con (l : List UInt8) : Con (D := Dm) Tryz.prog 11 [.v (str l)] (.tup [.d (Dm.int (parseI l).1 7300), .v (.int .i64 (parseI l).2)]) := by
 unfold parseI
 by_cases h : 65536 < l.length
 ·rw [if_pos h]; exact ParseLimit_con l h
 ·rw [if_neg h]
  generalize hd : (if l.getD 0 0 == 45 then l.drop 1 else l) = d
  generalize hg : (l.getD 0 0 == 45) = ng
  by_cases hb : (!numB d || (ng && d == [48])) = true
  ·rw [if_pos hb]; exact ParseForm_con l d ng h hd.symm hg.symm hb
  ·rw [if_neg hb]
   rw [Bool.or_eq_true, not_or, Bool.not_eq_true', Bool.not_eq_false, Bool.and_eq_true, beq_iff_eq] at hb
   cases ng with
   | true => exact ParseOkN_con l d h hd.symm hg.symm hb.1 hb.2
   | false => exact ParseOkP_con l d h hd.symm hg.symm hb.1 hb.2

theorem fin3 {cx : Cx Dm} {n : Nat} {l : Sg Dm} {fn : Func} {rv rv' rv3 : ResultVar} {s s' s3 : SA Dm} {r : AV Dm} {e : Exit} (hres : fn.results = #[rv, rv', rv3]) (he : e = .normal ∨ e = .ret) (hr : RvIs Tryz.prog (lookD .no l) s rv) (hr' : RvIs Tryz.prog (lookD .no l) s' rv') (hr3 : RvIs Tryz.prog (lookD .no l) s3 rv3) (hc : ∀ L ρ w v, (AV.tup [s, s', s3]).is L ρ w v → r.is L ρ w v) : Fin Tryz.prog cx n fn r e l := by
 refine ⟨he, fun ρ a w h => ?_⟩
 obtain ⟨v, h1, h2⟩ := hr.run h
 obtain ⟨v', h1', h2'⟩ := hr'.run h
 obtain ⟨v3, h13, h23⟩ := hr3.run h
 refine ⟨.tuple #[v, v', v3], ?_, hc _ _ _ _ ⟨[v, v', v3], rfl, h2, h2', h23, trivial⟩⟩
 have : (results fn a.tmps).run Tryz.prog w = ((rvRun a.tmps rv).run Tryz.prog w).andThen fun v w => ((rvRun a.tmps rv').run Tryz.prog w).andThen fun v' w => ((rvRun a.tmps rv3).run Tryz.prog w).andThen fun v3 w => .ok (.tuple #[v, v', v3]) w := by
  cases rv <;> cases rv' <;> cases rv3 <;> simp [results, hres, rvRun, andThen_assoc]
 rw [this, h1]
 show ((rvRun a.tmps rv').run Tryz.prog w).andThen _ = _
 rw [h1']
 show ((rvRun a.tmps rv3).run Tryz.prog w).andThen _ = _
 rw [h13]
 rfl
theorem is_tup {l l' : List (SA Dm)} (h : l = l') : ∀ L ρ w v, (AV.tup l).is L ρ w v → (AV.tup l').is L ρ w v := by subst h; exact fun _ _ _ _ h => h

theorem Text0_con (k : Nat) : Con Tryz.prog 10 [.d (Dm.int 0 k)] (.one (.v (str (txtI 0)))) := by
 refine Con.of (n := 42) Tryz.func10 rfl rfl rfl rfl rfl fun cx hfr => ?_
 refine sr rfl ?_
 refine p2 (ok_box (i := 0) rfl rfl bd rfl rfl rfl rfl rfl) ?_
 refine mr rfl rfl bd rfl ?_
 refine RV.done ?_
 refine CV.seq ?_
 refine sr rfl ?_
 refine p1 (ok_fieldAddr fa_int1 rfl rfl bd rfl) ?_
 refine p1 (ok_loadf 1 fld_dig rfl rfl bd rfl rfl rfl rfl ty_ints) ?_
 refine p1 (ok_len rfl rfl bd rfl) ?_
 refine p1 (ok_eql rfl rfl bd rfl rfl) ?_
 refine RV.done ?_
 refine CV.cond rfl (fun hc => ?_) (fun hc => False.elim (by simp [dig_zero] at hc))
 refine sr rfl ?_
 refine mr rfl rfl bd rfl ?_
 refine RV.done ?_
 refine CV.ret ?_
 exact fin1 rfl (.inr rfl) rfl (is_of rfl)
theorem Text_con (z : Int) (k : Nat) (hk : k ≤ 1000000000) : Con Tryz.prog 10 [.d (Dm.int z k)] (.one (.v (str (txtI z)))) := by
 by_cases h0 : z = 0
 ·subst h0; exact Text0_con k
 ·rintro L ρ w vs hlt hn hwf hall
  match vs, hall with
  | [v], ⟨h1, _⟩ =>
   obtain ⟨g1, g2⟩ := h1 w (Agree.refl _ _)
   by_cases hz : z < 0
   ·refine (Text_neg v z w g1 hz (Nat.le_trans g2 (by omega)) hwf).mono ?_
    rintro e w' ⟨rfl, h4⟩
    refine ⟨_, rfl, h4, ?_⟩
    show Value.string _ = Value.string _
    unfold txtI
    rw [if_neg h0, if_pos hz]
    rfl
   ·refine (Text_pos v z w g1 (by omega) (Nat.le_trans g2 (by omega)) hwf).mono ?_
    rintro e w' ⟨rfl, h4⟩
    refine ⟨_, rfl, h4, ?_⟩
    show Value.string _ = Value.string _
    unfold txtI
    rw [if_neg h0, if_neg hz]
    rfl

theorem IndexByte_con (l : List UInt8) (b : UInt8) : ConF (D := Dm) Tryz.prog 182 [.v (str l), .v (.int .u8 (b.toNat : Int))] (.one (.v (.int .i64 (Lib.indexByte l b)))) :=
 conF_vals (us := [str l, .int .u8 (b.toNat : Int)]) fun w => by
  refine (Tryz.stringslite_IndexByte ⟨l.toArray⟩ (b.toNat : Int) w).mono ?_
  rintro e w' ⟨rfl, rfl⟩
  refine ⟨_, rfl, Below.refl _ _, fun L ρ => ?_⟩
  show Value.int _ _ = Value.int _ _
  rw [show ((b.toNat : Int).toNat.toUInt8) = b by simp]
theorem indexByte_lt : ∀ (l : List UInt8) (b : UInt8), Lib.indexByte l b < l.length
 | [], b => by show (-1 : Int) < 0; decide
 | c :: l, b => by
  unfold Lib.indexByte
  have := indexByte_lt l b
  have h := Lib.indexByte_ge l b
  rw [List.length_cons]
  split
  ·omega
  ·split <;> omega
theorem Index1_con (l : List UInt8) (b : UInt8) (hl : l.length ≤ 1000000000) : ConF (D := Dm) Tryz.prog 169 [.v (str l), .v (str [b])] (.one (.v (.int .i64 (Lib.indexByte l b)))) := by
 refine ConF.of (n := 143) Tryz.func169 rfl rfl rfl rfl rfl fun cx hB => ?_
 refine sr rfl ?_
 refine mr rfl rfl bd rfl ?_
 refine RV.done (sr rfl ?_)
 refine ml rfl rfl bd rfl ?_
 refine p1 (ok_lenT rfl u_str rfl rfl bd rfl) ?_
 refine mr rfl rfl bd rfl ?_
 refine RV.done ?_
 refine CV.seq ?_
 refine CV.block ?_
 refine sr rfl ?_
 refine ml rfl rfl bd rfl ?_
 refine p1 (ok_eql rfl rfl bd rfl rfl) ?_
 refine ml rfl rfl bd rfl ?_
 refine RV.bool (fun hb => False.elim (by simp at hb)) (fun hb => ?_)
 refine RV.step1 (OpOk.yes (ok_move (.inl rfl) rfl bd rfl) rfl rfl rfl) ?_
 refine RV.step1 (OpOk.yes (ok_move (.inl rfl) rfl bd rfl) rfl rfl rfl) ?_
 refine RV.step1 (OpOk.yes (ok_eqT (b := [b] == l) rfl rfl rfl bd rfl rfl) rfl rfl rfl) ?_
 refine p1 (ok_pickF rfl rfl bd rfl rfl rfl) ?_
 refine mr rfl rfl bd rfl ?_
 refine RV.done ?_
 refine CV.cond rfl (fun he => ?_) (fun he => ?_)
 ·refine sr rfl ?_
  refine mr rfl rfl bd rfl ?_
  refine RV.done ?_
  refine CV.ret ?_
  have e : [b] = l := by simpa using he
  exact fin1 rfl (.inr rfl) rfl (is_num (by rw [← e]; show 0 = if (b == b) = true then _ else _; rw [if_pos (beq_self_eq_true b)]))
 ·refine sr rfl ?_
  refine ml rfl rfl bd rfl ?_
  refine p1 (ok_eql rfl rfl bd rfl rfl) ?_
  refine mr rfl rfl bd rfl ?_
  refine RV.done ?_
  refine CV.cond rfl (fun hc => ?_) (fun hc => False.elim (by simp at hc))
  refine sr rfl ?_
  refine ml rfl rfl bd rfl ?_
  refine ml rfl rfl bd rfl ?_
  refine p1 (ok_idxT (u := [b]) (i := 0) (by show 0 < 1; decide) u_str rfl rfl bd rfl rfl) ?_
  refine p1 (ok_callF (IndexByte_con l b) rfl rfl bd Tryz.func182 rfl rfl (.cons rfl Conv.any (.cons rfl Conv.any .nil)) rfl) ?_
  refine mr rfl rfl bd rfl ?_
  refine RV.done ?_
  refine CV.ret ?_
  exact fin1 rfl (.inr rfl) rfl (is_num rfl)
def cutB (l : List UInt8) (b : UInt8) : List UInt8 × List UInt8 × Bool :=
 if Lib.indexByte l b < 0 then (l, [], false) else (l.take (Lib.indexByte l b).toNat, l.drop ((Lib.indexByte l b).toNat + 1), true)
theorem LCut_con (l : List UInt8) (b : UInt8) (hl : l.length ≤ 1000000000) : ConF (D := Dm) Tryz.prog 148 [.v (str l), .v (str [b])] (.tup [.v (str (cutB l b).1), .v (str (cutB l b).2.1), .v (.bool (cutB l b).2.2)]) := by
 have hlt := indexByte_lt l b
 refine ConF.of (n := 23) Tryz.func148 rfl rfl rfl rfl rfl fun cx hB => ?_
 refine sr rfl ?_
 refine mr rfl rfl bd rfl ?_
 refine mr rfl rfl bd rfl ?_
 refine mr rfl rfl bd rfl ?_
 refine RV.done ?_
 refine CV.seq ?_
 refine sr rfl ?_
 refine ml rfl rfl bd rfl ?_
 refine ml rfl rfl bd rfl ?_
 refine p1 (ok_callF (Index1_con l b hl) rfl rfl bd Tryz.func169 rfl rfl (.cons rfl Conv.any (.cons rfl Conv.any .nil)) rfl) ?_
 refine mr rfl rfl bd rfl ?_
 refine RV.done (sr rfl ?_)
 refine ml rfl rfl bd rfl ?_
 refine p1 (ok_geq rfl rfl bd rfl rfl) ?_
 refine RV.done ?_
 refine CV.cond rfl (fun hc => ?_) (fun hc => ?_)
 ·refine CV.seq ?_
  have hn : ¬ Lib.indexByte l b < 0 := by have : 0 ≤ Lib.indexByte l b := (by simpa using hc) ; omega
  have hm : ((Lib.indexByte l b).toNat : Int) = Lib.indexByte l b := Int.toNat_of_nonneg (by omega)
  refine CV.region rfl (fun _ => by kernel_rfl) ?_
  refine ml rfl rfl bd rfl ?_
  refine ml rfl rfl bd rfl ?_
  refine p1 (ok_cutT (v := (cutB l b).1) none (some (Lib.indexByte l b).toNat) (by unfold cutB; rw [if_neg hn]; show (l.take _).drop 0 = _; rw [List.drop_zero]; rfl) (Nat.zero_le _) (by show (Lib.indexByte l b).toNat ≤ l.length; omega) u_str rfl rfl bd rfl trivial (by show opd _ _ = _; rw [hm]; rfl)) ?_
  refine ml rfl rfl bd rfl ?_
  refine ml rfl rfl bd rfl ?_
  refine ml rfl rfl bd rfl ?_
  refine p1 (ok_lenT rfl u_str rfl rfl bd rfl) ?_
  refine p1 (ok_add (c := (((Lib.indexByte l b).toNat + 1 : Nat) : Int)) (by rw [show (([b] : List UInt8).length : Int) = 1 from rfl, wrapI (by omega) (by omega)]; omega) rfl rfl bd rfl rfl) ?_
  refine p1 (ok_cutT (v := (cutB l b).2.1) (some ((Lib.indexByte l b).toNat + 1)) none (by unfold cutB; rw [if_neg hn]; show (l.take l.length).drop ((Lib.indexByte l b).toNat + 1) = _; rw [List.take_length]) (by show (Lib.indexByte l b).toNat + 1 ≤ l.length; omega) (Nat.le_refl _) u_str rfl rfl bd rfl rfl trivial) ?_
  refine mr rfl rfl bd rfl ?_
  refine mr rfl rfl bd rfl ?_
  refine mr rfl rfl bd rfl ?_
  refine RV.drawn (by kernel_rfl) ?_
  refine CV.ret ?_
  exact fin3 (s3 := .v (.bool true)) rfl (.inr rfl) rfl rfl rfl (is_tup (by unfold cutB; rw [if_neg hn]))
 ·refine CV.skip ?_
  refine sr rfl ?_
  refine ml rfl rfl bd rfl ?_
  refine mr rfl rfl bd rfl ?_
  refine mr rfl rfl bd rfl ?_
  refine mr rfl rfl bd rfl ?_
  refine RV.done ?_
  refine CV.ret ?_
  have hn : Lib.indexByte l b < 0 := (by simpa using hc)
  exact fin3 (s := .v (str l)) (s' := .v (str [])) (s3 := .v (.bool false)) rfl (.inr rfl) rfl rfl rfl (is_tup (by unfold cutB; rw [if_pos hn]))
theorem Cut_con (l : List UInt8) (b : UInt8) (hl : l.length ≤ 1000000000) : ConF (D := Dm) Tryz.prog 120 [.v (str l), .v (str [b])] (.tup [.v (str (cutB l b).1), .v (str (cutB l b).2.1), .v (.bool (cutB l b).2.2)]) := by
 refine ConF.of (n := 13) Tryz.func120 rfl rfl rfl rfl rfl fun cx hB => ?_
 refine sr rfl ?_
 refine mr rfl rfl bd rfl ?_
 refine mr rfl rfl bd rfl ?_
 refine mr rfl rfl bd rfl ?_
 refine RV.done (sr rfl ?_)
 refine ml rfl rfl bd rfl ?_
 refine ml rfl rfl bd rfl ?_
 refine p1 (ok_callF (LCut_con l b hl) rfl rfl bd Tryz.func148 rfl rfl (.cons rfl Conv.any (.cons rfl Conv.any .nil)) rfl) ?_
 refine p1 (ok_extract rfl rfl bd rfl rfl) ?_
 refine p1 (ok_extract rfl rfl bd rfl rfl) ?_
 refine p1 (ok_extract rfl rfl bd rfl rfl) ?_
 refine mr rfl rfl bd rfl ?_
 refine mr rfl rfl bd rfl ?_
 refine mr rfl rfl bd rfl ?_
 refine RV.done ?_
 refine CV.ret ?_
 exact fin3 rfl (.inr rfl) rfl rfl rfl (is_tup rfl)

def parseQ (l : List UInt8) : Int × Int × Int :=
 if 65536 < l.length then (0, 0, 4) else
 if (parseI (cutB l 47).1).2 ≠ 0 ∨ (cutB l 47).2.2 = false then ((parseI (cutB l 47).1).1, 0, (parseI (cutB l 47).1).2) else
 if (parseI (cutB l 47).2.1).2 ≠ 0 ∨ ¬ ((parseI (cutB l 47).2.1).1 ≠ 0 ∧ 0 ≤ (parseI (cutB l 47).2.1).1 ∧ (parseI (cutB l 47).2.1).1 ≠ 1 ∧ Int.gcd (parseI (cutB l 47).1).1 (parseI (cutB l 47).2.1).1 = 1) then (0, 0, 2)
 else ((parseI (cutB l 47).1).1, (parseI (cutB l 47).2.1).1, 0)
theorem is_rt2 {p q p' q' z z' : Int} {k k' : Nat} (h1 : p = p') (h2 : q = q') (h3 : z = z') (hk : k ≤ k') : ∀ L ρ w v, (AV.tup [.d (Dm.rt p q k), .v (.int .i64 z)]).is L ρ w v → (AV.tup [.d (Dm.rt p' q' k'), .v (.int .i64 z')]).is L ρ w v := by
 subst h1 h2 h3
 exact is_pair (is_rt rfl rfl hk) (fun _ _ _ _ h => h)
theorem RParse_con (l : List UInt8) : Con (D := Dm) Tryz.prog 68 [.v (str l)] (.tup [.d (Dm.rt (parseQ l).1 (parseQ l).2.1 7300), .v (.int .i64 (parseQ l).2.2)]) := by
 refine Con.of (n := 56) Tryz.func68 rfl rfl rfl rfl rfl fun cx hfr => ?_
 refine sr rfl ?_
 refine p2 (ok_alloc (i := 0) rfl rfl bd zero_rat rfl rfl rfl rfl) ?_
 refine mr rfl rfl bd rfl ?_
 refine RV.done ?_
 refine CV.seq ?_
 refine sr rfl ?_
 refine ml rfl rfl bd rfl ?_
 refine p1 (ok_lenT rfl u_str rfl rfl bd rfl) ?_
 refine p1 (ok_gtr rfl rfl bd rfl rfl) ?_
 refine RV.done ?_
 refine CV.cond rfl (fun h0 => ?_) (fun h0 => ?_)
 ·refine sr rfl ?_
  refine p1 (ok_build0 rfl rfl bd) ?_
  refine p1 (ok_store rfl rfl rfl rfl rfl rfl rfl (ty_rat).2 rfl rfl rfl rfl) ?_
  refine mr rfl rfl bd rfl ?_
  refine RV.done ?_
  refine CV.ret ?_
  exact fin2 rfl (.inr rfl) ⟨_, _, _, _, _, rfl, rfl, rfl, ty_rat⟩ rfl (is_rt2 (by unfold parseQ; rw [if_pos (by simp at h0; omega)]) (by unfold parseQ; rw [if_pos (by simp at h0; omega)]) (by unfold parseQ; rw [if_pos (by simp at h0; omega)]) (by omega))
 ·refine CV.skip ?_
  refine sr rfl ?_
  refine ml rfl rfl bd rfl ?_
  refine p1 (ok_callF (Cut_con l 47 (by simp at h0; omega)) rfl rfl bd Tryz.func120 rfl rfl (.cons rfl Conv.any (.cons rfl Conv.any .nil)) rfl) ?_
  refine ml rfl rfl bd rfl ?_
  refine p1 (ok_extract rfl rfl bd rfl rfl) ?_
  refine p1 (ok_extract rfl rfl bd rfl rfl) ?_
  refine p1 (ok_extract rfl rfl bd rfl rfl) ?_
  refine mr rfl rfl bd rfl ?_
  refine mr rfl rfl bd rfl ?_
  refine mr rfl rfl bd rfl ?_
  refine RV.done (sr rfl ?_)
  refine ml rfl rfl bd rfl ?_
  refine p1 (ok_call (Parse_con _) rfl rfl bd Tryz.func11 rfl rfl (.cons rfl Conv.any .nil) rfl hfr rfl) ?_
  refine ml rfl rfl bd rfl ?_
  refine p1 (ok_extract rfl rfl bd rfl rfl) ?_
  refine p1 (ok_extract rfl rfl bd rfl rfl) ?_
  refine p2 (ok_alloc (i := 1) rfl rfl bd zero_int rfl rfl rfl rfl) ?_
  refine p1 (ok_store rfl rfl rfl rfl rfl rfl rfl (ty_int).2 rfl rfl rfl rfl) ?_
  refine mr rfl rfl bd rfl ?_
  refine RV.done ?_
  refine CV.seq ?_
  refine sr rfl ?_
  refine ml rfl rfl bd rfl ?_
  refine p1 (ok_neq rfl rfl bd rfl rfl) ?_
  refine ml rfl rfl bd rfl ?_
  refine RV.bool (fun h1 => ?_) (fun h1 => ?_)
  ·refine RV.step1 (OpOk.skip rfl rfl rfl rfl rfl bd) ?_
   refine RV.step1 (OpOk.skip rfl rfl rfl rfl rfl bd) ?_
   refine p1 (ok_pickT rfl rfl bd rfl rfl rfl) ?_
   refine RV.done ?_
   refine CV.yes rfl ?_
   refine sr rfl ?_
   refine p1 (ok_load rfl rfl bd rfl rfl rfl ty_int) ?_
   refine p1 (ok_build1 rfl rfl bd rfl) ?_
   refine ml rfl rfl bd rfl ?_
   refine p1 (ok_store rfl rfl rfl rfl rfl rfl rfl (ty_rat).2 rfl rfl rfl rfl) ?_
   refine mr rfl rfl bd rfl ?_
   refine RV.done ?_
   refine CV.ret ?_
   have q : parseQ l = ((parseI (cutB l 47).1).1, 0, (parseI (cutB l 47).1).2) := (by unfold parseQ; rw [if_neg (by simp at h0; omega), if_pos (.inl (by simpa using h1))])
   rw [q]
   exact fin2 rfl (.inr rfl) ⟨_, _, _, _, _, rfl, rfl, rfl, ty_rat⟩ rfl (is_rt2 rfl rfl rfl (by omega))
  ·refine RV.step1 (OpOk.yes (ok_move (.inl rfl) rfl bd rfl) rfl rfl rfl) ?_
   refine RV.step1 (OpOk.yes (ok_not rfl rfl bd rfl) rfl rfl rfl) ?_
   refine p1 (ok_pickF rfl rfl bd rfl rfl rfl) ?_
   refine RV.done ?_
   refine CV.cond rfl (fun h2 => ?_) (fun h2 => ?_)
   ·refine sr rfl ?_
    refine p1 (ok_load rfl rfl bd rfl rfl rfl ty_int) ?_
    refine p1 (ok_build1 rfl rfl bd rfl) ?_
    refine ml rfl rfl bd rfl ?_
    refine p1 (ok_store rfl rfl rfl rfl rfl rfl rfl (ty_rat).2 rfl rfl rfl rfl) ?_
    refine mr rfl rfl bd rfl ?_
    refine RV.done ?_
    refine CV.ret ?_
    have q : parseQ l = ((parseI (cutB l 47).1).1, 0, (parseI (cutB l 47).1).2) := (by unfold parseQ; rw [if_neg (by simp at h0; omega), if_pos (.inr (by simpa using h2))])
    rw [q]
    exact fin2 rfl (.inr rfl) ⟨_, _, _, _, _, rfl, rfl, rfl, ty_rat⟩ rfl (is_rt2 rfl rfl rfl (by omega))
   ·refine CV.skip ?_
    refine sr rfl ?_
    refine ml rfl rfl bd rfl ?_
    refine p1 (ok_call (Parse_con _) rfl rfl bd Tryz.func11 rfl rfl (.cons rfl Conv.any .nil) rfl hfr rfl) ?_
    refine ml rfl rfl bd rfl ?_
    refine p1 (ok_extract rfl rfl bd rfl rfl) ?_
    refine p1 (ok_extract rfl rfl bd rfl rfl) ?_
    refine p2 (ok_alloc (i := 2) rfl rfl bd zero_int rfl rfl rfl rfl) ?_
    refine p1 (ok_store rfl rfl rfl rfl rfl rfl rfl (ty_int).2 rfl rfl rfl rfl) ?_
    refine mr rfl rfl bd rfl ?_
    refine RV.done (sr rfl ?_)
    refine p1 (ok_load rfl rfl bd rfl rfl rfl ty_int) ?_
    refine p1 (ok_load rfl rfl bd rfl rfl rfl ty_int) ?_
    refine p1 (ok_build2 rfl rfl bd rfl rfl) ?_
    refine p2 (ok_alloc (i := 3) rfl rfl bd zero_rat rfl rfl rfl rfl) ?_
    refine p1 (ok_store rfl rfl rfl rfl rfl rfl rfl (ty_rat).2 rfl rfl rfl rfl) ?_
    refine RV.done ?_
    refine CV.seq ?_
    refine sr rfl ?_
    refine ml rfl rfl bd rfl ?_
    refine p1 (ok_neq rfl rfl bd rfl rfl) ?_
    refine ml rfl rfl bd rfl ?_
    refine RV.bool (fun h3 => ?_) (fun h3 => ?_)
    ·refine RV.step1 (OpOk.skip rfl rfl rfl rfl rfl bd) ?_
     refine RV.step1 (OpOk.skip rfl rfl rfl rfl rfl bd) ?_
     refine p1 (ok_pickT rfl rfl bd rfl rfl rfl) ?_
     refine ml rfl rfl bd rfl ?_
     refine RV.step1 (OpOk.skip rfl rfl rfl rfl rfl bd) ?_
     refine RV.step1 (OpOk.skip rfl rfl rfl rfl rfl bd) ?_
     refine RV.step1 (OpOk.skip rfl rfl rfl rfl rfl bd) ?_
     refine p1 (ok_pickT rfl rfl bd rfl rfl rfl) ?_
     refine RV.done ?_
     refine CV.yes rfl ?_
     refine sr rfl ?_
     refine p1 (ok_build0 rfl rfl bd) ?_
     refine p1 (ok_store rfl rfl rfl rfl rfl rfl rfl (ty_rat).2 rfl rfl rfl rfl) ?_
     refine mr rfl rfl bd rfl ?_
     refine RV.done ?_
     refine CV.ret ?_
     have q : parseQ l = (0, 0, 2) := (by unfold parseQ; rw [if_neg (by simp at h0; omega), if_neg (by simp at h1 h2; simp [h1, h2]), if_pos (.inl (by simpa using h3))])
     rw [q]
     exact fin2 rfl (.inr rfl) ⟨_, _, _, _, _, rfl, rfl, rfl, ty_rat⟩ rfl (is_rt2 rfl rfl rfl (by omega))
    ·refine RV.step1 (OpOk.yes (ok_load rfl rfl bd rfl rfl rfl ty_rat) rfl rfl rfl) ?_
     refine RV.step1 (OpOk.yes (ok_call (isWhole_con _ _ _) rfl rfl bd Tryz.func105 rfl rfl (.cons rfl Conv.any .nil) rfl hfr rfl) rfl rfl rfl) ?_
     refine p1 (ok_pickF rfl rfl bd rfl rfl rfl) ?_
     refine ml rfl rfl bd rfl ?_
     refine RV.bool (fun h4 => ?_) (fun h4 => ?_)
     ·refine RV.step1 (OpOk.skip rfl rfl rfl rfl rfl bd) ?_
      refine RV.step1 (OpOk.skip rfl rfl rfl rfl rfl bd) ?_
      refine RV.step1 (OpOk.skip rfl rfl rfl rfl rfl bd) ?_
      refine p1 (ok_pickT rfl rfl bd rfl rfl rfl) ?_
      refine RV.done ?_
      refine CV.yes rfl ?_
      refine sr rfl ?_
      refine p1 (ok_build0 rfl rfl bd) ?_
      refine p1 (ok_store rfl rfl rfl rfl rfl rfl rfl (ty_rat).2 rfl rfl rfl rfl) ?_
      refine mr rfl rfl bd rfl ?_
      refine RV.done ?_
      refine CV.ret ?_
      have q : parseQ l = (0, 0, 2) := (by unfold parseQ; rw [if_neg (by simp at h0; omega), if_neg (by simp at h1 h2; simp [h1, h2]), if_pos (.inr (by simp at h4; simp [h4]))])
      rw [q]
      exact fin2 rfl (.inr rfl) ⟨_, _, _, _, _, rfl, rfl, rfl, ty_rat⟩ rfl (is_rt2 rfl rfl rfl (by omega))
     ·refine RV.step1 (OpOk.yes (ok_load rfl rfl bd rfl rfl rfl ty_rat) rfl rfl rfl) ?_
      refine RV.step1 (OpOk.yes (ok_call (RValidG_con _ _ _ (by omega)) rfl rfl bd Tryz.func30 rfl rfl (.cons rfl Conv.any .nil) rfl hfr rfl) rfl rfl rfl) ?_
      refine RV.step1 (OpOk.yes (ok_not rfl rfl bd rfl) rfl rfl rfl) ?_
      refine p1 (ok_pickF rfl rfl bd rfl rfl rfl) ?_
      refine RV.done ?_
      refine CV.cond rfl (fun h5 => ?_) (fun h5 => ?_)
      ·refine sr rfl ?_
       refine p1 (ok_build0 rfl rfl bd) ?_
       refine p1 (ok_store rfl rfl rfl rfl rfl rfl rfl (ty_rat).2 rfl rfl rfl rfl) ?_
       refine mr rfl rfl bd rfl ?_
       refine RV.done ?_
       refine CV.ret ?_
       have q : parseQ l = (0, 0, 2) := (by unfold parseQ; rw [if_neg (by simp at h0; omega), if_neg (by simp at h1 h2; simp [h1, h2]), if_pos (.inr (fun h => by simp at h5; rcases h5.2 with k | k | k; exact absurd h.2.1 (by omega); exact h.2.2.1 k; exact k h.2.2.2))])
       rw [q]
       exact fin2 rfl (.inr rfl) ⟨_, _, _, _, _, rfl, rfl, rfl, ty_rat⟩ rfl (is_rt2 rfl rfl rfl (by omega))
      ·refine CV.skip ?_
       refine sr rfl ?_
       refine p1 (ok_load rfl rfl bd rfl rfl rfl ty_rat) ?_
       refine p1 (ok_store rfl rfl rfl rfl rfl rfl rfl (ty_rat).2 rfl rfl rfl rfl) ?_
       refine mr rfl rfl bd rfl ?_
       refine RV.done ?_
       refine CV.ret ?_
       have q : parseQ l = ((parseI (cutB l 47).1).1, (parseI (cutB l 47).2.1).1, 0) := (by simp at h0 h1 h2 h3 h4 h5; unfold parseQ; rw [if_neg (by omega), if_neg (by simp [h1, h2]), if_neg (by exact not_or.2 ⟨fun k => k h3, fun k => k ⟨h4, h5 h4⟩⟩)])
       rw [q]
       exact fin2 rfl (.inr rfl) ⟨_, _, _, _, _, rfl, rfl, rfl, ty_rat⟩ rfl (is_rt2 rfl rfl rfl (by omega))
theorem RTextW_con (a : Rat) (k : Nat) (hk : k ≤ 1000000000) (h : qd a = 0) : Con Tryz.prog 67 [RT a k] (.one (.v (str (txtI a.num)))) := by
 refine Con.of (n := 16) Tryz.func67 rfl rfl rfl rfl rfl fun cx hfr => ?_
 refine sr rfl ?_
 refine p2 (ok_box (i := 0) rfl rfl bd rfl rfl rfl rfl rfl) ?_
 refine mr rfl rfl bd rfl ?_
 refine RV.done ?_
 refine CV.seq ?_
 refine sr rfl ?_
 refine p1 (ok_load rfl rfl bd rfl rfl rfl ty_rat) ?_
 refine p1 (ok_call (isWhole_con _ _ _) rfl rfl bd Tryz.func105 rfl rfl (.cons rfl Conv.any .nil) rfl hfr rfl) ?_
 refine RV.done ?_
 refine CV.cond rfl (fun hc => ?_) (fun hc => False.elim (by simp at hc; exact hc h))
 refine sr rfl ?_
 refine p1 (ok_fieldAddr fa_rat0 rfl rfl bd rfl) ?_
 refine p1 (ok_loadf 0 fld_num rfl rfl bd rfl rfl rfl rfl ty_int) ?_
 refine p1 (ok_call (Text_con _ _ hk) rfl rfl bd Tryz.func10 rfl rfl (.cons rfl Conv.any .nil) rfl hfr rfl) ?_
 refine mr rfl rfl bd rfl ?_
 refine RV.done ?_
 refine CV.ret ?_
 exact fin1 rfl (.inr rfl) rfl (is_of rfl)
theorem RTextF_con (a : Rat) (k : Nat) (hk : k ≤ 1000000000) (hs : (txtI a.num).length ≤ 1000000000) (ht : (txtI (qd a)).length ≤ 1000000000) (h : qd a ≠ 0) : Con Tryz.prog 67 [RT a k] (.one (.v (str (txtI a.num ++ 47 :: txtI (qd a))))) := by
 refine Con.of (n := 16) Tryz.func67 rfl rfl rfl rfl rfl fun cx hfr => ?_
 refine sr rfl ?_
 refine p2 (ok_box (i := 0) rfl rfl bd rfl rfl rfl rfl rfl) ?_
 refine mr rfl rfl bd rfl ?_
 refine RV.done ?_
 refine CV.seq ?_
 refine sr rfl ?_
 refine p1 (ok_load rfl rfl bd rfl rfl rfl ty_rat) ?_
 refine p1 (ok_call (isWhole_con _ _ _) rfl rfl bd Tryz.func105 rfl rfl (.cons rfl Conv.any .nil) rfl hfr rfl) ?_
 refine RV.done ?_
 refine CV.cond rfl (fun hc => False.elim (by simp at hc; exact h hc)) (fun hc => ?_)
 refine CV.skip ?_
 refine CV.seq ?_
 refine CV.region rfl (fun _ => by kernel_rfl) ?_
 refine p1 (ok_fieldAddr fa_rat0 rfl rfl bd rfl) ?_
 refine p1 (ok_loadf 0 fld_num rfl rfl bd rfl rfl rfl rfl ty_int) ?_
 refine p1 (ok_call (Text_con _ _ hk) rfl rfl bd Tryz.func10 rfl rfl (.cons rfl Conv.any .nil) rfl hfr rfl) ?_
 refine p1 (ok_catT (v := [47]) (by show _ + 1 ≤ _; omega) rfl rfl bd rfl rfl) ?_
 refine p1 (ok_fieldAddr fa_rat1 rfl rfl bd rfl) ?_
 refine p1 (ok_loadf 2 fld_den rfl rfl bd rfl rfl rfl rfl ty_int) ?_
 refine p1 (ok_call (Text_con _ _ hk) rfl rfl bd Tryz.func10 rfl rfl (.cons rfl Conv.any .nil) rfl hfr rfl) ?_
 refine p1 (ok_catT (by rw [List.length_append, show ([47] : List UInt8).length = 1 from rfl]; omega) rfl rfl bd rfl rfl) ?_
 refine mr rfl rfl bd rfl ?_
 refine RV.drawn (by kernel_rfl) ?_
 refine CV.ret ?_
 exact fin1 rfl (.inr rfl) rfl (is_of (by rw [List.append_assoc]; rfl))
set_option linter.unusedSectionVars false

/-! Rows of numbers. -/
def ziV (k : IntKind) (zs : List Int) : List (SA Dm) := zs.map fun z => .v (.int k z)
abbrev ZI (k : IntKind) (zs : List Int) : SA Dm := .d (Dm.gen (lstG none (ziV k zs)))
theorem ziV_length {k : IntKind} (l : List Int) : (ziV k l).length = l.length := by simp [ziV]
theorem ziV_ptrs {k : IntKind} (l : List Int) : (ziV k l).flatMap SA.ptrs = [] := by
 rw [List.flatMap_eq_nil_iff]
 intro s hs
 obtain ⟨b, _, rfl⟩ := List.mem_map.1 hs
 rfl
theorem ziV_vals {k : IntKind} (l : List Int) : ∀ s ∈ ziV k l, isV s = true := by
 intro s hs
 obtain ⟨b, _, rfl⟩ := List.mem_map.1 hs
 rfl
theorem ziV_plain (l : List Int) : ∀ s ∈ ziV .u8 l, s.plain = true := by
 intro s hs
 obtain ⟨b, _, rfl⟩ := List.mem_map.1 hs
 rfl
theorem ziV_at {k : IntKind} {l : List Int} {i : Nat} (h : i < l.length) : (ziV k l)[i]? = some (.v (.int k (l.getD i 0))) := by
 simp [ziV, List.getElem?_eq_getElem h, List.getD_eq_getElem?_getD]
theorem ziV_append {k : IntKind} (l m : List Int) : ziV k l ++ ziV k m = ziV k (l ++ m) := by simp [ziV]
theorem ziV_take {k : IntKind} (l : List Int) (n : Nat) : (ziV k l).take n = ziV k (l.take n) := by simp [ziV, List.map_take]
theorem ziV_drop {k : IntKind} (l : List Int) (n : Nat) : (ziV k l).drop n = ziV k (l.drop n) := by simp [ziV, List.map_drop]
theorem ziV_ats {k : IntKind} {w : World} : ∀ {l : List Int}, Ats w none (ziV k l) (l.map (Value.int k))
 | [] => rfl
 | b :: l => ⟨[_], l.map (Value.int k), _, rfl, ⟨rfl, rfl⟩, rfl, ziV_ats⟩
theorem ziV_ats' {k : IntKind} {w : World} : ∀ {l : List Int} {cs : List Value}, Ats w none (ziV k l) cs → cs = l.map (Value.int k)
 | [], _, h => h
 | b :: l, _, ⟨p, r, v, h1, h2, h3, h4⟩ => by
  have e1 : p = [v] := h2.1
  have e2 : v = .int k b := h3
  rw [h1, e1, e2, ziV_ats' h4]
  rfl
theorem ziV_chs {k : IntKind} {L : Nat → Prop} {ρ : Rho} {w : World} {l : List Int} : Chs L ρ w (rch none (ziV k l)) (l.map (Value.int k)) := Ats.chs fun _ _ => ziV_ats
theorem zi_row {k : IntKind} {L : Nat → Prop} {ρ : Rho} {w : World} {v : Value} {zs : List Int} (h : (ZI k zs).is L ρ w v) : Row k w v zs := by
 obtain ⟨ao, cap, rfl, hc, h1⟩ := lst_open (by decide) h
 rw [ziV_length] at hc h1 ⊢
 refine ⟨ao, cap, rfl, hc.1, hc.2, fun hl => ?_⟩
 obtain ⟨b, off, e, _, cs, h2, h3⟩ := h1 hl
 obtain rfl := ziV_ats' (h2 w (Agree.refl _ _))
 exact ⟨b, off, e, fun i hi => h3 i _ (by rw [List.getElem?_map, List.getElem?_eq_getElem hi, List.getD_eq_getElem?_getD, List.getElem?_eq_getElem hi]; rfl)⟩
theorem row_at {k : IntKind} {w : World} {v : Value} {zs : List Int} (h : Row k w v zs) : (lstG none (ziV k zs)).is w v := by
 obtain ⟨ao, cap, rfl, h1, h2, h3⟩ := h
 refine ⟨ao, cap, by rw [ziV_length], ⟨by rw [ziV_length]; exact h1, h2⟩, fun hl => ?_⟩
 rw [ziV_length] at hl
 obtain ⟨b, off, rfl, h4⟩ := h3 hl
 refine ⟨b, off, rfl, _, ziV_ats, fun j u hj => ?_⟩
 rw [List.getElem?_map] at hj
 obtain ⟨z, hz, rfl⟩ := Option.map_eq_some_iff.1 hj
 rw [h4 j (List.getElem?_eq_some_iff.1 hz).1, List.getD_eq_getElem?_getD, hz]
 rfl
theorem nums_elems (m : Nat) : Elems (SA.d (Dm.nums m)) none (ziV .i64 ((dig m).map Int.ofNat)) := by
 refine ⟨rfl, ziV_ptrs _, fun L ρ w v h => ?_⟩
 obtain ⟨ao, cap, rfl, h1, h2, h3⟩ := h w (Agree.refl _ _)
 refine ⟨ao, cap, by rw [ziV_length, List.length_map], fun hl => ?_⟩
 rw [ziV_length, List.length_map] at hl
 obtain ⟨b, off, e, h4⟩ := h3 hl
 refine ⟨b, off, e, _, fun j u hj => ?_, ziV_chs⟩
 rw [List.getElem?_map, List.getElem?_map] at hj
 obtain ⟨z, hz, rfl⟩ := Option.map_eq_some_iff.1 hj
 obtain ⟨y, hy, rfl⟩ := Option.map_eq_some_iff.1 hz
 rw [h4 j (List.getElem?_eq_some_iff.1 hy).1, List.getD_eq_getElem?_getD, hy]
 rfl

/-! Functions that return a new row. -/
section
variable {D : Type} [Dom D] {P : Program} {cx : Cx D} {n : Nat} {σ : St D} {o : Oper}
theorem ok_litN {d r : Nat} {ty e : TypeId} {z : Value} {sz : Nat} {k : Option Nat} {xs : List Operand} {ss : List (SA D)} (hu : P.underlying ty = some (.slice e)) (hsz : (P.info? e).map (fun i => (i.size, i.zero)) = some (sz, some z)) (hs : sz = k.getD 1) (hs0 : Nat.blt 0 sz = true) (hsm : Nat.ble (ss.length * sz) 1000 = true)
  (hk : ∀ s ∈ ss, s.kind = some k) (hpt : ss.flatMap SA.ptrs = []) (ho : o.op = .buildSlice ty ss.length ((xs.zipIdx 0).map fun p => (p.2, p.1)).toArray) (hd : o.dst = some d) (hn : d < n) (hargs : ArgsOk σ xs ss) (hr : σ (.b r) = .no) (hkp : kpB (σ KP) = true) (hrK : Nat.beq r 1000000 = false) :
  OpOk P cx n σ o (xs.flatMap opk) [(.s d, .av (.one (.sl r ss.length))), (.b r, .row e k ss), (KP, .np (r :: npL (σ KP)))] := by
 intro σ' a w Q ⟨ρ, h⟩ h1 h2 K hK
 have hKP := h2 KP (by simp [keys])
 have hrK1 : r ≠ 1000000 := fun e => by subst e; cases hrK
 have hargs' : ArgsOk σ' xs ss := hargs.same h1
 obtain ⟨cs, hrun, hc⟩ := lit_run h hu hsz hs hs0 hsm hk ho hargs'
 unfold Oper.wp
 rw [hrun, Oper.upon_value, hd]
 have hk := h.kp (q := .np (r :: npL (σ KP))) (by rw [hKP]; exact hkp) rfl (fun _ => by simp) (fun i T k l _ hi q => hi (by rw [hKP] at q; exact List.mem_cons_of_mem _ q))
 have hr0 : σ' (.b r) = .no := (h2 (.b r) (by simp [keys])).trans hr
 have hKr : Key.b r ≠ KP := by simpa [KP] using hrK1
 obtain ⟨σ1, hσ1⟩ : ∃ σ1, σ1 = upd σ' [(KP, .np (r :: npL (σ KP)))] := ⟨_, rfl⟩
 rw [← hσ1] at hk
 have hk1 : σ1 (.b r) = .no := by rw [hσ1, upd1_ne hKr]; exact hr0
 have hkK : σ1 KP = .np (r :: npL (σ KP)) := by rw [hσ1]; exact upd1
 have hml : ss.length ≤ maxLen := by
  have h0 : 0 < sz := by rwa [Nat.blt_eq] at hs0
  have h1 := Nat.le_of_ble_eq_true hsm
  have h2 := Nat.le_mul_of_pos_right ss.length h0
  unfold maxLen; omega
 have hc' : Chs (fun _ => False) ρ w (rch k ss) cs ∨ True := .inr trivial
 have hL : ∀ b, Lof cx σ1 ρ b → Lof cx σ' ρ b ∨ True := fun _ _ => .inr trivial
 have hnew := hk.new (d := d) (i := r) (g := w.heap.size) (c := ss.length) (av := .one (.sl r ss.length)) (x := .row e k ss) (v := .slice (some ⟨w.heap.size, 0, none⟩) ss.length ss.length) ((Below.refl _ _).alloc (Nat.le_refl _) (.cells cs.toArray e)) hn hk1 hrK1 (by simp) (Nat.le_refl _) (fun ρ' hρ => ⟨some ⟨w.heap.size, 0, none⟩, by rw [hρ], fun _ => by rw [hρ]⟩) (fun b hb => by simpa [AV.ptrs, SA.ptrs] using hb)
  (fun T ch e => by cases e) (fun T1 k1 l1 e => by
   injection e with e1 e2 e3
   subst e1; subst e2; subst e3
   refine ⟨⟨Nat.le_refl _, hml, hpt⟩, fun _ => ⟨cs, [], by rw [List.append_nil]; exact RowC.mk0 (heap_alloc_new w _), ?_, by rw [List.append_nil, hc.length], fun q => absurd (by rw [hkK]; exact List.mem_cons_self) q⟩⟩
   refine hc.go (Goes.less fun b hb => ?_) (by rw [rch_ptrs, hpt]; intro b hb; cases hb)
   rcases hb with hb | ⟨i, hi, rfl⟩
   ·exact .inl hb
   ·refine .inr ⟨i, ?_, rfl⟩
    rcases live_some hi with ⟨T, ch, e⟩ | ⟨T, k, l, e, hcap⟩
    ·by_cases e2 : i = 1000000
     ·subst e2; exact absurd (hkK.symm.trans e) (by simp)
     ·rw [hσ1, upd1_ne (by simpa [KP] using e2)] at e; exact live_blk e
    ·by_cases e2 : i = 1000000
     ·subst e2; exact absurd (hkK.symm.trans e) (by simp)
     ·rw [hσ1, upd1_ne (by simpa [KP] using e2)] at e; exact (live_row e).2 hcap) (by intro b hb; cases hb) (fun _ _ _ _ _ q => q)
 have e3 : upd σ1 [(.s d, .av (.one (.sl r ss.length))), (.b r, .row e k ss)] = upd σ' [(.s d, .av (.one (.sl r ss.length))), (.b r, .row e k ss), (KP, .np (r :: npL (σ KP)))] := by
  rw [hσ1]
  rfl
 rw [e3] at hnew
 exact hK _ _ hnew

def FinRow (fn : Func) (T : TypeId) (k : Option Nat) (l : List (SA D)) (e : Exit) (st : Sg D) : Prop :=
 (e = .normal ∨ e = .ret) ∧ ∃ t r, fn.results = #[.tmp t] ∧ lookD .no st (.s t) = .av (.one (.sl r l.length)) ∧ lookD .no st (.b r) = .row T k l
theorem finRow {fn : Func} {T : TypeId} {k : Option Nat} {l l' : List (SA D)} {e : Exit} {st : Sg D} {t r m : Nat} (hl : l' = l) (hm : m = l.length) (hres : fn.results = #[.tmp t]) (he : e = .normal ∨ e = .ret) (ht : lookD .no st (.s t) = .av (.one (.sl r m))) (hr : lookD .no st (.b r) = .row T k l') : FinRow fn T k l e st := by
 subst hl; subst hm
 exact ⟨he, t, r, hres, ht, hr⟩
theorem ConRow.of {f : FuncId} {fn : Func} {c : Code} {args : List (SA D)} {T : TypeId} {k : Option Nat} {l : List (SA D)} (hf : P.funcs[f]? = some fn) (hb : fn.body = some c) (hnt : fn.ntmps = n) (hcl : ptrsAll args = []) (hn : Nat.ble args.length n = true) (hval : ∀ s ∈ l, isV s = true)
  (h : ∀ cx : Cx0 D, (∀ b, ¬ cx.Bw b) → CV P cx n c (initSt 0 args) (FinRow fn T k l)) : ConRow P f args T k l := by
 subst hnt
 intro L ρ w vs hlt hall
 refine calls_of_wp hf hb (wp_mono ((h ⟨w, L, hlt, true, fun _ => False, fun _ q => q.elim, fun _ _ q => q, (fun q => nomatch q), (fun q => nomatch q)⟩ (fun _ q => q)).run _ w (Con.start hcl (Nat.le_of_ble_eq_true hn) hall rfl rfl)) ?_)
 rintro e a' w' ⟨l', ⟨ρ', hC'⟩, he, t, r, hres, ht, hr⟩
 obtain ⟨a0, hv, ha⟩ := hC'.slt t _ ht
 obtain ⟨⟨q1, q2, _⟩, q4⟩ := hC'.row r T k l hr
 have hfin : ∃ v, (results fn a'.tmps).run P w' = .ok v w' ∧ (Below w.heap.size w w' ∧ ∃ a c, Ending.returned v = .returned (.slice a l.length c) ∧ (l.length ≤ c ∧ c ≤ maxLen) ∧ (0 < c → ∃ g, a = some ⟨g, 0, none⟩ ∧ w.heap.size ≤ g ∧ ∃ cs sp : List Value, RowC w' g (cs ++ sp) T ∧ Chs L ρ w' (rch k l) cs ∧ (cs ++ sp).length = c * k.getD 1)) := by
  refine ⟨a'.tmps.getD t undef, ?_, hC'.kept.below (fun _ q => q), a0, (ρ' r).2, by rw [hv], ⟨q1, q2⟩, fun hc => ?_⟩
  ·simp [results, hres]
  ·obtain ⟨cs, sp, h1, h2, h3, _⟩ := q4 hc
   refine ⟨_, ha hc, ?_, cs, sp, h1, h2.vals hval, h3⟩
   rcases hC'.mine r ((live_row hr).2 hc) with h | h
   ·exact h
   ·exact h.elim
 rcases he with rfl | rfl
 ·exact ⟨hC'.defers, hfin⟩
 ·exact ⟨hC'.defers, hfin⟩
end

theorem conRow_fresh {f : FuncId} {args : List (SA Dm)} {bs : List Int} (h : ∀ L ρ w vs, isAll L ρ w args vs → Calls Tryz.prog f vs.toArray w (Fresh w bs)) : ConRow Tryz.prog f args 5 none (ziV .u8 bs) := by
 intro L ρ w vs _ hall
 refine (h L ρ w vs hall).mono ?_
 rintro e w' ⟨v, rfl, ⟨_, ho⟩, h2⟩
 refine ⟨h2, ?_⟩
 rcases ho with ⟨rfl, h0⟩ | ⟨g, cap, cur, rfl, hg, hc, h4, h5, h6, h7⟩
 ·have e : bs = [] := List.eq_nil_of_length_eq_zero h0
  subst e
  exact ⟨none, 0, rfl, ⟨Nat.le_refl _, by decide⟩, fun q => absurd q (by decide)⟩
 ·refine ⟨some ⟨g, 0, none⟩, cap, by rw [ziV_length], ⟨by rw [ziV_length]; exact h4, h5⟩, fun _ => ⟨g, rfl, hg, bs.map (Value.int .u8), cur.toList.drop (bs.length * 1), ?_, ziV_chs, ?_⟩⟩
  ·rw [← h7, List.take_append_drop]
   exact RowC.mk0 (by simpa using hc)
  ·rw [← h7, List.take_append_drop]
   simpa using h6
theorem wireInts_con (zs : List Int) (hz : ∀ z ∈ zs, -9223372036854775808 ≤ z ∧ z ≤ 9223372036854775807) (hl : zs.length ≤ 1099511627776) : ConRow Tryz.prog 87 [ZI .i64 zs] 5 none (ziV .u8 (W.encInts zs)) :=
 conRow_fresh fun L ρ w vs hall => by
  match vs, hall with
  | [v], ⟨h1, _⟩ => exact Ints_any v zs w (zi_row h1).view hz hl
theorem refInts_con (zs : List Int) (hz : ∀ z ∈ zs, -9223372036854775808 ≤ z ∧ z ≤ 9223372036854775807) (hl : zs.length ≤ 1099511627776) : ConRow Tryz.prog 22 [ZI .i64 zs] 5 none (ziV .u8 (W.encInts zs)) :=
 conRow_fresh fun L ρ w vs hall => by
  match vs, hall with
  | [v], ⟨h1, _⟩ => exact refInts_any v zs w (zi_row h1).view hz hl
theorem SignF_con (x : Int) {j : Nat} : ConF Tryz.prog 88 [.d (Dm.int x j)] (.one (.v (.int .i64 (cmpI x 0)))) := by
 rintro L ρ w vs hlt hall
 match vs, hall with
 | [v], ⟨h1, _⟩ =>
  refine (Sign_any v x w (h1 w (Agree.refl _ _)).1).mono ?_
  rintro e w' ⟨rfl, h⟩
  exact ⟨_, rfl, h, rfl⟩
theorem rSignF_con (x : Int) {j : Nat} : ConF Tryz.prog 92 [.d (Dm.int x j)] (.one (.v (.int .i64 (cmpI x 0)))) := by
 rintro L ρ w vs hlt hall
 match vs, hall with
 | [v], ⟨h1, _⟩ =>
  refine (refSign_any v x w (h1 w (Agree.refl _ _)).1).mono ?_
  rintro e w' ⟨rfl, h⟩
  exact ⟨_, rfl, h, rfl⟩
theorem Encode_con (x : Int) (k : Nat) (hx : len x ≤ 1000000000) : ConRow Tryz.prog 12 [.d (Dm.int x k)] 5 none (ziV .u8 (encI x)) := by
 refine ConRow.of (n := 10) Tryz.func12 rfl rfl rfl rfl (ziV_vals _) fun cx hB => ?_
 refine sr rfl ?_
 refine p2 (ok_box (i := 0) rfl rfl bd rfl rfl rfl rfl rfl) ?_
 refine mr rfl rfl bd rfl ?_
 refine RV.done ?_
 refine CV.seq ?_
 refine CV.region rfl (fun _ => by kernel_rfl) ?_
 refine p1 (ok_load rfl rfl bd rfl rfl rfl ty_int) ?_
 refine p1 (ok_callF (SignF_con x) rfl rfl bd Tryz.func88 rfl rfl (.cons rfl Conv.any .nil) rfl) ?_
 refine RV.step3 (OpOk.plain (ok_litN (r := 5) u_ints zs_i64 rfl rfl rfl (by intro s hs; obtain rfl := List.mem_singleton.1 hs; rfl) rfl rfl rfl bd (.cons rfl Conv.any .nil) rfl rfl rfl) rfl) ?_
 refine p1 (ok_fieldAddr fa_int1 rfl rfl bd rfl) ?_
 refine p1 (ok_loadf 1 fld_dig rfl rfl bd rfl rfl rfl rfl ty_ints) ?_
 refine RV.step4 (OpOk.plain (ok_appendND (r := 5) (r' := 8) (k := none) (G := Dm.gen (lstG none (ziV .i64 (cmpI x 0 :: (dig x.natAbs).map Int.ofNat)))) [] hB (nums_elems _) (lstG_Lst none _) (lstG_Lst0 none _) (by rw [ziV_length, List.length_map]; show (1 + len x) * 8 ≤ _; omega) (by rw [ziV_length, List.length_map]; show 1 + len x ≤ _; omega) u_ints inf_i64 rfl rfl rfl rfl rfl bd rfl rfl rfl rfl rfl rfl rfl rfl) rfl) ?_
 refine RV.step3 (OpOk.plain (ok_callRow (r := 9) (wireInts_con _ (encI_bd x) (by show (cmpI x 0 :: (dig x.natAbs).map Int.ofNat).length ≤ _; rw [List.length_cons, List.length_map]; show len x + 1 ≤ _; omega)) (ziV_vals _) rfl rfl bd Tryz.func87 rfl rfl (.cons rfl Conv.any .nil) rfl rfl rfl) rfl) ?_
 refine mr rfl rfl bd rfl ?_
 refine RV.drawn (by kernel_rfl) ?_
 refine CV.ret ?_
 exact finRow rfl rfl rfl (.inr rfl) rfl rfl
theorem rEncode_con (x : Int) (k : Nat) (hx : len x ≤ 1000000000) : ConRow Tryz.prog 18 [.d (Dm.int x k)] 5 none (ziV .u8 (encI x)) := by
 refine ConRow.of (n := 10) Tryz.func18 rfl rfl rfl rfl (ziV_vals _) fun cx hB => ?_
 refine sr rfl ?_
 refine p2 (ok_box (i := 0) rfl rfl bd rfl rfl rfl rfl rfl) ?_
 refine mr rfl rfl bd rfl ?_
 refine RV.done ?_
 refine CV.seq ?_
 refine CV.region rfl (fun _ => by kernel_rfl) ?_
 refine p1 (ok_load rfl rfl bd rfl rfl rfl ty_int) ?_
 refine p1 (ok_callF (rSignF_con x) rfl rfl bd Tryz.func92 rfl rfl (.cons rfl Conv.any .nil) rfl) ?_
 refine RV.step3 (OpOk.plain (ok_litN (r := 5) u_ints zs_i64 rfl rfl rfl (by intro s hs; obtain rfl := List.mem_singleton.1 hs; rfl) rfl rfl rfl bd (.cons rfl Conv.any .nil) rfl rfl rfl) rfl) ?_
 refine p1 (ok_fieldAddr fa_int1 rfl rfl bd rfl) ?_
 refine p1 (ok_loadf 1 fld_dig rfl rfl bd rfl rfl rfl rfl ty_ints) ?_
 refine RV.step4 (OpOk.plain (ok_appendND (r := 5) (r' := 8) (k := none) (G := Dm.gen (lstG none (ziV .i64 (cmpI x 0 :: (dig x.natAbs).map Int.ofNat)))) [] hB (nums_elems _) (lstG_Lst none _) (lstG_Lst0 none _) (by rw [ziV_length, List.length_map]; show (1 + len x) * 8 ≤ _; omega) (by rw [ziV_length, List.length_map]; show 1 + len x ≤ _; omega) u_ints inf_i64 rfl rfl rfl rfl rfl bd rfl rfl rfl rfl rfl rfl rfl rfl) rfl) ?_
 refine RV.step3 (OpOk.plain (ok_callRow (r := 9) (refInts_con _ (encI_bd x) (by show (cmpI x 0 :: (dig x.natAbs).map Int.ofNat).length ≤ _; rw [List.length_cons, List.length_map]; show len x + 1 ≤ _; omega)) (ziV_vals _) rfl rfl bd Tryz.func22 rfl rfl (.cons rfl Conv.any .nil) rfl rfl rfl) rfl) ?_
 refine mr rfl rfl bd rfl ?_
 refine RV.drawn (by kernel_rfl) ?_
 refine CV.ret ?_
 exact finRow rfl rfl rfl (.inr rfl) rfl rfl
def encR (a : Rat) : List Int := encI a.num ++ encI (qd a)
theorem REncode_con (a : Rat) (k : Nat) (hp : len a.num ≤ 1000000000) (hq : len (qd a) ≤ 1000000000) (h1 : (encI a.num).length + (encI (qd a)).length ≤ 1000000000000) : ConRow Tryz.prog 69 [RT a k] 5 none (ziV .u8 (encR a)) := by
 refine ConRow.of (n := 10) Tryz.func69 rfl rfl rfl rfl (ziV_vals _) fun cx hB => ?_
 refine sr rfl ?_
 refine p2 (ok_box (i := 0) rfl rfl bd rfl rfl rfl rfl rfl) ?_
 refine mr rfl rfl bd rfl ?_
 refine RV.done ?_
 refine CV.seq ?_
 refine CV.region rfl (fun _ => by kernel_rfl) ?_
 refine p1 (ok_fieldAddr fa_rat0 rfl rfl bd rfl) ?_
 refine p1 (ok_loadf 0 fld_num rfl rfl bd rfl rfl rfl rfl ty_int) ?_
 refine RV.step3 (OpOk.plain (ok_callRow (r := 5) (Encode_con _ _ hp) (ziV_vals _) rfl rfl bd Tryz.func12 rfl rfl (.cons rfl Conv.any .nil) rfl rfl rfl) rfl) ?_
 refine p1 (ok_fieldAddr fa_rat1 rfl rfl bd rfl) ?_
 refine p1 (ok_loadf 2 fld_den rfl rfl bd rfl rfl rfl rfl ty_int) ?_
 refine p1 (ok_callRowD (G := Dm.gen (lstG none (ziV .u8 (encI (qd a))))) (Encode_con _ _ hq) (ziV_vals _) (lstG_Lst none _) (lstG_Lst0 none _) rfl rfl bd Tryz.func12 rfl rfl (.cons rfl Conv.any .nil)) ?_
 refine RV.step4 (OpOk.plain (ok_appendN (r := 5) (r' := 9) (k := none) (lst_elems (by decide) (ziV_ptrs _)) (by rw [ziV_length, ziV_length]; omega) (by rw [ziV_length, ziV_length]; omega) u_bytes inf_u8 rfl rfl (by rw [ziV_length]) rfl rfl bd rfl rfl rfl rfl rfl rfl rfl) rfl) ?_
 refine mr rfl rfl bd rfl ?_
 refine RV.drawn (by kernel_rfl) ?_
 refine CV.ret ?_
 exact finRow (ziV_append _ _) (by rw [ziV_length, ziV_length, ziV_length]; show _ = (encI a.num ++ encI (qd a)).length; rw [List.length_append]) rfl (.inr rfl) rfl rfl
theorem eq_take {k : Nat} {a b : List Int} (h : a.length = b.length) (hk : k < a.length) (h1 : a.take k = b.take k) (h2 : a.getD k 0 = b.getD k 0) : a.take (k + 1) = b.take (k + 1) := by
 rw [List.take_add_one, List.take_add_one, h1]
 congr 1
 rw [List.getElem?_eq_getElem hk, List.getElem?_eq_getElem (by omega)]
 rw [List.getD_eq_getElem?_getD, List.getD_eq_getElem?_getD, List.getElem?_eq_getElem hk, List.getElem?_eq_getElem (by omega)] at h2
 simpa using h2
theorem SameB_con (a b : List Int) (ha : a.length ≤ 1000000000000) : Con Tryz.prog 17 [ZI .u8 a, ZI .u8 b] (.one (.v (.bool (decide (a = b))))) := by
 refine Con.of (n := 26) Tryz.func17 rfl rfl rfl rfl rfl fun cx hfr => ?_
 refine sr rfl ?_
 refine mr rfl rfl bd rfl ?_
 refine RV.done ?_
 refine CV.seq ?_
 refine sr rfl ?_
 refine ml rfl rfl bd rfl ?_
 refine p1 (ok_lenL rfl u_bytes rfl rfl bd rfl) ?_
 refine ml rfl rfl bd rfl ?_
 refine p1 (ok_lenL rfl u_bytes rfl rfl bd rfl) ?_
 refine p1 (ok_neq rfl rfl bd rfl rfl) ?_
 refine RV.done ?_
 refine CV.cond rfl (fun h0 => ?_) (fun h0 => ?_)
 ·refine sr rfl ?_
  refine mr rfl rfl bd rfl ?_
  refine RV.done ?_
  refine CV.ret ?_
  rw [ziV_length, ziV_length] at h0
  exact fin1 rfl (.inr rfl) rfl (is_bool (by symm; rw [decide_eq_false_iff_not]; rintro rfl; simp at h0))
 ·refine CV.skip ?_
  refine CV.seq ?_
  refine sr rfl ?_
  refine mr rfl rfl bd rfl ?_
  refine RV.done ?_
  refine CV.block ?_
  rw [ziV_length, ziV_length] at h0
  have hl : a.length = b.length := (by simp at h0; omega)
  refine CV.loop (X := {k : Nat // k ≤ a.length ∧ a.take k = b.take k}) (fun k => [(.s 5, .av (.one (.v (.int .i64 (k.1 : Int))))), (.s 0, .av (.one (ZI .u8 a))), (.s 1, .av (.one (ZI .u8 b)))]) (fun k => a.length - k.1) ⟨0, Nat.zero_le _, by simp⟩ (Sub.mk ⟨XV.le_rfl _, XV.le_rfl _, XV.le_rfl _, trivial⟩ rfl rfl) (fun k => ?_)
  obtain ⟨k, hk, he⟩ := k
  simp only
  refine CV.seq ?_
  refine sr rfl ?_
  refine ml rfl rfl bd rfl ?_
  refine ml rfl rfl bd rfl ?_
  refine p1 (ok_lenL (ziV_length _) u_bytes rfl rfl bd rfl) ?_
  refine p1 (ok_lss rfl rfl bd rfl rfl) ?_
  refine RV.done ?_
  refine CV.cond rfl (fun hc => ?_) (fun hc => ?_)
  ·refine CV.skip ?_
   refine CV.seq ?_
   refine CV.block ?_
   refine CV.seq ?_
   refine CV.region rfl (fun _ => by kernel_rfl) ?_
   refine ml rfl rfl bd rfl ?_
   refine ml rfl rfl bd rfl ?_
   refine p1 (ok_idxL (k := none) (i := k) (ziV_at (by simpa using hc)) u_bytes sz_u8 (by decide) rfl rfl bd rfl rfl) ?_
   refine p1 (ok_loadP ty_u8 (by decide) rfl rfl bd rfl) ?_
   refine ml rfl rfl bd rfl ?_
   refine ml rfl rfl bd rfl ?_
   refine p1 (ok_idxL (k := none) (i := k) (ziV_at (by rw [← hl]; simpa using hc)) u_bytes sz_u8 (by decide) rfl rfl bd rfl rfl) ?_
   refine p1 (ok_loadP ty_u8 (by decide) rfl rfl bd rfl) ?_
   refine p1 (ok_neq rfl rfl bd rfl rfl) ?_
   refine RV.drawn (by kernel_rfl) ?_
   refine CV.cond rfl (fun hd => ?_) (fun hd => ?_)
   ·refine sr rfl ?_
    refine mr rfl rfl bd rfl ?_
    refine RV.done ?_
    refine CV.ret ?_
    exact fin1 rfl (.inr rfl) rfl (is_bool (by symm; rw [decide_eq_false_iff_not]; rintro rfl; simp at hd))
   ·refine CV.skip ?_
    refine CV.region rfl (fun h => nomatch h) ?_
    refine ml rfl rfl bd rfl ?_
    refine p1 (ok_add (c := ((k + 1 : Nat) : Int)) (by rw [wrapI (by omega) (by omega)]; omega) rfl rfl bd rfl rfl) ?_
    refine mr rfl rfl bd rfl ?_
    refine RV.done ?_
    exact ⟨⟨k + 1, Nat.succ_le_of_lt (by simpa using hc), eq_take hl (by simpa using hc) he (by simpa using hd)⟩, Sub.mk ⟨XV.le_rfl _, XV.le_rfl _, XV.le_rfl _, trivial⟩ rfl rfl, by have : k < a.length := (by simpa using hc); show a.length - (k + 1) < a.length - k; omega⟩
  ·refine CV.exit ?_
   refine sr rfl ?_
   refine mr rfl rfl bd rfl ?_
   refine RV.done ?_
   refine CV.ret ?_
   have : a.length ≤ k := (by simpa using hc)
   exact fin1 rfl (.inr rfl) rfl (is_bool (by symm; rw [decide_eq_true_eq]; rwa [List.take_of_length_le this, List.take_of_length_le (by omega)] at he))
end Vc
end Go.Proofs.YtpgiebimhnhbiaaGreatDoor

namespace Go.Proofs.YtpgiebimhnhbiaaGreatDoor
open Go.RowKit
open Go.Lib (hid)
open Dg Zn Tx
namespace Vc
set_option maxRecDepth 100000

theorem dm8 : (Rat.divInt 6 (-8)).num = -3 ∧ qd (Rat.divInt 6 (-8)) = 4 ∧ ((Rat.divInt 6 (-8)).den : Int) = 4 := by
 have e : Rat.divInt 6 (-8) = Rat.divInt (-3) 4 := by rfl
 rw [e]
 have h := dv_num (p := -3) (q := 4) (by decide) (by decide)
 exact ⟨h.1, low_qd (by decide) (by decide), h.2⟩
theorem d56 : (Rat.divInt 1 2 + Rat.divInt 1 3).num = 5 ∧ qd (Rat.divInt 1 2 + Rat.divInt 1 3) = 6 := by
 have e : Rat.divInt 1 2 + Rat.divInt 1 3 = Rat.divInt 5 6 := Rat.divInt_add_divInt 1 1 (d₁ := 2) (d₂ := 3) (by decide) (by decide)
 rw [e]
 exact ⟨(dv_num (p := 5) (q := 6) (by decide) (by decide)).1, low_qd (by decide) (by decide)⟩
theorem d12 : (Rat.divInt 1 2).num = 1 ∧ qd (Rat.divInt 1 2) = 2 := ⟨(dv_num (p := 1) (q := 2) (by decide) (by decide)).1, low_qd (by decide) (by decide)⟩
theorem text_a : Con Tryz.prog 67 [RT (Rat.divInt 6 (-8)) 6] (.one (.v (str [45, 51, 47, 52]))) := by
 have q := RTextF_con (Rat.divInt 6 (-8)) 6 (by decide) (by rw [dm8.1]; decide +kernel) (by rw [dm8.2.1]; decide +kernel) (by rw [dm8.2.1]; decide)
 rwa [dm8.1, dm8.2.1, show txtI (-3) ++ 47 :: txtI 4 = [45, 51, 47, 52] by decide +kernel] at q
theorem text_b {k : Nat} (hk : k ≤ 1000000) : Con Tryz.prog 67 [RT (Rat.divInt 1 2 + Rat.divInt 1 3) k] (.one (.v (str [53, 47, 54]))) := by
 have q := RTextF_con (Rat.divInt 1 2 + Rat.divInt 1 3) k (by omega) (by rw [d56.1]; decide +kernel) (by rw [d56.2]; decide +kernel) (by rw [d56.2]; decide)
 rwa [d56.1, d56.2, show txtI 5 ++ 47 :: txtI 6 = [53, 47, 54] by decide +kernel] at q
theorem text_c {k : Nat} (hk : k ≤ 1000000) : Con Tryz.prog 10 [.d (Dm.int ((Rat.divInt 6 (-8)).num / (Rat.divInt 6 (-8)).den) k)] (.one (.v (str [45, 49]))) := by
 rw [dm8.1, dm8.2.2]
 have q := Text_con (-3 / 4) k (by omega)
 rwa [show txtI (-3 / 4) = [45, 49] by decide +kernel] at q
theorem enc_12 : encR (Rat.divInt 1 2) = W.encInts [1, 1] ++ W.encInts [1, 2] := by
 unfold encR
 rw [d12.1, d12.2]
 rfl
theorem lives5_con : Con (D := Dm) Tryz.prog 38 [] (.one (.v (.bool true))) := by
 refine Con.of (n := 103) Tryz.func38 rfl rfl rfl rfl rfl fun cx hfr => ?_
 refine sr rfl ?_
 refine mr rfl rfl bd rfl ?_
 refine RV.done (sr rfl ?_)
 refine p1 (ok_call (ROf_con _ _ (by decide) (by decide) (by decide) (by decide)) rfl rfl bd Tryz.func34 rfl rfl (.cons rfl Conv.any (.cons rfl Conv.any .nil)) rfl hfr rfl) ?_
 refine p2 (ok_alloc (i := 0) rfl rfl bd zero_rat rfl rfl rfl rfl) ?_
 refine p1 (ok_store rfl rfl rfl rfl rfl rfl rfl (ty_rat).2 rfl rfl rfl rfl) ?_
 refine RV.done (sr rfl ?_)
 refine p1 (ok_call (RParse_con _) rfl rfl bd Tryz.func68 rfl rfl (.cons rfl Conv.any .nil) rfl hfr rfl) ?_
 refine ml rfl rfl bd rfl ?_
 refine p1 (ok_extract rfl rfl bd rfl rfl) ?_
 refine p1 (ok_extract rfl rfl bd rfl rfl) ?_
 refine p2 (ok_alloc (i := 1) rfl rfl bd zero_rat rfl rfl rfl rfl) ?_
 refine p1 (ok_store rfl rfl rfl rfl rfl rfl rfl (ty_rat).2 rfl rfl rfl rfl) ?_
 refine mr rfl rfl bd rfl ?_
 refine RV.done (sr rfl ?_)
 refine p1 (ok_call (RParse_con _) rfl rfl bd Tryz.func68 rfl rfl (.cons rfl Conv.any .nil) rfl hfr rfl) ?_
 refine ml rfl rfl bd rfl ?_
 refine p1 (ok_extract rfl rfl bd rfl rfl) ?_
 refine p1 (ok_extract rfl rfl bd rfl rfl) ?_
 refine p2 (ok_alloc (i := 2) rfl rfl bd zero_rat rfl rfl rfl rfl) ?_
 refine p1 (ok_store rfl rfl rfl rfl rfl rfl rfl (ty_rat).2 rfl rfl rfl rfl) ?_
 refine mr rfl rfl bd rfl ?_
 refine RV.done (sr rfl ?_)
 refine p1 (ok_call (RParse_con _) rfl rfl bd Tryz.func68 rfl rfl (.cons rfl Conv.any .nil) rfl hfr rfl) ?_
 refine ml rfl rfl bd rfl ?_
 refine p1 (ok_extract rfl rfl bd rfl rfl) ?_
 refine p1 (ok_extract rfl rfl bd rfl rfl) ?_
 refine p2 (ok_alloc (i := 3) rfl rfl bd zero_rat rfl rfl rfl rfl) ?_
 refine p1 (ok_store rfl rfl rfl rfl rfl rfl rfl (ty_rat).2 rfl rfl rfl rfl) ?_
 refine mr rfl rfl bd rfl ?_
 refine RV.done (sr rfl ?_)
 refine p1 (ok_call (ROf_con _ _ (by decide) (by decide) (by decide) (by decide)) rfl rfl bd Tryz.func34 rfl rfl (.cons rfl Conv.any (.cons rfl Conv.any .nil)) rfl hfr rfl) ?_
 refine p1 (ok_call (ROf_con _ _ (by decide) (by decide) (by decide) (by decide)) rfl rfl bd Tryz.func34 rfl rfl (.cons rfl Conv.any (.cons rfl Conv.any .nil)) rfl hfr rfl) ?_
 refine p1 (ok_call (Between_err _ _ _ _ (by decide) (by decide) (by rw [cmpR_dv (by decide) (by decide) (by decide) (by decide)]; decide)) rfl rfl bd Tryz.func64 rfl rfl (.cons rfl Conv.any (.cons rfl Conv.any .nil)) rfl hfr rfl) ?_
 refine ml rfl rfl bd rfl ?_
 refine p1 (ok_extract rfl rfl bd rfl rfl) ?_
 refine p1 (ok_extract rfl rfl bd rfl rfl) ?_
 refine p2 (ok_alloc (i := 4) rfl rfl bd zero_rat rfl rfl rfl rfl) ?_
 refine p1 (ok_store rfl rfl rfl rfl rfl rfl rfl (ty_rat).2 rfl rfl rfl rfl) ?_
 refine mr rfl rfl bd rfl ?_
 refine RV.done (sr rfl ?_)
 refine p1 (ok_load rfl rfl bd rfl rfl rfl ty_rat) ?_
 refine p1 (ok_call (text_a) rfl rfl bd Tryz.func67 rfl rfl (.cons rfl Conv.any .nil) rfl hfr rfl) ?_
 refine p1 (ok_eqT (b := true) rfl rfl rfl bd rfl rfl) ?_
 refine ml rfl rfl bd rfl ?_
 refine RV.step1 (OpOk.yes (ok_call (ROf_con _ _ (by decide) (by decide) (by decide) (by decide)) rfl rfl bd Tryz.func34 rfl rfl (.cons rfl Conv.any (.cons rfl Conv.any .nil)) rfl hfr rfl) rfl rfl rfl) ?_
 refine RV.step1 (OpOk.yes (ok_call (ROf_con _ _ (by decide) (by decide) (by decide) (by decide)) rfl rfl bd Tryz.func34 rfl rfl (.cons rfl Conv.any (.cons rfl Conv.any .nil)) rfl hfr rfl) rfl rfl rfl) ?_
 refine RV.step1 (OpOk.yes (ok_call (RAdd_con _ _ _ _ (by decide) (by decide)) rfl rfl bd Tryz.func40 rfl rfl (.cons rfl Conv.any (.cons rfl Conv.any .nil)) rfl hfr rfl) rfl rfl rfl) ?_
 refine RV.step1 (OpOk.yes (ok_call (text_b (by decide)) rfl rfl bd Tryz.func67 rfl rfl (.cons rfl Conv.any .nil) rfl hfr rfl) rfl rfl rfl) ?_
 refine RV.step1 (OpOk.yes (ok_eqT (b := true) rfl rfl rfl bd rfl rfl) rfl rfl rfl) ?_
 refine p1 (ok_pickT rfl rfl bd rfl rfl rfl) ?_
 refine ml rfl rfl bd rfl ?_
 refine RV.step1 (OpOk.yes (ok_load rfl rfl bd rfl rfl rfl ty_rat) rfl rfl rfl) ?_
 refine RV.step1 (OpOk.yes (ok_call (RFloor_con _ _ (by decide)) rfl rfl bd Tryz.func58 rfl rfl (.cons rfl Conv.any .nil) rfl hfr rfl) rfl rfl rfl) ?_
 refine RV.step1 (OpOk.yes (ok_call (text_c (by decide)) rfl rfl bd Tryz.func10 rfl rfl (.cons rfl Conv.any .nil) rfl hfr rfl) rfl rfl rfl) ?_
 refine RV.step1 (OpOk.yes (ok_eqT (b := true) rfl rfl rfl bd rfl rfl) rfl rfl rfl) ?_
 refine p1 (ok_pickT rfl rfl bd rfl rfl rfl) ?_
 refine ml rfl rfl bd rfl ?_
 refine RV.step1 (OpOk.yes (ok_load rfl rfl bd rfl rfl rfl ty_rat) rfl rfl rfl) ?_
 refine RV.step1 (OpOk.yes (ok_call (RCeil_con _ _ (by decide)) rfl rfl bd Tryz.func60 rfl rfl (.cons rfl Conv.any .nil) rfl hfr rfl) rfl rfl rfl) ?_
 refine RV.step1 (OpOk.yes (ok_call (Sign_con _) rfl rfl bd Tryz.func88 rfl rfl (.cons rfl Conv.any .nil) rfl hfr rfl) rfl rfl rfl) ?_
 refine RV.step1 (OpOk.yes (ok_eqlT (by rw [dm8.1, dm8.2.2]; decide) rfl rfl bd rfl rfl) rfl rfl rfl) ?_
 refine p1 (ok_pickT rfl rfl bd rfl rfl rfl) ?_
 refine mr rfl rfl bd rfl ?_
 refine RV.done (sr rfl ?_)
 refine p1 (ok_call (between_1) rfl rfl bd Tryz.func110 rfl rfl (.cons rfl Conv.any (.cons rfl Conv.any (.cons rfl Conv.any (.cons rfl Conv.any .nil)))) rfl hfr rfl) ?_
 refine p1 (ok_call (rfOf_con _ _ (by decide) (by decide) (by decide) (by decide)) rfl rfl bd Tryz.func35 rfl rfl (.cons rfl Conv.any (.cons rfl Conv.any .nil)) rfl hfr rfl) ?_
 refine p1 (ok_call (same5T_con rfl) rfl rfl bd Tryz.func32 rfl rfl (.cons rfl Conv.any (.cons rfl Conv.any .nil)) rfl hfr rfl) ?_
 refine ml rfl rfl bd rfl ?_
 refine RV.step1 (OpOk.yes (ok_call (between_2) rfl rfl bd Tryz.func110 rfl rfl (.cons rfl Conv.any (.cons rfl Conv.any (.cons rfl Conv.any (.cons rfl Conv.any .nil)))) rfl hfr rfl) rfl rfl rfl) ?_
 refine RV.step1 (OpOk.yes (ok_call (rfOf_con _ _ (by decide) (by decide) (by decide) (by decide)) rfl rfl bd Tryz.func35 rfl rfl (.cons rfl Conv.any (.cons rfl Conv.any .nil)) rfl hfr rfl) rfl rfl rfl) ?_
 refine RV.step1 (OpOk.yes (ok_call (same5T_con rfl) rfl rfl bd Tryz.func32 rfl rfl (.cons rfl Conv.any (.cons rfl Conv.any .nil)) rfl hfr rfl) rfl rfl rfl) ?_
 refine p1 (ok_pickT rfl rfl bd rfl rfl rfl) ?_
 refine ml rfl rfl bd rfl ?_
 refine RV.step1 (OpOk.yes (ok_call (between_3) rfl rfl bd Tryz.func110 rfl rfl (.cons rfl Conv.any (.cons rfl Conv.any (.cons rfl Conv.any (.cons rfl Conv.any .nil)))) rfl hfr rfl) rfl rfl rfl) ?_
 refine RV.step1 (OpOk.yes (ok_call (rfOf_con _ _ (by decide) (by decide) (by decide) (by decide)) rfl rfl bd Tryz.func35 rfl rfl (.cons rfl Conv.any (.cons rfl Conv.any .nil)) rfl hfr rfl) rfl rfl rfl) ?_
 refine RV.step1 (OpOk.yes (ok_call (same5T_con (by rw [← Rat.neg_divInt])) rfl rfl bd Tryz.func32 rfl rfl (.cons rfl Conv.any (.cons rfl Conv.any .nil)) rfl hfr rfl) rfl rfl rfl) ?_
 refine p1 (ok_pickT rfl rfl bd rfl rfl rfl) ?_
 refine ml rfl rfl bd rfl ?_
 refine RV.step1 (OpOk.yes (ok_call (between_4) rfl rfl bd Tryz.func110 rfl rfl (.cons rfl Conv.any (.cons rfl Conv.any (.cons rfl Conv.any (.cons rfl Conv.any .nil)))) rfl hfr rfl) rfl rfl rfl) ?_
 refine RV.step1 (OpOk.yes (ok_build0 rfl rfl bd) rfl rfl rfl) ?_
 refine RV.step1 (OpOk.yes (ok_call (same5T_con (a := 0) (b := 0) rfl) rfl rfl bd Tryz.func32 rfl rfl (.cons rfl Conv.any (.cons rfl Conv.any .nil)) rfl hfr rfl) rfl rfl rfl) ?_
 refine p1 (ok_pickT rfl rfl bd rfl rfl rfl) ?_
 refine mr rfl rfl bd rfl ?_
 refine RV.done (sr rfl ?_)
 refine p1 (ok_litD (G := Dm.gen (lstG none (ziV .i64 [1, 1]))) (lstG_Lst none _) u_ints zs_i64 rfl rfl rfl (by intro s hs; rcases List.mem_cons.1 hs with rfl | hs; rfl; obtain rfl := List.mem_singleton.1 hs; rfl) rfl rfl rfl bd (.cons rfl Conv.any (.cons rfl Conv.any .nil))) ?_
 refine RV.step3 (OpOk.plain (ok_callRow (r := 73) (refInts_con [1, 1] (by decide) (by decide)) (ziV_vals _) rfl rfl bd Tryz.func22 rfl rfl (.cons rfl Conv.any .nil) rfl rfl rfl) rfl) ?_
 refine p1 (ok_litD (G := Dm.gen (lstG none (ziV .i64 [1, 2]))) (lstG_Lst none _) u_ints zs_i64 rfl rfl rfl (by intro s hs; rcases List.mem_cons.1 hs with rfl | hs; rfl; obtain rfl := List.mem_singleton.1 hs; rfl) rfl rfl rfl bd (.cons rfl Conv.any (.cons rfl Conv.any .nil))) ?_
 refine p1 (ok_callRowD (G := Dm.gen (lstG none (ziV .u8 (W.encInts [1, 2])))) (refInts_con [1, 2] (by decide) (by decide)) (ziV_vals _) (lstG_Lst none _) (lstG_Lst0 none _) rfl rfl bd Tryz.func22 rfl rfl (.cons rfl Conv.any .nil)) ?_
 refine RV.step4 (OpOk.plain (ok_appendND (r := 73) (r' := 76) (k := none) (G := Dm.gen (lstG none (ziV .u8 (W.encInts [1, 1] ++ W.encInts [1, 2])))) [] (cx.bw hfr) (lst_elems (by decide) (ziV_ptrs _)) (lstG_Lst none _) (lstG_Lst0 none _) (by decide) (by decide) u_bytes inf_u8 rfl rfl rfl rfl rfl bd rfl rfl rfl rfl rfl rfl rfl rfl) rfl) ?_
 refine mr rfl rfl bd rfl ?_
 refine RV.done (sr rfl ?_)
 refine ml rfl rfl bd rfl ?_
 refine ml rfl rfl bd rfl ?_
 refine RV.step1 (OpOk.yes (ok_move (.inl rfl) rfl bd rfl) rfl rfl rfl) ?_
 refine p1 (ok_pickT rfl rfl bd rfl rfl rfl) ?_
 refine ml rfl rfl bd rfl ?_
 refine RV.step1 (OpOk.yes (ok_move (.inl rfl) rfl bd rfl) rfl rfl rfl) ?_
 refine RV.step1 (OpOk.yes (ok_eqlT (by decide +kernel) rfl rfl bd rfl rfl) rfl rfl rfl) ?_
 refine p1 (ok_pickT rfl rfl bd rfl rfl rfl) ?_
 refine ml rfl rfl bd rfl ?_
 refine RV.step1 (OpOk.yes (ok_move (.inl rfl) rfl bd rfl) rfl rfl rfl) ?_
 refine RV.step1 (OpOk.yes (ok_eqlT (by decide +kernel) rfl rfl bd rfl rfl) rfl rfl rfl) ?_
 refine p1 (ok_pickT rfl rfl bd rfl rfl rfl) ?_
 refine ml rfl rfl bd rfl ?_
 refine RV.step1 (OpOk.yes (ok_move (.inl rfl) rfl bd rfl) rfl rfl rfl) ?_
 refine RV.step1 (OpOk.yes (ok_eqlT (by decide +kernel) rfl rfl bd rfl rfl) rfl rfl rfl) ?_
 refine p1 (ok_pickT rfl rfl bd rfl rfl rfl) ?_
 refine ml rfl rfl bd rfl ?_
 refine RV.step1 (OpOk.yes (ok_move (.inl rfl) rfl bd rfl) rfl rfl rfl) ?_
 refine RV.step1 (OpOk.yes (ok_eqlT rfl rfl rfl bd rfl rfl) rfl rfl rfl) ?_
 refine p1 (ok_pickT rfl rfl bd rfl rfl rfl) ?_
 refine ml rfl rfl bd rfl ?_
 refine RV.step1 (OpOk.yes (ok_call (ROf_con _ _ (by decide) (by decide) (by decide) (by decide)) rfl rfl bd Tryz.func34 rfl rfl (.cons rfl Conv.any (.cons rfl Conv.any .nil)) rfl hfr rfl) rfl rfl rfl) ?_
 refine RV.step1 (OpOk.yes (ok_callRowD (G := Dm.gen (lstG none (ziV .u8 (encR (Rat.divInt 1 2))))) (REncode_con (Rat.divInt 1 2) 6 (by rw [d12.1]; decide +kernel) (by rw [d12.2]; decide +kernel) (by rw [d12.1, d12.2]; decide +kernel)) (ziV_vals _) (lstG_Lst none _) (lstG_Lst0 none _) rfl rfl bd Tryz.func69 rfl rfl (.cons rfl Conv.any .nil)) rfl rfl rfl) ?_
 refine RV.step1 (OpOk.yes (ok_move (.inl rfl) rfl bd rfl) rfl rfl rfl) ?_
 refine RV.step1 (OpOk.yes (ok_call (show Con Tryz.prog 17 [ZI .u8 (encR (Rat.divInt 1 2)), ZI .u8 (W.encInts [1, 1] ++ W.encInts [1, 2])] (.one (.v (.bool true))) by have q := SameB_con (encR (Rat.divInt 1 2)) (W.encInts [1, 1] ++ W.encInts [1, 2]) (by rw [enc_12]; decide); rwa [decide_eq_true enc_12] at q) rfl rfl bd Tryz.func17 rfl rfl (.cons rfl Conv.any (.cons rfl Conv.any .nil)) rfl hfr rfl) rfl rfl rfl) ?_
 refine p1 (ok_pickT rfl rfl bd rfl rfl rfl) ?_
 refine mr rfl rfl bd rfl ?_
 refine RV.done ?_
 refine CV.ret ?_
 exact fin1 rfl (.inr rfl) rfl is_rfl

def numRp (zs : List Int) (p : Nat) : Rat :=
 if atI zs p 8 = 7 then Rat.divInt (numI zs (p + 1)) (numI zs (p + 9))
 else if atI zs p 8 < 2 then Rat.divInt (atI zs (p + 1) 61 - 30) 1
 else if atI zs p 8 < 4 then Rat.divInt (atI zs (p + 1) 61 - 30) (1 + atI zs (p + 2) 9)
 else Rat.divInt (atI zs (p + 1) 20001 - 10000) (1 + atI zs (p + 2) 1000)
theorem NumberRp_con (zs : List Int) (p : Nat) (hp : p ≤ 100000) : Con Tryz.prog 39 [.d (Dm.ints zs), .v (.int .i64 (p : Int))] (.one (RT (numRp zs p) 14)) := by
 have b0 := atI_bd zs p 8 (by decide)
 have b1 := atI_bd zs (p + 1) 61 (by decide)
 have b2 := atI_bd zs (p + 2) 9 (by decide)
 have b3 := atI_bd zs (p + 1) 20001 (by decide)
 have b4 := atI_bd zs (p + 2) 1000 (by decide)
 refine Con.of (n := 50) Tryz.func39 rfl rfl rfl rfl rfl fun cx hfr => ?_
 refine sr rfl ?_
 refine p2 (ok_alloc (i := 0) rfl rfl bd zero_rat rfl rfl rfl rfl) ?_
 refine RV.done (sr rfl ?_)
 refine ml rfl rfl bd rfl ?_
 refine ml rfl rfl bd rfl ?_
 refine p1 (ok_call (At_c zs p 8 (by decide) (by decide)) rfl rfl bd Tryz.func75 rfl rfl (.cons rfl Conv.any (.cons rfl Conv.any (.cons rfl Conv.any .nil))) rfl hfr rfl) ?_
 refine mr rfl rfl bd rfl ?_
 refine RV.done ?_
 refine CV.seq ?_
 refine sr rfl ?_
 refine ml rfl rfl bd rfl ?_
 refine p1 (ok_eql rfl rfl bd rfl rfl) ?_
 refine RV.done ?_
 refine CV.cond rfl (fun h1 => ?_) (fun h1 => ?_)
 ·refine sr rfl ?_
  refine ml rfl rfl bd rfl ?_
  refine ml rfl rfl bd rfl ?_
  refine p1 (ok_add (c := ((p + 1 : Nat) : Int)) (by rw [wrapI (by omega) (by omega)]; omega) rfl rfl bd rfl rfl) ?_
  refine p1 (ok_call (Number_con zs (p + 1) (by omega)) rfl rfl bd Tryz.func9 rfl rfl (.cons rfl Conv.any (.cons rfl Conv.any .nil)) rfl hfr rfl) ?_
  refine ml rfl rfl bd rfl ?_
  refine ml rfl rfl bd rfl ?_
  refine p1 (ok_add (c := ((p + 9 : Nat) : Int)) (by rw [wrapI (by omega) (by omega)]; omega) rfl rfl bd rfl rfl) ?_
  refine p1 (ok_call (Number_con zs (p + 9) (by omega)) rfl rfl bd Tryz.func9 rfl rfl (.cons rfl Conv.any (.cons rfl Conv.any .nil)) rfl hfr rfl) ?_
  refine p1 (ok_call (rMake_con _ _ _ _ (by decide) (by decide)) rfl rfl bd Tryz.func25 rfl rfl (.cons rfl Conv.any (.cons rfl Conv.any .nil)) rfl hfr rfl) ?_
  refine p1 (ok_store rfl rfl rfl rfl rfl rfl rfl (ty_rat).2 rfl rfl rfl rfl) ?_
  refine RV.done ?_
  refine CV.ret ?_
  have e : numRp zs p = Rat.divInt (numI zs (p + 1)) (numI zs (p + 9)) := by unfold numRp; rw [if_pos (by simpa using h1)]
  exact fin1 rfl (.inr rfl) ⟨_, _, _, _, _, rfl, rfl, rfl, ty_rat⟩ (is_rt (by rw [e]) (by rw [e]) (by omega))
 ·refine CV.skip ?_
  refine sr rfl ?_
  refine ml rfl rfl bd rfl ?_
  refine ml rfl rfl bd rfl ?_
  refine p1 (ok_add (c := ((p + 1 : Nat) : Int)) (by rw [wrapI (by omega) (by omega)]; omega) rfl rfl bd rfl rfl) ?_
  refine p1 (ok_call (At_c zs (p + 1) 61 (by decide) (by decide)) rfl rfl bd Tryz.func75 rfl rfl (.cons rfl Conv.any (.cons rfl Conv.any (.cons rfl Conv.any .nil))) rfl hfr rfl) ?_
  refine p1 (ok_sub (c := atI zs (p + 1) 61 - 30) (by exact wrapI (by omega) (by omega)) rfl rfl bd rfl rfl) ?_
  refine mr rfl rfl bd rfl ?_
  refine RV.done ?_
  refine CV.seq ?_
  refine sr rfl ?_
  refine ml rfl rfl bd rfl ?_
  refine p1 (ok_lss rfl rfl bd rfl rfl) ?_
  refine RV.done ?_
  refine CV.cond rfl (fun h2 => ?_) (fun h2 => ?_)
  ·refine sr rfl ?_
   refine ml rfl rfl bd rfl ?_
   refine p1 (ok_call (rfOf_con _ _ (by omega) (by omega) (by omega) (by omega)) rfl rfl bd Tryz.func35 rfl rfl (.cons rfl Conv.any (.cons rfl Conv.any .nil)) rfl hfr rfl) ?_
   refine p1 (ok_store rfl rfl rfl rfl rfl rfl rfl (ty_rat).2 rfl rfl rfl rfl) ?_
   refine RV.done ?_
   refine CV.ret ?_
   have e : numRp zs p = Rat.divInt (atI zs (p + 1) 61 - 30) 1 := by unfold numRp; rw [if_neg (by simpa using h1), if_pos (by simpa using h2)]
   exact fin1 rfl (.inr rfl) ⟨_, _, _, _, _, rfl, rfl, rfl, ty_rat⟩ (is_rt (by rw [e]) (by rw [e]) (by omega))
  ·refine CV.skip ?_
   refine CV.seq ?_
   refine sr rfl ?_
   refine ml rfl rfl bd rfl ?_
   refine p1 (ok_lss rfl rfl bd rfl rfl) ?_
   refine RV.done ?_
   refine CV.cond rfl (fun h3 => ?_) (fun h3 => ?_)
   ·refine sr rfl ?_
    refine ml rfl rfl bd rfl ?_
    refine ml rfl rfl bd rfl ?_
    refine ml rfl rfl bd rfl ?_
    refine p1 (ok_add (c := ((p + 2 : Nat) : Int)) (by rw [wrapI (by omega) (by omega)]; omega) rfl rfl bd rfl rfl) ?_
    refine p1 (ok_call (At_c zs (p + 2) 9 (by decide) (by decide)) rfl rfl bd Tryz.func75 rfl rfl (.cons rfl Conv.any (.cons rfl Conv.any (.cons rfl Conv.any .nil))) rfl hfr rfl) ?_
    refine p1 (ok_add (c := 1 + atI zs (p + 2) 9) (by exact wrapI (by omega) (by omega)) rfl rfl bd rfl rfl) ?_
    refine p1 (ok_call (rfOf_con _ _ (by omega) (by omega) (by omega) (by omega)) rfl rfl bd Tryz.func35 rfl rfl (.cons rfl Conv.any (.cons rfl Conv.any .nil)) rfl hfr rfl) ?_
    refine p1 (ok_store rfl rfl rfl rfl rfl rfl rfl (ty_rat).2 rfl rfl rfl rfl) ?_
    refine RV.done ?_
    refine CV.ret ?_
    have e : numRp zs p = Rat.divInt (atI zs (p + 1) 61 - 30) (1 + atI zs (p + 2) 9) := by unfold numRp; rw [if_neg (by simpa using h1), if_neg (by simpa using h2), if_pos (by simpa using h3)]
    exact fin1 rfl (.inr rfl) ⟨_, _, _, _, _, rfl, rfl, rfl, ty_rat⟩ (is_rt (by rw [e]) (by rw [e]) (by omega))
   ·refine CV.skip ?_
    refine sr rfl ?_
    refine ml rfl rfl bd rfl ?_
    refine ml rfl rfl bd rfl ?_
    refine p1 (ok_add (c := ((p + 1 : Nat) : Int)) (by rw [wrapI (by omega) (by omega)]; omega) rfl rfl bd rfl rfl) ?_
    refine p1 (ok_call (At_c zs (p + 1) 20001 (by decide) (by decide)) rfl rfl bd Tryz.func75 rfl rfl (.cons rfl Conv.any (.cons rfl Conv.any (.cons rfl Conv.any .nil))) rfl hfr rfl) ?_
    refine p1 (ok_sub (c := atI zs (p + 1) 20001 - 10000) (by exact wrapI (by omega) (by omega)) rfl rfl bd rfl rfl) ?_
    refine ml rfl rfl bd rfl ?_
    refine ml rfl rfl bd rfl ?_
    refine p1 (ok_add (c := ((p + 2 : Nat) : Int)) (by rw [wrapI (by omega) (by omega)]; omega) rfl rfl bd rfl rfl) ?_
    refine p1 (ok_call (At_c zs (p + 2) 1000 (by decide) (by decide)) rfl rfl bd Tryz.func75 rfl rfl (.cons rfl Conv.any (.cons rfl Conv.any (.cons rfl Conv.any .nil))) rfl hfr rfl) ?_
    refine p1 (ok_add (c := 1 + atI zs (p + 2) 1000) (by exact wrapI (by omega) (by omega)) rfl rfl bd rfl rfl) ?_
    refine p1 (ok_call (rfOf_con _ _ (by omega) (by omega) (by omega) (by omega)) rfl rfl bd Tryz.func35 rfl rfl (.cons rfl Conv.any (.cons rfl Conv.any .nil)) rfl hfr rfl) ?_
    refine p1 (ok_store rfl rfl rfl rfl rfl rfl rfl (ty_rat).2 rfl rfl rfl rfl) ?_
    refine RV.done ?_
    refine CV.ret ?_
    have e : numRp zs p = Rat.divInt (atI zs (p + 1) 20001 - 10000) (1 + atI zs (p + 2) 1000) := by unfold numRp; rw [if_neg (by simpa using h1), if_neg (by simpa using h2), if_neg (by simpa using h3)]
    exact fin1 rfl (.inr rfl) ⟨_, _, _, _, _, rfl, rfl, rfl, ty_rat⟩ (is_rt (by rw [e]) (by rw [e]) (by omega))

/-! Whole. -/
theorem dig_pos {m : Nat} : 0 < (dig m).length ↔ m ≠ 0 := by
 rw [List.length_pos_iff, ne_eq, dig_eq_nil]
/-! Floor and Ceil of the reference. -/
theorem rSameT_con {x y : Int} (h : x = y) {j k : Nat} : Con Tryz.prog 36 [.d (Dm.int x j), .d (Dm.int y k)] (.one (.v (.bool true))) := by
 have q := rSame_con x y (j := j) (k := k)
 rwa [decide_eq_true h] at q

/-! Lists of rational numbers. -/
section
variable (l m : List Int) (c : Int) (hc1 : -9223372036854775808 ≤ c) (hc2 : c ≤ 9223372036854775807)
include hc1 hc2
end

theorem row_of_at {k : IntKind} {w : World} {v : Value} {zs : List Int} (h : (lstG none (ziV k zs)).is w v) : Row k w v zs := by
 obtain ⟨ao, cap, rfl, h1, h2⟩ := h
 rw [ziV_length] at h1 h2 ⊢
 refine ⟨ao, cap, rfl, h1.1, h1.2, fun hl => ?_⟩
 obtain ⟨b, off, e, cs, h3, h4⟩ := h2 hl
 obtain rfl := ziV_ats' h3
 exact ⟨b, off, e, fun i hi => h4 i _ (by rw [List.getElem?_map, List.getElem?_eq_getElem hi, List.getD_eq_getElem?_getD, List.getElem?_eq_getElem hi]; rfl)⟩
theorem row_slice {k : IntKind} {w : World} {v : Value} {zs : List Int} (h : Row k w v zs) : ∃ a n c, v = .slice a n c := by
 obtain ⟨a, c, h, _⟩ := h
 exact ⟨a, _, c, h⟩
def rawG (b : Bool) (zs : List Int) : Gen where
 is := fun w v => ∃ s, v = .agg #[.bool b, s] ∧ Row .i64 w s zs
 shape := some 2
 plain := true
 ok := fun w v ⟨s, h, hs⟩ => by
  obtain ⟨a, n, c, rfl⟩ := row_slice hs
  subst h
  exact ⟨[_, _], rfl, rfl, by simp [Value.oneCell']⟩
 pl := fun _ w v ⟨s, h, hs⟩ => by
  obtain ⟨a, n, c, rfl⟩ := row_slice hs
  subst h
  simp [Value.cells, notInt]
theorem VRaw_con (b : Bool) (zs : List Int) (r : Bool) (hr : validI b zs = r) : Con Tryz.prog 90 [.d (Dm.gen (rawG b zs))] (.one (.v (.bool r))) := by
 subst hr
 rintro L ρ w vs hlt hn hwf hall
 match vs, hall with
 | [v], ⟨h, _⟩ =>
  obtain ⟨s, rfl, hs⟩ := h w (Agree.refl _ _)
  refine (Valid_raw b s zs w hs).mono ?_
  rintro e w' ⟨rfl, h4⟩
  exact ⟨_, rfl, h4, rfl⟩
theorem rVRaw_con (b : Bool) (zs : List Int) (r : Bool) (hr : validI b zs = r) : Con Tryz.prog 95 [.d (Dm.gen (rawG b zs))] (.one (.v (.bool r))) := by
 subst hr
 rintro L ρ w vs hlt hn hwf hall
 match vs, hall with
 | [v], ⟨h, _⟩ =>
  obtain ⟨s, rfl, hs⟩ := h w (Agree.refl _ _)
  refine (refValid_raw b s zs w hs).mono ?_
  rintro e w' ⟨rfl, h4⟩
  exact ⟨_, rfl, h4, rfl⟩
theorem row_of_nums {w : World} {v : Value} {ds : List Nat} (h : Nums w v ds) : Row .i64 w v (ds.map Int.ofNat) := by
 obtain ⟨a, c, rfl, h2, h3, h4⟩ := h
 refine ⟨a, c, by rw [List.length_map], by rw [List.length_map]; exact h2, h3, fun hl => ?_⟩
 rw [List.length_map] at hl
 obtain ⟨b, off, h5, h6⟩ := h4 hl
 refine ⟨b, off, h5, fun i hi => ?_⟩
 rw [List.length_map] at hi
 rw [h6 i hi]
 simp [List.getD_eq_getElem?_getD, hi]
theorem valid_int {b : Bool} {zs : List Int} (h : validI b zs = true) : ∃ z : Int, decide (z < 0) = b ∧ (dig z.natAbs).map Int.ofNat = zs := by
 unfold validI at h
 rw [Bool.and_eq_true, List.all_eq_true] at h
 obtain ⟨h1, h2⟩ := h
 have h1' : ∀ z ∈ zs, 0 ≤ z ∧ z < 1000000000 := fun z hz => by simpa using h1 z hz
 obtain ⟨ds, rfl, hd⟩ : ∃ ds : List Nat, ds.map Int.ofNat = zs ∧ Dig ds := by
  refine ⟨zs.map Int.toNat, ?_, fun d hd => ?_⟩
  ·rw [List.map_map]
   conv => rhs; rw [← List.map_id zs]
   exact List.map_congr_left fun z hz => by
    have := h1' z hz
    show ((z.toNat : Nat) : Int) = z
    omega
  ·obtain ⟨z, hz, rfl⟩ := List.mem_map.1 hd
   have := h1' z hz
   omega
 rw [List.length_map] at h2
 have hv : dig (val ds) = ds := by
  rw [dig_val hd]
  rcases List.eq_nil_or_concat ds with e | ⟨i, l, e⟩
  ·rw [e]; rfl
  ·rw [List.concat_eq_append] at e
   rw [e]
   refine trimN_snoc ?_ i
   rintro rfl
   rw [e] at h2
   simp at h2
 refine ⟨mk b (val ds), ?_, ?_⟩
 ·unfold mk
  cases b with
  | false => simp
  | true =>
   have : val ds ≠ 0 := by
    intro e
    rw [e, dig_zero] at hv
    rw [← hv] at h2
    simp at h2
   simp
   omega
 ·rw [show (mk b (val ds)).natAbs = val ds by unfold mk; cases b <;> simp, hv]
theorem nums_of_row {w : World} {v : Value} {ds : List Nat} (h : Row .i64 w v (ds.map Int.ofNat)) : Nums w v ds := by
 obtain ⟨a, c, rfl, h2, h3, h4⟩ := h
 rw [List.length_map] at h2 h4 ⊢
 refine ⟨a, c, rfl, h2, h3, fun hl => ?_⟩
 obtain ⟨b, off, h5, h6⟩ := h4 hl
 refine ⟨b, off, h5, fun i hi => ?_⟩
 rw [h6 i hi]
 simp [List.getD_eq_getElem?_getD, hi]
section
variable {cx : Cx Dm} {n : Nat} {σ : St Dm} {o : Oper} {d t : Nat} {x y j : Operand}
theorem built_int (parts : List (Nat × Value)) : Tryz.prog.built 25 parts = Instr.fill ((#[(0, 1), (1, 1)] : Array (Nat × Nat))[·]?) #[.bool false, .slice none 0 0] parts := by kernel_rfl
theorem ok_braw {b : Bool} {zs : List Int} (ho : o.op = .build 25 #[(0, x), (1, y)]) (hd : o.dst = some d) (hn : d < n) (hx : opd σ x = .av (.one (.v (.bool b)))) (hy : opd σ y = .av (.one (ZI .i64 zs))) : OpOk Tryz.prog cx n σ o (opk x ++ opk y) [(.s d, .av (.one (.d (.gen (rawG b zs)))))] := by
 refine ok_read hd hn rfl fun σ' ρ a w h hk => ?_
 have e1 : a.eval x = .bool b := h.opd ((opd_same fun q hq => hk q (by simp [hq])).trans hx)
 have hr := h.opd ((opd_same fun q hq => hk q (by simp [hq])).trans hy)
 obtain ⟨s, m, c, e2⟩ := row_slice (row_of_at (hr w (Agree.refl _ _)))
 refine ⟨.agg #[.bool b, a.eval y], ?_, ?_⟩
 ·have hb : Tryz.prog.built 25 #[(0, a.eval x), (1, a.eval y)].toList = some #[.bool b, a.eval y] := by
   rw [e1, e2, built_int]
   kernel_rfl
  have hb2 := run_build w 25 #[(0, a.eval x), (1, a.eval y)] _ hb
  simp only [execOp, ho, Sem.run_bind]
  rw [show (#[(0, x), (1, y)] : Array (Nat × Operand)).map (fun p => (p.1, a.eval p.2)) = #[(0, a.eval x), (1, a.eval y)] by simp, hb2]
  rfl
 ·intro w' hw
  exact ⟨_, rfl, row_of_at (hr w' hw)⟩
end

/-! Valid. -/
theorem valid_dig (z : Int) : validI (decide (z < 0)) ((dig z.natAbs).map Int.ofNat) = true := by
 unfold validI
 rw [Bool.and_eq_true, List.all_eq_true]
 constructor
 ·intro x hx
  obtain ⟨d, hd, rfl⟩ := List.mem_map.1 hx
  have := dig_Dig z.natAbs d hd
  simp
  omega
 ·rw [List.length_map]
  split
  ·rename_i h
   have := dig_eq_nil.1 (List.eq_nil_of_length_eq_zero h)
   simp
   omega
  ·rename_i h
   have h0 : 0 < z.natAbs := Nat.pos_of_ne_zero fun e => h (by rw [e, dig_zero]; rfl)
   have := dig_last h0
   simp only [List.getD_eq_getElem?_getD, List.getElem?_map, bne_iff_ne] at this ⊢
   rw [List.getElem?_eq_getElem (by omega)] at this ⊢
   simp at this ⊢
   exact this
theorem rIValid_con (z : Int) {k : Nat} : Con Tryz.prog 95 [.d (Dm.int z k)] (.one (.v (.bool true))) := by
 rintro L ρ w vs hlt hn hwf hall
 match vs, hall with
 | [v], ⟨h, _⟩ =>
  obtain ⟨⟨s, rfl, hs⟩, _⟩ := h w (Agree.refl _ _)
  refine (refValid_raw _ s _ w (row_of_nums hs)).mono ?_
  rintro e w' ⟨rfl, h4⟩
  refine ⟨_, rfl, h4, ?_⟩
  show Value.bool _ = Value.bool _
  rw [valid_dig]
theorem rfValidG_con (p q : Int) (k : Nat) (hk : k ≤ 10000000) : Con Tryz.prog 31 [.d (Dm.rt p q k)] (.one (.v (.bool (decide (q = 0 ∨ (0 ≤ q ∧ q ≠ 1 ∧ Int.gcd p q = 1)))))) := by
 refine Con.of (n := 34) Tryz.func31 rfl rfl rfl rfl rfl fun cx hfr => ?_
 refine sr rfl ?_
 refine p2 (ok_box (i := 0) rfl rfl bd rfl rfl rfl rfl rfl) ?_
 refine mr rfl rfl bd rfl ?_
 refine RV.done ?_
 refine CV.seq ?_
 refine sr rfl ?_
 refine p1 (ok_fieldAddr fa_rat0 rfl rfl bd rfl) ?_
 refine p1 (ok_loadf 0 fld_num rfl rfl bd rfl rfl rfl rfl ty_int) ?_
 refine p1 (ok_call (rIValid_con _) rfl rfl bd Tryz.func95 rfl rfl (.cons rfl Conv.any .nil) rfl hfr rfl) ?_
 refine p1 (ok_not rfl rfl bd rfl) ?_
 refine ml rfl rfl bd rfl ?_
 refine RV.step1 (OpOk.yes (ok_fieldAddr fa_rat1 rfl rfl bd rfl) rfl rfl rfl) ?_
 refine RV.step1 (OpOk.yes (ok_loadf 2 fld_den rfl rfl bd rfl rfl rfl rfl ty_int) rfl rfl rfl) ?_
 refine RV.step1 (OpOk.yes (ok_call (rIValid_con _) rfl rfl bd Tryz.func95 rfl rfl (.cons rfl Conv.any .nil) rfl hfr rfl) rfl rfl rfl) ?_
 refine RV.step1 (OpOk.yes (ok_not rfl rfl bd rfl) rfl rfl rfl) ?_
 refine p1 (ok_pickF rfl rfl bd rfl rfl rfl) ?_
 refine ml rfl rfl bd rfl ?_
 refine RV.step1 (OpOk.yes (ok_fieldAddr fa_rat1 rfl rfl bd rfl) rfl rfl rfl) ?_
 refine RV.step1 (OpOk.yes (ok_fieldAddr fa_int0 rfl rfl bd rfl) rfl rfl rfl) ?_
 refine RV.step1 (OpOk.yes (ok_loadf 2 fld_nden rfl rfl bd rfl rfl rfl rfl ty_bool) rfl rfl rfl) ?_
 refine p1 (ok_pickF rfl rfl bd rfl rfl rfl) ?_
 refine ml rfl rfl bd rfl ?_
 refine RV.bool (fun h1 => ?_) (fun h1 => ?_)
 ·refine RV.step1 (OpOk.skip rfl rfl rfl rfl rfl bd) ?_
  refine RV.step1 (OpOk.skip rfl rfl rfl rfl rfl bd) ?_
  refine RV.step1 (OpOk.skip rfl rfl rfl rfl rfl bd) ?_
  refine p1 (ok_pickT rfl rfl bd rfl rfl rfl) ?_
  refine RV.done ?_
  refine CV.yes rfl ?_
  refine sr rfl ?_
  refine mr rfl rfl bd rfl ?_
  refine RV.done ?_
  refine CV.ret ?_
  have h1' : q < 0 := (by simpa using h1)
  exact fin1 rfl (.inr rfl) rfl (is_bool (by symm; rw [decide_eq_false_iff_not]; omega))
 ·refine RV.step1 (OpOk.yes (ok_fieldAddr fa_rat1 rfl rfl bd rfl) rfl rfl rfl) ?_
  refine RV.step1 (OpOk.yes (ok_loadf 2 fld_den rfl rfl bd rfl rfl rfl rfl ty_int) rfl rfl rfl) ?_
  refine RV.step1 (OpOk.yes (ok_call (rone_con _ _) rfl rfl bd Tryz.func104 rfl rfl (.cons rfl Conv.any .nil) rfl hfr rfl) rfl rfl rfl) ?_
  refine p1 (ok_pickF rfl rfl bd rfl rfl rfl) ?_
  refine RV.done ?_
  refine CV.cond rfl (fun h2 => ?_) (fun h2 => ?_)
  ·refine sr rfl ?_
   refine mr rfl rfl bd rfl ?_
   refine RV.done ?_
   refine CV.ret ?_
   have h2' : q = 1 := (by simpa using h2)
   exact fin1 rfl (.inr rfl) rfl (is_bool (by symm; rw [decide_eq_false_iff_not]; omega))
  ·refine CV.skip ?_
   refine CV.seq ?_
   refine sr rfl ?_
   refine p1 (ok_fieldAddr fa_rat1 rfl rfl bd rfl) ?_
   refine p1 (ok_fieldAddr fa_int1 rfl rfl bd rfl) ?_
   refine p1 (ok_loadf 3 fld_dden rfl rfl bd rfl rfl rfl rfl ty_ints) ?_
   refine p1 (ok_len rfl rfl bd rfl) ?_
   refine p1 (ok_eql rfl rfl bd rfl rfl) ?_
   refine RV.done ?_
   refine CV.cond rfl (fun h3 => ?_) (fun h3 => ?_)
   ·refine sr rfl ?_
    refine mr rfl rfl bd rfl ?_
    refine RV.done ?_
    refine CV.ret ?_
    have h3' : q = 0 := (by rw [dig_len_zero] at h3; simpa using h3)
    exact fin1 rfl (.inr rfl) rfl (is_bool (by symm; rw [decide_eq_true_eq]; exact .inl h3'))
   ·refine CV.skip ?_
    refine sr rfl ?_
    refine p1 (ok_fieldAddr fa_rat0 rfl rfl bd rfl) ?_
    refine p1 (ok_loadf 0 fld_num rfl rfl bd rfl rfl rfl rfl ty_int) ?_
    refine p1 (ok_fieldAddr fa_rat1 rfl rfl bd rfl) ?_
    refine p1 (ok_loadf 2 fld_den rfl rfl bd rfl rfl rfl rfl ty_int) ?_
    refine p1 (ok_call (rGcd_con _ _ (by omega) (by omega)) rfl rfl bd Tryz.func101 rfl rfl (.cons rfl Conv.any (.cons rfl Conv.any .nil)) rfl hfr rfl) ?_
    refine p1 (ok_call (rone_con _ _) rfl rfl bd Tryz.func104 rfl rfl (.cons rfl Conv.any .nil) rfl hfr rfl) ?_
    refine mr rfl rfl bd rfl ?_
    refine RV.done ?_
    refine CV.ret ?_
    have h1' : ¬ q < 0 := (by simpa using h1)
    have h2' : ¬ q = 1 := (by simpa using h2)
    have h3' : ¬ q = 0 := (by rw [dig_len_zero] at h3; simpa using h3)
    exact fin1 rfl (.inr rfl) rfl (is_bool (by rw [Bool.eq_iff_iff, decide_eq_true_eq, decide_eq_true_eq]; omega))

/-! Take. -/
section
variable (p q : Int) (l m z : List Int) (b : Bool) (hp1 : -9223372036854775808 ≤ p) (hp2 : p ≤ 9223372036854775807) (hq1 : -9223372036854775808 ≤ q) (hq2 : q ≤ 9223372036854775807)
include hp1 hp2 hq1 hq2
end
end Vc
end Go.Proofs.YtpgiebimhnhbiaaGreatDoor

namespace Go.Proofs.YtpgiebimhnhbiaaGreatDoor
open Dg Zn
namespace Vc
structure Simp (a b c d q p : Int) : Prop where
 hq : 0 < q
 hp : 0 < p
 lo : a * p ≤ q * b
 hi : q * d ≤ c * p
 min : ∀ u v : Int, 0 < v → a * v ≤ u * b → u * d ≤ c * v → q ≤ u ∧ p ≤ v
end Vc
end Go.Proofs.YtpgiebimhnhbiaaGreatDoor

namespace Go.Proofs.YtpgiebimhnhbiaaGreatDoor
open Go.RowKit
open Go.Lib (hid)
open Dg Zn Tx
namespace Vc
set_option linter.unusedSectionVars false

theorem Con.know {D : Type} [Dom D] {P : Program} {f : FuncId} {args : List (SA D)} {r : AV D} {φ : Prop} (h : ∀ L ρ w vs, isAll L ρ w args vs → φ) (k : φ → Con P f args r) : Con P f args r := fun L ρ w vs h1 h2 h3 h4 => k (h L ρ w vs h4) L ρ w vs h1 h2 h3 h4
section
variable {cx : Cx Dm} {n : Nat} {σ : St Dm} {o : Oper} {d : Nat} {x : Operand}
end

/-! Plain. -/
/-! The reference's least. -/
section
variable (x y : Rat) (K : Nat) (hK : K ≤ 1000) (c : Int)
include hK
end
end Vc
end Go.Proofs.YtpgiebimhnhbiaaGreatDoor
