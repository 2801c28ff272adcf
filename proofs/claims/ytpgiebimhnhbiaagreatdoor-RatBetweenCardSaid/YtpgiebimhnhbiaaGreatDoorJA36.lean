/-
  numeral and Parse of package integer, for any text.
  Parse of package integer, for any text; Text.
  Text of package integer; strings.Cut at one byte; Parse and Text of package rat.
  Rows of numbers as data; functions that return a new row; Encode of package integer and of the references; equal bytes.
  Layer 5's examples hold.
  Towards RatRounds: numbers at any place, Whole, Floor, Ceil, sums of products.
  RatRounds: Dot of both sides, and the law.
  RatMakes: numbers of any digits, Valid of both sides, and the law.
  Plain: the fraction of least numerator and denominator between two others.
  Between of both sides, in general.
  RatBetween.
  RatBetween: the law.
-/
import Derived.Test.YtpgiebimhnhbiaaGreatDoorJA12
import Derived.Test.YtpgiebimhnhbiaaGreatDoorJA35
import Derived.Test.YtpgiebimhnhbiaaGreatDoorJA14
import Derived.Test.YtpgiebimhnhbiaaGreatDoorJA32
import Derived.Test.YtpgiebimhnhbiaaGreatDoorJA13
import Derived.Test.YtpgiebimhnhbiaaGreatDoorJA27
set_option linter.unusedVariables false
set_option linter.unusedSimpArgs false
set_option linter.unusedSectionVars false
namespace Go.Proofs.YtpgiebimhnhbiaaGreatDoor
open Go.RowKit
open Go.Lib (hid)
open Dg Zn Tx
namespace Vc
set_option maxRecDepth 100000

theorem isD_false {b : UInt8} (h : ((b.toNat : Int) < 48) ∨ (57 < (b.toNat : Int))) : isD b = false := by
 unfold isD
 rw [Bool.and_eq_false_iff, decide_eq_false_iff_not, decide_eq_false_iff_not]
 omega
theorem numB_bad {l : List UInt8} {k : Nat} (hk : k < l.length) (h : isD (l.getD k 0) = false) : numB l = false := by
 unfold numB
 rw [Bool.and_eq_false_iff]
 left
 rw [List.all_eq_false]
 exact ⟨l[k], List.getElem_mem hk, by rw [List.getD_eq_getElem?_getD, List.getElem?_eq_getElem hk] at h; simpa using h⟩
theorem take_isD {l : List UInt8} {k : Nat} (hk : k < l.length) (h : (l.take k).all isD = true) (h1 : ¬ ((l.getD k 0).toNat : Int) < 48) (h2 : ¬ (57 < ((l.getD k 0).toNat : Int))) : (l.take (k + 1)).all isD = true := by
 rw [List.take_add_one, List.all_append, h, Bool.true_and, List.getElem?_eq_getElem hk]
 rw [List.getD_eq_getElem?_getD, List.getElem?_eq_getElem hk] at h1 h2
 simp only [Option.getD_some] at h1 h2
 simp only [Option.toList, List.all_cons, List.all_nil, Bool.and_true]
 unfold isD
 rw [Bool.and_eq_true, decide_eq_true_eq, decide_eq_true_eq]
 omega
theorem all_take {l : List UInt8} {k : Nat} (hk : ¬ ((k : Int) < (l.length : Int))) (h : (l.take k).all isD = true) : l.all isD = true := by rwa [List.take_of_length_le (by omega)] at h

theorem ne48 (b : UInt8) : (((b.toNat : Nat) : Int) != 48) = (b != 48) := by
 rw [Bool.eq_iff_iff, bne_iff_ne, bne_iff_ne]
 constructor
 ·rintro h rfl; exact h rfl
 ·intro h e; exact h (UInt8.toNat_inj.1 (show b.toNat = 48 by omega))
theorem numeral_con (l : List UInt8) (hl : l.length ≤ 100000) : Con (D := Dm) Tryz.prog 84 [.v (str l)] (.one (.v (.bool (numB l)))) := by
 refine Con.of (n := 30) Tryz.func84 rfl rfl rfl rfl rfl fun cx hfr => ?_
 refine sr rfl ?_
 refine mr rfl rfl bd rfl ?_
 refine RV.done ?_
 refine CV.seq ?_
 refine sr rfl ?_
 refine ml rfl rfl bd rfl ?_
 refine p1 (ok_s2b (by omega) u_str u_bytes u_u8 rfl rfl bd rfl) ?_
 refine p1 (ok_lenL rfl u_bytes rfl rfl bd rfl) ?_
 refine ml rfl rfl bd rfl ?_
 refine RV.done ?_
 refine CV.block ?_
 refine CV.loop (X := {k : Nat // k ≤ l.length ∧ (l.take k).all isD = true}) (fun k => [(.s 8, .av (.one (.v (.int .i64 (k.1 : Int))))), (.s 6, .av (.one (BY l))), (.s 7, .av (.one (.v (.int .i64 (l.length : Int))))), (.s 0, .av (.one (.v (str l))))]) (fun k => l.length - k.1) ⟨0, Nat.zero_le _, by simp⟩ (Sub.mk ⟨XV.le_rfl _, XV.le_rfl _, XV.le_of (by rw [byV_length]; rfl), XV.le_rfl _, trivial⟩ rfl rfl) (fun k => ?_)
 obtain ⟨k, hk, hd⟩ := k
 simp only
 refine sr rfl ?_
 refine p1 (ok_lss rfl rfl bd rfl rfl) ?_
 refine RV.done ?_
 refine CV.seq ?_
 refine CV.cond rfl (fun hc => ?_) (fun hc => ?_)
 ·refine CV.skip ?_
  refine CV.seq ?_
  refine CV.block ?_
  refine sr rfl ?_
  refine p1 (ok_idxL (k := none) (i := k) (byV_at (by simpa using hc)) u_bytes sz_u8 (by decide) rfl rfl bd rfl rfl) ?_
  refine p1 (ok_loadP ty_u8 (by decide) rfl rfl bd rfl) ?_
  refine mr rfl rfl bd rfl ?_
  refine RV.done (sr rfl ?_)
  refine ml rfl rfl bd rfl ?_
  refine p1 (ok_lss rfl rfl bd rfl rfl) ?_
  refine ml rfl rfl bd rfl ?_
  refine RV.bool (fun hb => ?_) (fun hb => ?_)
  ·refine RV.step1 (OpOk.skip rfl rfl rfl rfl rfl bd) ?_
   refine RV.step1 (OpOk.skip rfl rfl rfl rfl rfl bd) ?_
   refine p1 (ok_pickT rfl rfl bd rfl rfl rfl) ?_
   refine RV.done ?_
   refine CV.yes rfl ?_
   refine sr rfl ?_
   refine mr rfl rfl bd rfl ?_
   refine RV.done ?_
   refine CV.ret ?_
   exact fin1 rfl (.inr rfl) rfl (is_bool (numB_bad (by simpa using hc) (isD_false (.inl (by simpa using hb)))).symm)
  ·refine RV.step1 (OpOk.yes (ok_move (.inl rfl) rfl bd rfl) rfl rfl rfl) ?_
   refine RV.step1 (OpOk.yes (ok_gtr rfl rfl bd rfl rfl) rfl rfl rfl) ?_
   refine p1 (ok_pickF rfl rfl bd rfl rfl rfl) ?_
   refine RV.done ?_
   refine CV.cond rfl (fun hg => ?_) (fun hg => ?_)
   ·refine sr rfl ?_
    refine mr rfl rfl bd rfl ?_
    refine RV.done ?_
    refine CV.ret ?_
    exact fin1 rfl (.inr rfl) rfl (is_bool (numB_bad (by simpa using hc) (isD_false (.inr (by simpa using hg)))).symm)
   ·refine CV.skip ?_
    refine CV.region rfl (fun h => nomatch h) ?_
    refine p1 (ok_add (c := ((k + 1 : Nat) : Int)) (by rw [wrapI (by omega) (by omega)]; omega) rfl rfl bd rfl rfl) ?_
    refine ml rfl rfl bd rfl ?_
    refine RV.done ?_
    have hlt : k < l.length := by simpa using hc
    exact ⟨⟨k + 1, hlt, take_isD hlt hd (by simpa using hb) (by simpa using hg)⟩, Sub.mk ⟨XV.le_rfl _, XV.le_rfl _, XV.le_rfl _, XV.le_rfl _, trivial⟩ rfl rfl, by show l.length - (k + 1) < l.length - k; omega⟩
 ·refine CV.exit ?_
  refine sr rfl ?_
  refine ml rfl rfl bd rfl ?_
  refine p1 (ok_eqT rfl rfl rfl bd rfl rfl) ?_
  refine ml rfl rfl bd rfl ?_
  refine RV.bool (fun h1 => ?_) (fun h1 => ?_)
  ·refine RV.step1 (OpOk.skip rfl rfl rfl rfl rfl bd) ?_
   refine RV.step1 (OpOk.skip rfl rfl rfl rfl rfl bd) ?_
   refine RV.step1 (OpOk.skip rfl rfl rfl rfl rfl bd) ?_
   refine RV.step1 (OpOk.skipU rfl rfl rfl rfl bd) ?_
   refine RV.step1 (OpOk.skipU rfl rfl rfl rfl bd) ?_
   refine RV.step1 (OpOk.skipU rfl rfl rfl rfl bd) ?_
   refine RV.step1 (OpOk.skip rfl rfl rfl rfl rfl bd) ?_
   refine p1 (ok_pickT rfl rfl bd rfl rfl rfl) ?_
   refine mr rfl rfl bd rfl ?_
   refine RV.done ?_
   refine CV.ret ?_
   have ha := all_take (by simpa using hc) hd
   exact fin1 rfl (.inr rfl) rfl (is_bool (by unfold numB; rw [ha, h1]; rfl))
  ·refine RV.step1 (OpOk.yes (ok_move (.inl rfl) rfl bd rfl) rfl rfl rfl) ?_
   refine RV.step1 (OpOk.yes (ok_neT rfl rfl rfl bd rfl rfl) rfl rfl rfl) ?_
   refine RV.step1 (OpOk.yes (ok_move (.inl rfl) rfl bd rfl) rfl rfl rfl) ?_
   refine RV.bool (fun h2 => ?_) (fun h2 => ?_)
   ·refine RV.step1 (OpOk.yes (ok_move (.inl rfl) rfl bd rfl) rfl rfl rfl) ?_
    refine RV.step1 (OpOk.yes (ok_idxT (i := 0) (List.length_pos_iff.2 (by simpa using h2)) u_str rfl rfl bd rfl rfl) rfl rfl rfl) ?_
    refine RV.step1 (OpOk.yes (ok_neq rfl rfl bd rfl rfl) rfl rfl rfl) ?_
    refine RV.step1 (OpOk.yes (ok_pickT rfl rfl bd rfl rfl rfl) rfl rfl rfl) ?_
    refine p1 (ok_pickF rfl rfl bd rfl rfl rfl) ?_
    refine mr rfl rfl bd rfl ?_
    refine RV.done ?_
    refine CV.ret ?_
    have ha := all_take (by simpa using hc) hd
    exact fin1 rfl (.inr rfl) rfl (is_bool (by unfold numB; rw [ha, h1, h2]; simp only [Bool.true_and, Bool.false_or]; exact ne48 _))
   ·refine RV.step1 (OpOk.skip rfl rfl rfl rfl rfl bd) ?_
    refine RV.step1 (OpOk.skip rfl rfl rfl rfl rfl bd) ?_
    refine RV.step1 (OpOk.skip rfl rfl rfl rfl rfl bd) ?_
    refine RV.step1 (OpOk.yes (ok_pickF rfl rfl bd rfl rfl rfl) rfl rfl rfl) ?_
    refine p1 (ok_pickF rfl rfl bd rfl rfl rfl) ?_
    refine mr rfl rfl bd rfl ?_
    refine RV.done ?_
    refine CV.ret ?_
    have ha := all_take (by simpa using hc) hd
    exact fin1 rfl (.inr rfl) rfl (is_bool (by unfold numB; rw [ha, h1, h2]; rfl))

theorem conF_vals {f : FuncId} {us : List Value} {r : AV Dm} (h : ∀ w, Calls Tryz.prog f us.toArray w fun e w' => ∃ v, e = .returned v ∧ Below w.heap.size w w' ∧ ∀ L ρ, r.is L ρ w' v) : ConF Tryz.prog f (us.map fun u => SA.v u) r := by
 intro L ρ w vs _ hall
 have key : ∀ (us vs : List Value), isAll L ρ w (us.map fun u => (SA.v u : SA Dm)) vs → vs = us := by
  intro us
  induction us with
  | nil => intro vs h; cases vs with | nil => rfl | cons => exact h.elim
  | cons u us ih =>
   intro vs h
   cases vs with
   | nil => exact h.elim
   | cons v vs => rw [show v = u from h.1, ih vs h.2]
 rw [key us vs hall]
 refine (h w).mono ?_
 rintro e w' ⟨v, h1, h2, h3⟩
 exact ⟨v, h1, h2, h3 L ρ⟩
theorem cutm (l : List UInt8) : Lib.hasPrefix l [45] = (l.getD 0 0 == 45) ∧ Lib.trimPrefix l [45] = if l.getD 0 0 == 45 then l.drop 1 else l := by
 cases l with
 | nil => exact ⟨by decide, by decide⟩
 | cons b l =>
  constructor
  ·rw [Bool.eq_iff_iff]
   simp [Lib.hasPrefix, List.isPrefixOf]
   exact eq_comm
  ·by_cases e : b = 45
   ·subst e; rfl
   ·have h1 : (b == 45) = false := beq_eq_false_iff_ne.2 e
    have h2 : Lib.hasPrefix (b :: l) [45] = false := by
     simp [Lib.hasPrefix, List.isPrefixOf]
     exact fun h => e h.symm
    unfold Lib.trimPrefix
    rw [show (b :: l).getD 0 0 = b from rfl, h1, h2]
    rfl
theorem CutPrefix_con (l : List UInt8) : ConF (D := Dm) Tryz.prog 83 [.v (str l), .v (str [45])] (.tup [.v (str (if l.getD 0 0 == 45 then l.drop 1 else l)), .v (.bool (l.getD 0 0 == 45))]) :=
 conF_vals (us := [str l, str [45]]) fun w => by
  refine (Tryz.strings_CutPrefix ⟨l.toArray⟩ ⟨#[45]⟩ w).mono ?_
  rintro e w' ⟨rfl, rfl⟩
  refine ⟨_, rfl, Below.refl _ _, fun L ρ => ⟨[_, _], rfl, ?_, ?_, trivial⟩⟩
  ·show Value.string _ = Value.string _
   rw [← (cutm l).2]
  ·show Value.bool _ = Value.bool _
   rw [← (cutm l).1]
theorem Atoi_con (l : List UInt8) (h : l.all isD = true) (hn : l ≠ []) (hl : l.length ≤ 18) : ConF (D := Dm) Tryz.prog 85 [.v (str l)] (.tup [.v (.int .i64 ((valD l : Nat) : Int)), .v .nilIface]) :=
 conF_vals (us := [str l]) fun w => by
  refine (Tryz.strconv_Atoi ⟨l.toArray⟩ _ (by rw [str_sz]; exact hl) (atoi_val l h hn) w).mono ?_
  rintro e w' ⟨rfl, t, rfl⟩
  exact ⟨_, rfl, bw_below _ _ _, fun L ρ => ⟨[_, _], rfl, rfl, rfl, trivial⟩⟩
def nuV (ds : List Nat) : List (SA Dm) := ds.map fun (d : Nat) => .v (.int .i64 (d : Int))
theorem nuV_length (ds : List Nat) : (nuV ds).length = ds.length := by simp [nuV]
theorem nuV_snoc (ds : List Nat) (x : Nat) : nuV ds ++ [.v (.int .i64 (x : Int))] = nuV (ds ++ [x]) := by simp [nuV]
theorem nuV_ats {w : World} : ∀ {ds : List Nat} {cs : List Value}, Ats w none (nuV ds) cs → cs = ds.map fun (d : Nat) => Value.int .i64 (d : Int)
 | [], _, h => h
 | b :: l, _, ⟨p, r, v, h1, h2, h3, h4⟩ => by
  have e1 : p = [v] := h2.1
  have e2 : v = .int .i64 (b : Int) := h3
  rw [h1, e1, e2, nuV_ats h4]
  rfl
theorem nuV_Lst (ds : List Nat) : Lst (Dm.dl ds) none (nuV ds) := by
 intro w b off c cs hl hm h1 h2
 rw [nuV_length] at hl ⊢
 obtain rfl := nuV_ats h1
 exact ⟨_, _, rfl, hl, hm, fun hp => ⟨b, off, rfl, fun i hi => h2 i _ (by simp [List.getElem?_eq_getElem hi, List.getD_eq_getElem?_getD])⟩⟩
theorem nuV_Lst0 (ds : List Nat) : nuV ds = [] → Lst0 (Dm.dl ds) := by
 intro h w a
 obtain rfl : ds = [] := List.map_eq_nil_iff.1 h
 exact ⟨a, 0, rfl, Nat.le_refl _, by decide, fun h => absurd h (Nat.lt_irrefl _)⟩
theorem signed_con (b : Bool) (ds : List Nat) (k : Nat) (hds : Dig ds) (hk : len (mk b (val ds)) ≤ k) : Con Tryz.prog 86 [.v (.bool b), .d (Dm.dl ds)] (.one (.d (Dm.int (mk b (val ds)) k))) := by
 rintro L ρ w vs hlt hn hwf hall
 match vs, hall with
 | [u, v], ⟨h1, h2, _⟩ =>
  obtain rfl : u = _ := h1
  refine (signed_any b v ds w (h2 w (Agree.refl _ _)) hds).mono ?_
  rintro e w' ⟨r, rfl, h3, h4⟩
  exact ⟨r, rfl, h4, int_is (ρ := ρ) h3 hk hn hlt h4⟩
theorem len_mk (b : Bool) (ds : List Nat) (hd : Dig ds) : len (mk b (val ds)) ≤ ds.length := by
 show (dig (mk b (val ds)).natAbs).length ≤ _
 rw [mk_abs]
 exact dig_length_le.2 (val_lt hd)

section
variable (l d : List UInt8) (ng : Bool)
theorem ParseLimit_con (h : 65536 < l.length) : Con (D := Dm) Tryz.prog 11 [.v (str l)] (.tup [.d (Dm.int 0 7300), .v (.int .i64 4)]) := by
 refine Con.of (n := 59) Tryz.func11 rfl rfl rfl rfl rfl fun cx hfr => ?_
 refine sr rfl ?_
 refine p2 (ok_alloc (i := 0) rfl rfl bd zero_int rfl rfl rfl rfl) ?_
 refine mr rfl rfl bd rfl ?_
 refine RV.done ?_
 refine CV.seq ?_
 refine sr rfl ?_
 refine ml rfl rfl bd rfl ?_
 refine p1 (ok_lenT rfl u_str rfl rfl bd rfl) ?_
 refine p1 (ok_gtr rfl rfl bd rfl rfl) ?_
 refine RV.done ?_
 refine CV.cond rfl (fun hc => ?_) (fun hc => False.elim (by simp at hc; omega))
 refine sr rfl ?_
 refine p1 (ok_buildI rfl rfl bd) ?_
 refine p1 (ok_store rfl rfl rfl rfl rfl rfl rfl (ty_int).2 rfl rfl rfl rfl) ?_
 refine mr rfl rfl bd rfl ?_
 refine RV.done ?_
 refine CV.ret ?_
 exact fin2 rfl (.inr rfl) ⟨_, _, _, _, _, rfl, rfl, rfl, ty_int⟩ rfl (is_pair (is_lenle (by show (dig 0).length ≤ _; rw [dig_zero]; exact Nat.zero_le _)) (fun _ _ _ _ h => h))
theorem ParseForm_con (h : ¬ 65536 < l.length) (hd : d = if l.getD 0 0 == 45 then l.drop 1 else l) (hg : ng = (l.getD 0 0 == 45)) (hbad : (!numB d || (ng && d == [48])) = true) : Con (D := Dm) Tryz.prog 11 [.v (str l)] (.tup [.d (Dm.int 0 7300), .v (.int .i64 2)]) := by
 have hdl : d.length ≤ 65536 := by rw [hd]; split <;> first | omega | (rw [List.length_drop]; omega)
 refine Con.of (n := 59) Tryz.func11 rfl rfl rfl rfl rfl fun cx hfr => ?_
 refine sr rfl ?_
 refine p2 (ok_alloc (i := 0) rfl rfl bd zero_int rfl rfl rfl rfl) ?_
 refine mr rfl rfl bd rfl ?_
 refine RV.done ?_
 refine CV.seq ?_
 refine sr rfl ?_
 refine ml rfl rfl bd rfl ?_
 refine p1 (ok_lenT rfl u_str rfl rfl bd rfl) ?_
 refine p1 (ok_gtr rfl rfl bd rfl rfl) ?_
 refine RV.done ?_
 refine CV.cond rfl (fun hc => False.elim (by simp at hc; omega)) (fun hc => ?_)
 refine CV.skip ?_
 refine sr rfl ?_
 refine ml rfl rfl bd rfl ?_
 refine p1 (ok_callF ((show ConF (D := Dm) Tryz.prog _ _ (.tup [.v (str d), .v (.bool ng)]) by have q := CutPrefix_con l; rw [← hg] at q; rw [hd, ← hg]; exact q)) rfl rfl bd Tryz.func83 rfl rfl (.cons rfl Conv.any (.cons rfl Conv.any .nil)) rfl) ?_
 refine ml rfl rfl bd rfl ?_
 refine p1 (ok_extract rfl rfl bd rfl rfl) ?_
 refine p1 (ok_extract rfl rfl bd rfl rfl) ?_
 refine mr rfl rfl bd rfl ?_
 refine mr rfl rfl bd rfl ?_
 refine RV.done ?_
 refine CV.seq ?_
 refine sr rfl ?_
 refine ml rfl rfl bd rfl ?_
 refine p1 (ok_call (numeral_con _ (by omega)) rfl rfl bd Tryz.func84 rfl rfl (.cons rfl Conv.any .nil) rfl hfr rfl) ?_
 refine p1 (ok_not rfl rfl bd rfl) ?_
 refine ml rfl rfl bd rfl ?_
 refine RV.bool (fun hn => ?_) (fun hn => ?_)
 ·refine RV.step1 (OpOk.skip rfl rfl rfl rfl rfl bd) ?_
  refine RV.step1 (OpOk.skip rfl rfl rfl rfl rfl bd) ?_
  refine RV.step1 (OpOk.skipU rfl rfl rfl rfl bd) ?_
  refine RV.step1 (OpOk.skipU rfl rfl rfl rfl bd) ?_
  refine RV.step1 (OpOk.skip rfl rfl rfl rfl rfl bd) ?_
  refine p1 (ok_pickT rfl rfl bd rfl rfl rfl) ?_
  refine RV.done ?_
  refine CV.yes rfl ?_
  refine sr rfl ?_
  refine p1 (ok_buildI rfl rfl bd) ?_
  refine p1 (ok_store rfl rfl rfl rfl rfl rfl rfl (ty_int).2 rfl rfl rfl rfl) ?_
  refine mr rfl rfl bd rfl ?_
  refine RV.done ?_
  refine CV.ret ?_
  exact fin2 rfl (.inr rfl) ⟨_, _, _, _, _, rfl, rfl, rfl, ty_int⟩ rfl (is_pair (is_lenle (by show (dig 0).length ≤ _; rw [dig_zero]; exact Nat.zero_le _)) (fun _ _ _ _ h => h))
 ·refine RV.step1 (OpOk.yes (ok_move (.inl rfl) rfl bd rfl) rfl rfl rfl) ?_
  refine RV.step1 (OpOk.yes (ok_move (.inl rfl) rfl bd rfl) rfl rfl rfl) ?_
  refine RV.bool (fun hb => ?_) (fun hb => False.elim (by rw [hb] at hbad; simp at hn hbad; rw [hn] at hbad; cases hbad))
  refine RV.step1 (OpOk.yes (ok_move (.inl rfl) rfl bd rfl) rfl rfl rfl) ?_
  refine RV.step1 (OpOk.yes (ok_eqT rfl rfl rfl bd rfl rfl) rfl rfl rfl) ?_
  refine RV.step1 (OpOk.yes (ok_pickT rfl rfl bd rfl rfl rfl) rfl rfl rfl) ?_
  refine p1 (ok_pickF rfl rfl bd rfl rfl rfl) ?_
  refine RV.done ?_
  refine CV.cond rfl (fun hc => ?_) (fun hc => False.elim (by simp at hn; rw [hn] at hbad; simp at hbad; rw [hbad.2] at hc; exact absurd hc (by decide)))
  refine sr rfl ?_
  refine p1 (ok_buildI rfl rfl bd) ?_
  refine p1 (ok_store rfl rfl rfl rfl rfl rfl rfl (ty_int).2 rfl rfl rfl rfl) ?_
  refine mr rfl rfl bd rfl ?_
  refine RV.done ?_
  refine CV.ret ?_
  exact fin2 rfl (.inr rfl) ⟨_, _, _, _, _, rfl, rfl, rfl, ty_int⟩ rfl (is_pair (is_lenle (by show (dig 0).length ≤ _; rw [dig_zero]; exact Nat.zero_le _)) (fun _ _ _ _ h => h))
theorem ParseOkP_con (h : ¬ 65536 < l.length) (hd : d = if l.getD 0 0 == 45 then l.drop 1 else l) (hg : false = (l.getD 0 0 == 45)) (hnum : numB d = true) (h0 : ¬ (false = true ∧ d = [48])) : Con (D := Dm) Tryz.prog 11 [.v (str l)] (.tup [.d (Dm.int (mk false (valD d)) 7300), .v (.int .i64 0)]) := by
 have hdl : d.length ≤ 65536 := by rw [hd]; split <;> first | omega | (rw [List.length_drop]; omega)
 have hall : d.all isD = true := by unfold numB at hnum; rw [Bool.and_eq_true] at hnum; exact hnum.1
 have hsub : ∀ m : List UInt8, (∀ x ∈ m, x ∈ d) → m.all isD = true := fun m hm => List.all_eq_true.2 fun x hx => List.all_eq_true.1 hall x (hm x hx)
 have hcl := chunks_len 7282 d (by omega)
 refine Con.of (n := 59) Tryz.func11 rfl rfl rfl rfl rfl fun cx hfr => ?_
 refine sr rfl ?_
 refine p2 (ok_alloc (i := 0) rfl rfl bd zero_int rfl rfl rfl rfl) ?_
 refine mr rfl rfl bd rfl ?_
 refine RV.done ?_
 refine CV.seq ?_
 refine sr rfl ?_
 refine ml rfl rfl bd rfl ?_
 refine p1 (ok_lenT rfl u_str rfl rfl bd rfl) ?_
 refine p1 (ok_gtr rfl rfl bd rfl rfl) ?_
 refine RV.done ?_
 refine CV.cond rfl (fun hc => False.elim (by simp at hc; omega)) (fun hc => ?_)
 refine CV.skip ?_
 refine sr rfl ?_
 refine ml rfl rfl bd rfl ?_
 refine p1 (ok_callF ((show ConF (D := Dm) Tryz.prog _ _ (.tup [.v (str d), .v (.bool false)]) by have q := CutPrefix_con l; rw [← hg] at q; rw [hd, ← hg]; exact q)) rfl rfl bd Tryz.func83 rfl rfl (.cons rfl Conv.any (.cons rfl Conv.any .nil)) rfl) ?_
 refine ml rfl rfl bd rfl ?_
 refine p1 (ok_extract rfl rfl bd rfl rfl) ?_
 refine p1 (ok_extract rfl rfl bd rfl rfl) ?_
 refine mr rfl rfl bd rfl ?_
 refine mr rfl rfl bd rfl ?_
 refine RV.done ?_
 refine CV.seq ?_
 refine sr rfl ?_
 refine ml rfl rfl bd rfl ?_
 refine p1 (ok_call (numeral_con _ (by omega)) rfl rfl bd Tryz.func84 rfl rfl (.cons rfl Conv.any .nil) rfl hfr rfl) ?_
 refine p1 (ok_not rfl rfl bd rfl) ?_
 refine ml rfl rfl bd rfl ?_
 refine RV.bool (fun hb => False.elim (by rw [hnum] at hb; cases hb)) (fun hb => ?_)
 refine RV.step1 (OpOk.yes (ok_move (.inl rfl) rfl bd rfl) rfl rfl rfl) ?_
 refine RV.step1 (OpOk.yes (ok_move (.inl rfl) rfl bd rfl) rfl rfl rfl) ?_
 refine RV.step1 (OpOk.skip rfl rfl rfl rfl rfl bd) ?_
 refine RV.step1 (OpOk.skip rfl rfl rfl rfl rfl bd) ?_
 refine RV.step1 (OpOk.yes (ok_pickF rfl rfl bd rfl rfl rfl) rfl rfl rfl) ?_
 refine p1 (ok_pickF rfl rfl bd rfl rfl rfl) ?_
 refine RV.done ?_
 refine CV.no rfl ?_
 refine CV.skip ?_
 refine sr rfl ?_
 refine ml rfl rfl bd rfl ?_
 refine p1 (ok_lenT rfl u_str rfl rfl bd rfl) ?_
 refine p1 (ok_quo (c := ((d.length / 9 : Nat) : Int)) (by decide) (by rw [Int.tdiv_eq_ediv_of_nonneg (by omega), wrapI (by omega) (by omega)]; omega) rfl rfl bd rfl rfl) ?_
 refine p1 (ok_add (c := ((d.length / 9 + 1 : Nat) : Int)) (by rw [wrapI (by omega) (by omega)]; omega) rfl rfl bd rfl rfl) ?_
 refine RV.step3 (OpOk.plain (ok_makeN (r := 10) (m := 0) (c := d.length / 9 + 1) (k := none) (Nat.zero_le _) (by omega) (by omega) u_ints inf_i64 rfl rfl rfl rfl bd rfl rfl rfl rfl rfl) rfl) ?_
 refine mr rfl rfl bd rfl ?_
 refine RV.done ?_
 refine CV.seq ?_
 refine CV.block ?_
 refine CV.loop (X := {q : Nat × List Nat // q.1 ≤ d.length ∧ q.2 ++ chunks (d.take q.1) = chunks d}) (fun q => [(.s 4, .av (.one (.v (str (d.take q.1.1))))), (.s 6, .av (.one (.sl 10 q.1.2.length))), (.b 10, .row 3 none (nuV q.1.2)), (KP, .np [10]), (.s 5, .av (.one (.v (.bool false)))), (.s 2, .av (.one (.ptr 0 0))), (.b 0, .blk 25 [(some 2, .v (.agg #[.bool false, .slice none 0 0]))])]) (fun q => q.1.1) ⟨(d.length, []), Nat.le_refl _, by rw [List.take_length]; rfl⟩ (Sub.mk ⟨XV.le_of (by rw [List.take_length]; rfl), XV.le_rfl _, XV.le_rfl _, trivial, XV.le_rfl _, XV.le_rfl _, XV.le_rfl _, trivial⟩ rfl rfl rfl rfl) (fun q => ?_)
 obtain ⟨⟨m, ds⟩, hm1, hm2⟩ := q
 simp only at hm1 hm2 ⊢
 have hml : (d.take m).length = m := by rw [List.length_take]; omega
 have hds : ds.length ≤ 7282 := by have := congrArg List.length hm2; rw [List.length_append] at this; omega
 refine CV.seq ?_
 refine sr rfl ?_
 refine ml rfl rfl bd rfl ?_
 refine p1 (ok_lenT hml u_str rfl rfl bd rfl) ?_
 refine p1 (ok_gtr rfl rfl bd rfl rfl) ?_
 refine RV.done ?_
 refine CV.cond rfl (fun hc => ?_) (fun hc => ?_)
 ·refine CV.skip ?_
  refine CV.block ?_
  refine sr rfl ?_
  refine ml rfl rfl bd rfl ?_
  refine p1 (ok_lenT hml u_str rfl rfl bd rfl) ?_
  refine p1 (ok_sub (c := (m : Int) - 9) (by rw [wrapI (by omega) (by omega)]) rfl rfl bd rfl rfl) ?_
  refine p1 (ok_maxI (c := ((m - 9 : Nat) : Int)) (by split <;> omega) rfl rfl bd rfl rfl) ?_
  refine mr rfl rfl bd rfl ?_
  refine RV.done (sr rfl ?_)
  refine ml rfl rfl bd rfl ?_
  refine ml rfl rfl bd rfl ?_
  refine p1 (ok_cutT (v := (d.take m).drop (m - 9)) (some (m - 9)) none (by show ((d.take m).take (d.take m).length).drop (m - 9) = _; rw [List.take_length]) (by show m - 9 ≤ (d.take m).length; omega) (Nat.le_refl _) u_str rfl rfl bd rfl rfl trivial) ?_
  refine p1 (ok_callF (Atoi_con _ (hsub _ fun x hx => List.mem_of_mem_take (List.mem_of_mem_drop hx)) (fun e => by have := congrArg List.length e; rw [List.length_drop, hml, List.length_nil] at this; have : 0 < m := (by simpa using hc); omega) (by rw [List.length_drop, hml]; omega)) rfl rfl bd Tryz.func85 rfl rfl (.cons rfl Conv.any .nil) rfl) ?_
  refine ml rfl rfl bd rfl ?_
  refine p1 (ok_extract rfl rfl bd rfl rfl) ?_
  refine p1 (ok_extract rfl rfl bd rfl rfl) ?_
  refine mr rfl rfl bd rfl ?_
  refine mr rfl rfl bd rfl ?_
  refine RV.done (sr rfl ?_)
  refine ml rfl rfl bd rfl ?_
  refine ml rfl rfl bd rfl ?_
  refine p1 (ok_litD (G := Dm.gen (lstG none [_])) (lstG_Lst none _) u_ints zs_i64 rfl rfl rfl (by intro s hs; obtain rfl := List.mem_singleton.1 hs; rfl) rfl rfl rfl bd (.cons rfl Conv.any .nil)) ?_
  refine RV.step4 (OpOk.plain (ok_appendN (r := 10) (r' := 11) (k := none) (lst_elems (by decide) rfl) (by rw [nuV_length]; simp; omega) (by rw [nuV_length]; simp; omega) u_ints inf_i64 rfl rfl (nuV_length _).symm rfl rfl bd rfl rfl rfl rfl rfl rfl rfl) rfl) ?_
  refine mr rfl rfl bd rfl ?_
  refine RV.done ?_
  refine CV.region rfl (fun h => nomatch h) ?_
  refine ml rfl rfl bd rfl ?_
  refine ml rfl rfl bd rfl ?_
  refine p1 (ok_cutT (v := d.take (m - 9)) none (some (m - 9)) (by show ((d.take m).take (m - 9)).drop 0 = _; rw [List.drop_zero, List.take_take, Nat.min_eq_left (by omega)]) (Nat.zero_le _) (by show m - 9 ≤ (d.take m).length; omega) u_str rfl rfl bd rfl trivial rfl) ?_
  refine mr rfl rfl bd rfl ?_
  refine RV.done ?_
  have h0 : 0 < m := (by simpa using hc)
  have hstep : chunks (d.take m) = valD ((d.take m).drop (m - 9)) :: chunks (d.take (m - 9)) := by rw [chunks_cons (fun e => by rw [e] at hml; simp at hml; omega), hml, List.take_take, Nat.min_eq_left (by omega)]
  exact ⟨⟨(m - 9, ds ++ [valD ((d.take m).drop (m - 9))]), by show m - 9 ≤ d.length; omega, by show (ds ++ [_]) ++ chunks (d.take (m - 9)) = _; rw [List.append_assoc, ← hm2, hstep]; rfl⟩, Sub.mkr (fun i => if i = 10 then 11 else i) ⟨XV.le_same, XV.le_sl rfl (by simp [nuV_length]), XV.le_row (nuV_snoc ds _), trivial, XV.le_same, fun _ _ _ _ h => h, ⟨rfl, fun _ _ _ _ h => h⟩, trivial⟩ rfl rfl rfl rfl, by show m - 9 < m; omega⟩
 ·refine CV.exit ?_
  refine CV.seq ?_
  have hm0 : m = 0 := by have : ¬ 0 < m := (by simpa using hc); omega
  subst hm0
  rw [List.take_zero, chunks_nil, List.append_nil] at hm2
  refine CV.freeze (r := 10) (t := 6) (G := Dm.dl ds) (cx.bw hfr) rfl rfl (nuV_length ds).symm rfl rfl (nuV_Lst ds) (nuV_Lst0 ds) ?_
  refine CV.kp [] rfl rfl ?_
  refine CV.region rfl (fun h => nomatch h) ?_
  refine ml rfl rfl bd rfl ?_
  refine ml rfl rfl bd rfl ?_
  refine p1 (ok_call (signed_con _ _ 7300 (by rw [hm2]; exact chunks_Dig 7282 d (by omega) hall) (Nat.le_trans (len_mk _ _ (by rw [hm2]; exact chunks_Dig 7282 d (by omega) hall)) (by omega))) rfl rfl bd Tryz.func86 rfl rfl (.cons rfl Conv.any (.cons rfl Conv.any .nil)) rfl hfr rfl) ?_
  refine p1 (ok_store rfl rfl rfl rfl rfl rfl rfl (ty_int).2 rfl rfl rfl rfl) ?_
  refine mr rfl rfl bd rfl ?_
  refine RV.done ?_
  refine CV.ret ?_
  exact fin2 rfl (.inr rfl) ⟨_, _, _, _, _, rfl, rfl, rfl, ty_int⟩ rfl (is_pair (is_int' (by rw [hm2, chunks_val 7282 d (by omega)]) (Nat.le_refl _)) (fun _ _ _ _ h => h))
theorem ParseOkN_con (h : ¬ 65536 < l.length) (hd : d = if l.getD 0 0 == 45 then l.drop 1 else l) (hg : true = (l.getD 0 0 == 45)) (hnum : numB d = true) (h0 : ¬ (true = true ∧ d = [48])) : Con (D := Dm) Tryz.prog 11 [.v (str l)] (.tup [.d (Dm.int (mk true (valD d)) 7300), .v (.int .i64 0)]) := by
 have hdl : d.length ≤ 65536 := by rw [hd]; split <;> first | omega | (rw [List.length_drop]; omega)
 have hall : d.all isD = true := by unfold numB at hnum; rw [Bool.and_eq_true] at hnum; exact hnum.1
 have hsub : ∀ m : List UInt8, (∀ x ∈ m, x ∈ d) → m.all isD = true := fun m hm => List.all_eq_true.2 fun x hx => List.all_eq_true.1 hall x (hm x hx)
 have hcl := chunks_len 7282 d (by omega)
 refine Con.of (n := 59) Tryz.func11 rfl rfl rfl rfl rfl fun cx hfr => ?_
 refine sr rfl ?_
 refine p2 (ok_alloc (i := 0) rfl rfl bd zero_int rfl rfl rfl rfl) ?_
 refine mr rfl rfl bd rfl ?_
 refine RV.done ?_
 refine CV.seq ?_
 refine sr rfl ?_
 refine ml rfl rfl bd rfl ?_
 refine p1 (ok_lenT rfl u_str rfl rfl bd rfl) ?_
 refine p1 (ok_gtr rfl rfl bd rfl rfl) ?_
 refine RV.done ?_
 refine CV.cond rfl (fun hc => False.elim (by simp at hc; omega)) (fun hc => ?_)
 refine CV.skip ?_
 refine sr rfl ?_
 refine ml rfl rfl bd rfl ?_
 refine p1 (ok_callF ((show ConF (D := Dm) Tryz.prog _ _ (.tup [.v (str d), .v (.bool true)]) by have q := CutPrefix_con l; rw [← hg] at q; rw [hd, ← hg]; exact q)) rfl rfl bd Tryz.func83 rfl rfl (.cons rfl Conv.any (.cons rfl Conv.any .nil)) rfl) ?_
 refine ml rfl rfl bd rfl ?_
 refine p1 (ok_extract rfl rfl bd rfl rfl) ?_
 refine p1 (ok_extract rfl rfl bd rfl rfl) ?_
 refine mr rfl rfl bd rfl ?_
 refine mr rfl rfl bd rfl ?_
 refine RV.done ?_
 refine CV.seq ?_
 refine sr rfl ?_
 refine ml rfl rfl bd rfl ?_
 refine p1 (ok_call (numeral_con _ (by omega)) rfl rfl bd Tryz.func84 rfl rfl (.cons rfl Conv.any .nil) rfl hfr rfl) ?_
 refine p1 (ok_not rfl rfl bd rfl) ?_
 refine ml rfl rfl bd rfl ?_
 refine RV.bool (fun hb => False.elim (by rw [hnum] at hb; cases hb)) (fun hb => ?_)
 refine RV.step1 (OpOk.yes (ok_move (.inl rfl) rfl bd rfl) rfl rfl rfl) ?_
 refine RV.step1 (OpOk.yes (ok_move (.inl rfl) rfl bd rfl) rfl rfl rfl) ?_
 refine RV.step1 (OpOk.yes (ok_move (.inl rfl) rfl bd rfl) rfl rfl rfl) ?_
 refine RV.step1 (OpOk.yes (ok_eqT rfl rfl rfl bd rfl rfl) rfl rfl rfl) ?_
 refine RV.step1 (OpOk.yes (ok_pickT rfl rfl bd rfl rfl rfl) rfl rfl rfl) ?_
 refine p1 (ok_pickF rfl rfl bd rfl rfl rfl) ?_
 refine RV.done ?_
 refine CV.cond rfl (fun hc => False.elim (by simp at hc; exact h0 ⟨rfl, hc⟩)) (fun hc => ?_)
 refine CV.skip ?_
 refine sr rfl ?_
 refine ml rfl rfl bd rfl ?_
 refine p1 (ok_lenT rfl u_str rfl rfl bd rfl) ?_
 refine p1 (ok_quo (c := ((d.length / 9 : Nat) : Int)) (by decide) (by rw [Int.tdiv_eq_ediv_of_nonneg (by omega), wrapI (by omega) (by omega)]; omega) rfl rfl bd rfl rfl) ?_
 refine p1 (ok_add (c := ((d.length / 9 + 1 : Nat) : Int)) (by rw [wrapI (by omega) (by omega)]; omega) rfl rfl bd rfl rfl) ?_
 refine RV.step3 (OpOk.plain (ok_makeN (r := 10) (m := 0) (c := d.length / 9 + 1) (k := none) (Nat.zero_le _) (by omega) (by omega) u_ints inf_i64 rfl rfl rfl rfl bd rfl rfl rfl rfl rfl) rfl) ?_
 refine mr rfl rfl bd rfl ?_
 refine RV.done ?_
 refine CV.seq ?_
 refine CV.block ?_
 refine CV.loop (X := {q : Nat × List Nat // q.1 ≤ d.length ∧ q.2 ++ chunks (d.take q.1) = chunks d}) (fun q => [(.s 4, .av (.one (.v (str (d.take q.1.1))))), (.s 6, .av (.one (.sl 10 q.1.2.length))), (.b 10, .row 3 none (nuV q.1.2)), (KP, .np [10]), (.s 5, .av (.one (.v (.bool true)))), (.s 2, .av (.one (.ptr 0 0))), (.b 0, .blk 25 [(some 2, .v (.agg #[.bool false, .slice none 0 0]))])]) (fun q => q.1.1) ⟨(d.length, []), Nat.le_refl _, by rw [List.take_length]; rfl⟩ (Sub.mk ⟨XV.le_of (by rw [List.take_length]; rfl), XV.le_rfl _, XV.le_rfl _, trivial, XV.le_rfl _, XV.le_rfl _, XV.le_rfl _, trivial⟩ rfl rfl rfl rfl) (fun q => ?_)
 obtain ⟨⟨m, ds⟩, hm1, hm2⟩ := q
 simp only at hm1 hm2 ⊢
 have hml : (d.take m).length = m := by rw [List.length_take]; omega
 have hds : ds.length ≤ 7282 := by have := congrArg List.length hm2; rw [List.length_append] at this; omega
 refine CV.seq ?_
 refine sr rfl ?_
 refine ml rfl rfl bd rfl ?_
 refine p1 (ok_lenT hml u_str rfl rfl bd rfl) ?_
 refine p1 (ok_gtr rfl rfl bd rfl rfl) ?_
 refine RV.done ?_
 refine CV.cond rfl (fun hc => ?_) (fun hc => ?_)
 ·refine CV.skip ?_
  refine CV.block ?_
  refine sr rfl ?_
  refine ml rfl rfl bd rfl ?_
  refine p1 (ok_lenT hml u_str rfl rfl bd rfl) ?_
  refine p1 (ok_sub (c := (m : Int) - 9) (by rw [wrapI (by omega) (by omega)]) rfl rfl bd rfl rfl) ?_
  refine p1 (ok_maxI (c := ((m - 9 : Nat) : Int)) (by split <;> omega) rfl rfl bd rfl rfl) ?_
  refine mr rfl rfl bd rfl ?_
  refine RV.done (sr rfl ?_)
  refine ml rfl rfl bd rfl ?_
  refine ml rfl rfl bd rfl ?_
  refine p1 (ok_cutT (v := (d.take m).drop (m - 9)) (some (m - 9)) none (by show ((d.take m).take (d.take m).length).drop (m - 9) = _; rw [List.take_length]) (by show m - 9 ≤ (d.take m).length; omega) (Nat.le_refl _) u_str rfl rfl bd rfl rfl trivial) ?_
  refine p1 (ok_callF (Atoi_con _ (hsub _ fun x hx => List.mem_of_mem_take (List.mem_of_mem_drop hx)) (fun e => by have := congrArg List.length e; rw [List.length_drop, hml, List.length_nil] at this; have : 0 < m := (by simpa using hc); omega) (by rw [List.length_drop, hml]; omega)) rfl rfl bd Tryz.func85 rfl rfl (.cons rfl Conv.any .nil) rfl) ?_
  refine ml rfl rfl bd rfl ?_
  refine p1 (ok_extract rfl rfl bd rfl rfl) ?_
  refine p1 (ok_extract rfl rfl bd rfl rfl) ?_
  refine mr rfl rfl bd rfl ?_
  refine mr rfl rfl bd rfl ?_
  refine RV.done (sr rfl ?_)
  refine ml rfl rfl bd rfl ?_
  refine ml rfl rfl bd rfl ?_
  refine p1 (ok_litD (G := Dm.gen (lstG none [_])) (lstG_Lst none _) u_ints zs_i64 rfl rfl rfl (by intro s hs; obtain rfl := List.mem_singleton.1 hs; rfl) rfl rfl rfl bd (.cons rfl Conv.any .nil)) ?_
  refine RV.step4 (OpOk.plain (ok_appendN (r := 10) (r' := 11) (k := none) (lst_elems (by decide) rfl) (by rw [nuV_length]; simp; omega) (by rw [nuV_length]; simp; omega) u_ints inf_i64 rfl rfl (nuV_length _).symm rfl rfl bd rfl rfl rfl rfl rfl rfl rfl) rfl) ?_
  refine mr rfl rfl bd rfl ?_
  refine RV.done ?_
  refine CV.region rfl (fun h => nomatch h) ?_
  refine ml rfl rfl bd rfl ?_
  refine ml rfl rfl bd rfl ?_
  refine p1 (ok_cutT (v := d.take (m - 9)) none (some (m - 9)) (by show ((d.take m).take (m - 9)).drop 0 = _; rw [List.drop_zero, List.take_take, Nat.min_eq_left (by omega)]) (Nat.zero_le _) (by show m - 9 ≤ (d.take m).length; omega) u_str rfl rfl bd rfl trivial rfl) ?_
  refine mr rfl rfl bd rfl ?_
  refine RV.done ?_
  have h0 : 0 < m := (by simpa using hc)
  have hstep : chunks (d.take m) = valD ((d.take m).drop (m - 9)) :: chunks (d.take (m - 9)) := by rw [chunks_cons (fun e => by rw [e] at hml; simp at hml; omega), hml, List.take_take, Nat.min_eq_left (by omega)]
  exact ⟨⟨(m - 9, ds ++ [valD ((d.take m).drop (m - 9))]), by show m - 9 ≤ d.length; omega, by show (ds ++ [_]) ++ chunks (d.take (m - 9)) = _; rw [List.append_assoc, ← hm2, hstep]; rfl⟩, Sub.mkr (fun i => if i = 10 then 11 else i) ⟨XV.le_same, XV.le_sl rfl (by simp [nuV_length]), XV.le_row (nuV_snoc ds _), trivial, XV.le_same, fun _ _ _ _ h => h, ⟨rfl, fun _ _ _ _ h => h⟩, trivial⟩ rfl rfl rfl rfl, by show m - 9 < m; omega⟩
 ·refine CV.exit ?_
  refine CV.seq ?_
  have hm0 : m = 0 := by have : ¬ 0 < m := (by simpa using hc); omega
  subst hm0
  rw [List.take_zero, chunks_nil, List.append_nil] at hm2
  refine CV.freeze (r := 10) (t := 6) (G := Dm.dl ds) (cx.bw hfr) rfl rfl (nuV_length ds).symm rfl rfl (nuV_Lst ds) (nuV_Lst0 ds) ?_
  refine CV.kp [] rfl rfl ?_
  refine CV.region rfl (fun h => nomatch h) ?_
  refine ml rfl rfl bd rfl ?_
  refine ml rfl rfl bd rfl ?_
  refine p1 (ok_call (signed_con _ _ 7300 (by rw [hm2]; exact chunks_Dig 7282 d (by omega) hall) (Nat.le_trans (len_mk _ _ (by rw [hm2]; exact chunks_Dig 7282 d (by omega) hall)) (by omega))) rfl rfl bd Tryz.func86 rfl rfl (.cons rfl Conv.any (.cons rfl Conv.any .nil)) rfl hfr rfl) ?_
  refine p1 (ok_store rfl rfl rfl rfl rfl rfl rfl (ty_int).2 rfl rfl rfl rfl) ?_
  refine mr rfl rfl bd rfl ?_
  refine RV.done ?_
  refine CV.ret ?_
  exact fin2 rfl (.inr rfl) ⟨_, _, _, _, _, rfl, rfl, rfl, ty_int⟩ rfl (is_pair (is_int' (by rw [hm2, chunks_val 7282 d (by omega)]) (Nat.le_refl _)) (fun _ _ _ _ h => h))
end
theorem Parse_con (l : List UInt8) : Con (D := Dm) Tryz.prog 11 [.v (str l)] (.tup [.d (Dm.int (parseI l).1 7300), .v (.int .i64 (parseI l).2)]) := by
 unfold parseI
 by_cases h : 65536 < l.length
 ·rw [if_pos h]; exact ParseLimit_con l h
 ·rw [if_neg h]
  generalize hd : (if l.getD 0 0 == 45 then l.drop 1 else l) = d
  generalize hg : (l.getD 0 0 == 45) = ng
  by_cases hb : (!numB d || (ng && d == [48])) = true
  ·rw [if_pos hb]; exact ParseForm_con l d ng h hd.symm hg.symm hb
  ·rw [if_neg hb]
   rw [Bool.or_eq_true, not_or, Bool.not_eq_true', Bool.not_eq_false, Bool.and_eq_true, beq_iff_eq] at hb
   cases ng with
   | true => exact ParseOkN_con l d h hd.symm hg.symm hb.1 hb.2
   | false => exact ParseOkP_con l d h hd.symm hg.symm hb.1 hb.2

theorem fin3 {cx : Cx Dm} {n : Nat} {l : Sg Dm} {fn : Func} {rv rv' rv3 : ResultVar} {s s' s3 : SA Dm} {r : AV Dm} {e : Exit} (hres : fn.results = #[rv, rv', rv3]) (he : e = .normal ∨ e = .ret) (hr : RvIs Tryz.prog (lookD .no l) s rv) (hr' : RvIs Tryz.prog (lookD .no l) s' rv') (hr3 : RvIs Tryz.prog (lookD .no l) s3 rv3) (hc : ∀ L ρ w v, (AV.tup [s, s', s3]).is L ρ w v → r.is L ρ w v) : Fin Tryz.prog cx n fn r e l := by
 refine ⟨he, fun ρ a w h => ?_⟩
 obtain ⟨v, h1, h2⟩ := hr.run h
 obtain ⟨v', h1', h2'⟩ := hr'.run h
 obtain ⟨v3, h13, h23⟩ := hr3.run h
 refine ⟨.tuple #[v, v', v3], ?_, hc _ _ _ _ ⟨[v, v', v3], rfl, h2, h2', h23, trivial⟩⟩
 have : (results fn a.tmps).run Tryz.prog w = ((rvRun a.tmps rv).run Tryz.prog w).andThen fun v w => ((rvRun a.tmps rv').run Tryz.prog w).andThen fun v' w => ((rvRun a.tmps rv3).run Tryz.prog w).andThen fun v3 w => .ok (.tuple #[v, v', v3]) w := by
  cases rv <;> cases rv' <;> cases rv3 <;> simp [results, hres, rvRun, andThen_assoc]
 rw [this, h1]
 show ((rvRun a.tmps rv').run Tryz.prog w).andThen _ = _
 rw [h1']
 show ((rvRun a.tmps rv3).run Tryz.prog w).andThen _ = _
 rw [h13]
 rfl
theorem is_tup {l l' : List (SA Dm)} (h : l = l') : ∀ L ρ w v, (AV.tup l).is L ρ w v → (AV.tup l').is L ρ w v := by subst h; exact fun _ _ _ _ h => h

theorem Text0_con (k : Nat) : Con Tryz.prog 10 [.d (Dm.int 0 k)] (.one (.v (str (txtI 0)))) := by
 refine Con.of (n := 42) Tryz.func10 rfl rfl rfl rfl rfl fun cx hfr => ?_
 refine sr rfl ?_
 refine p2 (ok_box (i := 0) rfl rfl bd rfl rfl rfl rfl rfl) ?_
 refine mr rfl rfl bd rfl ?_
 refine RV.done ?_
 refine CV.seq ?_
 refine sr rfl ?_
 refine p1 (ok_fieldAddr fa_int1 rfl rfl bd rfl) ?_
 refine p1 (ok_loadf 1 fld_dig rfl rfl bd rfl rfl rfl rfl ty_ints) ?_
 refine p1 (ok_len rfl rfl bd rfl) ?_
 refine p1 (ok_eql rfl rfl bd rfl rfl) ?_
 refine RV.done ?_
 refine CV.cond rfl (fun hc => ?_) (fun hc => False.elim (by simp [dig_zero] at hc))
 refine sr rfl ?_
 refine mr rfl rfl bd rfl ?_
 refine RV.done ?_
 refine CV.ret ?_
 exact fin1 rfl (.inr rfl) rfl (is_of rfl)
theorem Text_con (z : Int) (k : Nat) (hk : k ≤ 1000000000) : Con Tryz.prog 10 [.d (Dm.int z k)] (.one (.v (str (txtI z)))) := by
 by_cases h0 : z = 0
 ·subst h0; exact Text0_con k
 ·rintro L ρ w vs hlt hn hwf hall
  match vs, hall with
  | [v], ⟨h1, _⟩ =>
   obtain ⟨g1, g2⟩ := h1 w (Agree.refl _ _)
   by_cases hz : z < 0
   ·refine (Text_neg v z w g1 hz (Nat.le_trans g2 (by omega)) hwf).mono ?_
    rintro e w' ⟨rfl, h4⟩
    refine ⟨_, rfl, h4, ?_⟩
    show Value.string _ = Value.string _
    unfold txtI
    rw [if_neg h0, if_pos hz]
    rfl
   ·refine (Text_pos v z w g1 (by omega) (Nat.le_trans g2 (by omega)) hwf).mono ?_
    rintro e w' ⟨rfl, h4⟩
    refine ⟨_, rfl, h4, ?_⟩
    show Value.string _ = Value.string _
    unfold txtI
    rw [if_neg h0, if_neg hz]
    rfl

theorem IndexByte_con (l : List UInt8) (b : UInt8) : ConF (D := Dm) Tryz.prog 182 [.v (str l), .v (.int .u8 (b.toNat : Int))] (.one (.v (.int .i64 (Lib.indexByte l b)))) :=
 conF_vals (us := [str l, .int .u8 (b.toNat : Int)]) fun w => by
  refine (Tryz.stringslite_IndexByte ⟨l.toArray⟩ (b.toNat : Int) w).mono ?_
  rintro e w' ⟨rfl, rfl⟩
  refine ⟨_, rfl, Below.refl _ _, fun L ρ => ?_⟩
  show Value.int _ _ = Value.int _ _
  rw [show ((b.toNat : Int).toNat.toUInt8) = b by simp]
theorem indexByte_lt : ∀ (l : List UInt8) (b : UInt8), Lib.indexByte l b < l.length
 | [], b => by show (-1 : Int) < 0; decide
 | c :: l, b => by
  unfold Lib.indexByte
  have := indexByte_lt l b
  have h := Lib.indexByte_ge l b
  rw [List.length_cons]
  split
  ·omega
  ·split <;> omega
theorem Index1_con (l : List UInt8) (b : UInt8) (hl : l.length ≤ 1000000000) : ConF (D := Dm) Tryz.prog 169 [.v (str l), .v (str [b])] (.one (.v (.int .i64 (Lib.indexByte l b)))) := by
 refine ConF.of (n := 143) Tryz.func169 rfl rfl rfl rfl rfl fun cx hB => ?_
 refine sr rfl ?_
 refine mr rfl rfl bd rfl ?_
 refine RV.done (sr rfl ?_)
 refine ml rfl rfl bd rfl ?_
 refine p1 (ok_lenT rfl u_str rfl rfl bd rfl) ?_
 refine mr rfl rfl bd rfl ?_
 refine RV.done ?_
 refine CV.seq ?_
 refine CV.block ?_
 refine sr rfl ?_
 refine ml rfl rfl bd rfl ?_
 refine p1 (ok_eql rfl rfl bd rfl rfl) ?_
 refine ml rfl rfl bd rfl ?_
 refine RV.bool (fun hb => False.elim (by simp at hb)) (fun hb => ?_)
 refine RV.step1 (OpOk.yes (ok_move (.inl rfl) rfl bd rfl) rfl rfl rfl) ?_
 refine RV.step1 (OpOk.yes (ok_move (.inl rfl) rfl bd rfl) rfl rfl rfl) ?_
 refine RV.step1 (OpOk.yes (ok_eqT (b := [b] == l) rfl rfl rfl bd rfl rfl) rfl rfl rfl) ?_
 refine p1 (ok_pickF rfl rfl bd rfl rfl rfl) ?_
 refine mr rfl rfl bd rfl ?_
 refine RV.done ?_
 refine CV.cond rfl (fun he => ?_) (fun he => ?_)
 ·refine sr rfl ?_
  refine mr rfl rfl bd rfl ?_
  refine RV.done ?_
  refine CV.ret ?_
  have e : [b] = l := by simpa using he
  exact fin1 rfl (.inr rfl) rfl (is_num (by rw [← e]; show 0 = if (b == b) = true then _ else _; rw [if_pos (beq_self_eq_true b)]))
 ·refine sr rfl ?_
  refine ml rfl rfl bd rfl ?_
  refine p1 (ok_eql rfl rfl bd rfl rfl) ?_
  refine mr rfl rfl bd rfl ?_
  refine RV.done ?_
  refine CV.cond rfl (fun hc => ?_) (fun hc => False.elim (by simp at hc))
  refine sr rfl ?_
  refine ml rfl rfl bd rfl ?_
  refine ml rfl rfl bd rfl ?_
  refine p1 (ok_idxT (u := [b]) (i := 0) (by show 0 < 1; decide) u_str rfl rfl bd rfl rfl) ?_
  refine p1 (ok_callF (IndexByte_con l b) rfl rfl bd Tryz.func182 rfl rfl (.cons rfl Conv.any (.cons rfl Conv.any .nil)) rfl) ?_
  refine mr rfl rfl bd rfl ?_
  refine RV.done ?_
  refine CV.ret ?_
  exact fin1 rfl (.inr rfl) rfl (is_num rfl)
def cutB (l : List UInt8) (b : UInt8) : List UInt8 × List UInt8 × Bool :=
 if Lib.indexByte l b < 0 then (l, [], false) else (l.take (Lib.indexByte l b).toNat, l.drop ((Lib.indexByte l b).toNat + 1), true)
theorem LCut_con (l : List UInt8) (b : UInt8) (hl : l.length ≤ 1000000000) : ConF (D := Dm) Tryz.prog 148 [.v (str l), .v (str [b])] (.tup [.v (str (cutB l b).1), .v (str (cutB l b).2.1), .v (.bool (cutB l b).2.2)]) := by
 have hlt := indexByte_lt l b
 refine ConF.of (n := 23) Tryz.func148 rfl rfl rfl rfl rfl fun cx hB => ?_
 refine sr rfl ?_
 refine mr rfl rfl bd rfl ?_
 refine mr rfl rfl bd rfl ?_
 refine mr rfl rfl bd rfl ?_
 refine RV.done ?_
 refine CV.seq ?_
 refine sr rfl ?_
 refine ml rfl rfl bd rfl ?_
 refine ml rfl rfl bd rfl ?_
 refine p1 (ok_callF (Index1_con l b hl) rfl rfl bd Tryz.func169 rfl rfl (.cons rfl Conv.any (.cons rfl Conv.any .nil)) rfl) ?_
 refine mr rfl rfl bd rfl ?_
 refine RV.done (sr rfl ?_)
 refine ml rfl rfl bd rfl ?_
 refine p1 (ok_geq rfl rfl bd rfl rfl) ?_
 refine RV.done ?_
 refine CV.cond rfl (fun hc => ?_) (fun hc => ?_)
 ·refine CV.seq ?_
  have hn : ¬ Lib.indexByte l b < 0 := by have : 0 ≤ Lib.indexByte l b := (by simpa using hc) ; omega
  have hm : ((Lib.indexByte l b).toNat : Int) = Lib.indexByte l b := Int.toNat_of_nonneg (by omega)
  refine CV.region rfl (fun _ => by kernel_rfl) ?_
  refine ml rfl rfl bd rfl ?_
  refine ml rfl rfl bd rfl ?_
  refine p1 (ok_cutT (v := (cutB l b).1) none (some (Lib.indexByte l b).toNat) (by unfold cutB; rw [if_neg hn]; show (l.take _).drop 0 = _; rw [List.drop_zero]; rfl) (Nat.zero_le _) (by show (Lib.indexByte l b).toNat ≤ l.length; omega) u_str rfl rfl bd rfl trivial (by show opd _ _ = _; rw [hm]; rfl)) ?_
  refine ml rfl rfl bd rfl ?_
  refine ml rfl rfl bd rfl ?_
  refine ml rfl rfl bd rfl ?_
  refine p1 (ok_lenT rfl u_str rfl rfl bd rfl) ?_
  refine p1 (ok_add (c := (((Lib.indexByte l b).toNat + 1 : Nat) : Int)) (by rw [show (([b] : List UInt8).length : Int) = 1 from rfl, wrapI (by omega) (by omega)]; omega) rfl rfl bd rfl rfl) ?_
  refine p1 (ok_cutT (v := (cutB l b).2.1) (some ((Lib.indexByte l b).toNat + 1)) none (by unfold cutB; rw [if_neg hn]; show (l.take l.length).drop ((Lib.indexByte l b).toNat + 1) = _; rw [List.take_length]) (by show (Lib.indexByte l b).toNat + 1 ≤ l.length; omega) (Nat.le_refl _) u_str rfl rfl bd rfl rfl trivial) ?_
  refine mr rfl rfl bd rfl ?_
  refine mr rfl rfl bd rfl ?_
  refine mr rfl rfl bd rfl ?_
  refine RV.drawn (by kernel_rfl) ?_
  refine CV.ret ?_
  exact fin3 (s3 := .v (.bool true)) rfl (.inr rfl) rfl rfl rfl (is_tup (by unfold cutB; rw [if_neg hn]))
 ·refine CV.skip ?_
  refine sr rfl ?_
  refine ml rfl rfl bd rfl ?_
  refine mr rfl rfl bd rfl ?_
  refine mr rfl rfl bd rfl ?_
  refine mr rfl rfl bd rfl ?_
  refine RV.done ?_
  refine CV.ret ?_
  have hn : Lib.indexByte l b < 0 := (by simpa using hc)
  exact fin3 (s := .v (str l)) (s' := .v (str [])) (s3 := .v (.bool false)) rfl (.inr rfl) rfl rfl rfl (is_tup (by unfold cutB; rw [if_pos hn]))
theorem Cut_con (l : List UInt8) (b : UInt8) (hl : l.length ≤ 1000000000) : ConF (D := Dm) Tryz.prog 120 [.v (str l), .v (str [b])] (.tup [.v (str (cutB l b).1), .v (str (cutB l b).2.1), .v (.bool (cutB l b).2.2)]) := by
 refine ConF.of (n := 13) Tryz.func120 rfl rfl rfl rfl rfl fun cx hB => ?_
 refine sr rfl ?_
 refine mr rfl rfl bd rfl ?_
 refine mr rfl rfl bd rfl ?_
 refine mr rfl rfl bd rfl ?_
 refine RV.done (sr rfl ?_)
 refine ml rfl rfl bd rfl ?_
 refine ml rfl rfl bd rfl ?_
 refine p1 (ok_callF (LCut_con l b hl) rfl rfl bd Tryz.func148 rfl rfl (.cons rfl Conv.any (.cons rfl Conv.any .nil)) rfl) ?_
 refine p1 (ok_extract rfl rfl bd rfl rfl) ?_
 refine p1 (ok_extract rfl rfl bd rfl rfl) ?_
 refine p1 (ok_extract rfl rfl bd rfl rfl) ?_
 refine mr rfl rfl bd rfl ?_
 refine mr rfl rfl bd rfl ?_
 refine mr rfl rfl bd rfl ?_
 refine RV.done ?_
 refine CV.ret ?_
 exact fin3 rfl (.inr rfl) rfl rfl rfl (is_tup rfl)

def parseQ (l : List UInt8) : Int × Int × Int :=
 if 65536 < l.length then (0, 0, 4) else
 if (parseI (cutB l 47).1).2 ≠ 0 ∨ (cutB l 47).2.2 = false then ((parseI (cutB l 47).1).1, 0, (parseI (cutB l 47).1).2) else
 if (parseI (cutB l 47).2.1).2 ≠ 0 ∨ ¬ ((parseI (cutB l 47).2.1).1 ≠ 0 ∧ 0 ≤ (parseI (cutB l 47).2.1).1 ∧ (parseI (cutB l 47).2.1).1 ≠ 1 ∧ Int.gcd (parseI (cutB l 47).1).1 (parseI (cutB l 47).2.1).1 = 1) then (0, 0, 2)
 else ((parseI (cutB l 47).1).1, (parseI (cutB l 47).2.1).1, 0)
theorem is_rt2 {p q p' q' z z' : Int} {k k' : Nat} (h1 : p = p') (h2 : q = q') (h3 : z = z') (hk : k ≤ k') : ∀ L ρ w v, (AV.tup [.d (Dm.rt p q k), .v (.int .i64 z)]).is L ρ w v → (AV.tup [.d (Dm.rt p' q' k'), .v (.int .i64 z')]).is L ρ w v := by
 subst h1 h2 h3
 exact is_pair (is_rt rfl rfl hk) (fun _ _ _ _ h => h)
theorem RParse_con (l : List UInt8) : Con (D := Dm) Tryz.prog 68 [.v (str l)] (.tup [.d (Dm.rt (parseQ l).1 (parseQ l).2.1 7300), .v (.int .i64 (parseQ l).2.2)]) := by
 refine Con.of (n := 56) Tryz.func68 rfl rfl rfl rfl rfl fun cx hfr => ?_
 refine sr rfl ?_
 refine p2 (ok_alloc (i := 0) rfl rfl bd zero_rat rfl rfl rfl rfl) ?_
 refine mr rfl rfl bd rfl ?_
 refine RV.done ?_
 refine CV.seq ?_
 refine sr rfl ?_
 refine ml rfl rfl bd rfl ?_
 refine p1 (ok_lenT rfl u_str rfl rfl bd rfl) ?_
 refine p1 (ok_gtr rfl rfl bd rfl rfl) ?_
 refine RV.done ?_
 refine CV.cond rfl (fun h0 => ?_) (fun h0 => ?_)
 ·refine sr rfl ?_
  refine p1 (ok_build0 rfl rfl bd) ?_
  refine p1 (ok_store rfl rfl rfl rfl rfl rfl rfl (ty_rat).2 rfl rfl rfl rfl) ?_
  refine mr rfl rfl bd rfl ?_
  refine RV.done ?_
  refine CV.ret ?_
  exact fin2 rfl (.inr rfl) ⟨_, _, _, _, _, rfl, rfl, rfl, ty_rat⟩ rfl (is_rt2 (by unfold parseQ; rw [if_pos (by simp at h0; omega)]) (by unfold parseQ; rw [if_pos (by simp at h0; omega)]) (by unfold parseQ; rw [if_pos (by simp at h0; omega)]) (by omega))
 ·refine CV.skip ?_
  refine sr rfl ?_
  refine ml rfl rfl bd rfl ?_
  refine p1 (ok_callF (Cut_con l 47 (by simp at h0; omega)) rfl rfl bd Tryz.func120 rfl rfl (.cons rfl Conv.any (.cons rfl Conv.any .nil)) rfl) ?_
  refine ml rfl rfl bd rfl ?_
  refine p1 (ok_extract rfl rfl bd rfl rfl) ?_
  refine p1 (ok_extract rfl rfl bd rfl rfl) ?_
  refine p1 (ok_extract rfl rfl bd rfl rfl) ?_
  refine mr rfl rfl bd rfl ?_
  refine mr rfl rfl bd rfl ?_
  refine mr rfl rfl bd rfl ?_
  refine RV.done (sr rfl ?_)
  refine ml rfl rfl bd rfl ?_
  refine p1 (ok_call (Parse_con _) rfl rfl bd Tryz.func11 rfl rfl (.cons rfl Conv.any .nil) rfl hfr rfl) ?_
  refine ml rfl rfl bd rfl ?_
  refine p1 (ok_extract rfl rfl bd rfl rfl) ?_
  refine p1 (ok_extract rfl rfl bd rfl rfl) ?_
  refine p2 (ok_alloc (i := 1) rfl rfl bd zero_int rfl rfl rfl rfl) ?_
  refine p1 (ok_store rfl rfl rfl rfl rfl rfl rfl (ty_int).2 rfl rfl rfl rfl) ?_
  refine mr rfl rfl bd rfl ?_
  refine RV.done ?_
  refine CV.seq ?_
  refine sr rfl ?_
  refine ml rfl rfl bd rfl ?_
  refine p1 (ok_neq rfl rfl bd rfl rfl) ?_
  refine ml rfl rfl bd rfl ?_
  refine RV.bool (fun h1 => ?_) (fun h1 => ?_)
  ·refine RV.step1 (OpOk.skip rfl rfl rfl rfl rfl bd) ?_
   refine RV.step1 (OpOk.skip rfl rfl rfl rfl rfl bd) ?_
   refine p1 (ok_pickT rfl rfl bd rfl rfl rfl) ?_
   refine RV.done ?_
   refine CV.yes rfl ?_
   refine sr rfl ?_
   refine p1 (ok_load rfl rfl bd rfl rfl rfl ty_int) ?_
   refine p1 (ok_build1 rfl rfl bd rfl) ?_
   refine ml rfl rfl bd rfl ?_
   refine p1 (ok_store rfl rfl rfl rfl rfl rfl rfl (ty_rat).2 rfl rfl rfl rfl) ?_
   refine mr rfl rfl bd rfl ?_
   refine RV.done ?_
   refine CV.ret ?_
   have q : parseQ l = ((parseI (cutB l 47).1).1, 0, (parseI (cutB l 47).1).2) := (by unfold parseQ; rw [if_neg (by simp at h0; omega), if_pos (.inl (by simpa using h1))])
   rw [q]
   exact fin2 rfl (.inr rfl) ⟨_, _, _, _, _, rfl, rfl, rfl, ty_rat⟩ rfl (is_rt2 rfl rfl rfl (by omega))
  ·refine RV.step1 (OpOk.yes (ok_move (.inl rfl) rfl bd rfl) rfl rfl rfl) ?_
   refine RV.step1 (OpOk.yes (ok_not rfl rfl bd rfl) rfl rfl rfl) ?_
   refine p1 (ok_pickF rfl rfl bd rfl rfl rfl) ?_
   refine RV.done ?_
   refine CV.cond rfl (fun h2 => ?_) (fun h2 => ?_)
   ·refine sr rfl ?_
    refine p1 (ok_load rfl rfl bd rfl rfl rfl ty_int) ?_
    refine p1 (ok_build1 rfl rfl bd rfl) ?_
    refine ml rfl rfl bd rfl ?_
    refine p1 (ok_store rfl rfl rfl rfl rfl rfl rfl (ty_rat).2 rfl rfl rfl rfl) ?_
    refine mr rfl rfl bd rfl ?_
    refine RV.done ?_
    refine CV.ret ?_
    have q : parseQ l = ((parseI (cutB l 47).1).1, 0, (parseI (cutB l 47).1).2) := (by unfold parseQ; rw [if_neg (by simp at h0; omega), if_pos (.inr (by simpa using h2))])
    rw [q]
    exact fin2 rfl (.inr rfl) ⟨_, _, _, _, _, rfl, rfl, rfl, ty_rat⟩ rfl (is_rt2 rfl rfl rfl (by omega))
   ·refine CV.skip ?_
    refine sr rfl ?_
    refine ml rfl rfl bd rfl ?_
    refine p1 (ok_call (Parse_con _) rfl rfl bd Tryz.func11 rfl rfl (.cons rfl Conv.any .nil) rfl hfr rfl) ?_
    refine ml rfl rfl bd rfl ?_
    refine p1 (ok_extract rfl rfl bd rfl rfl) ?_
    refine p1 (ok_extract rfl rfl bd rfl rfl) ?_
    refine p2 (ok_alloc (i := 2) rfl rfl bd zero_int rfl rfl rfl rfl) ?_
    refine p1 (ok_store rfl rfl rfl rfl rfl rfl rfl (ty_int).2 rfl rfl rfl rfl) ?_
    refine mr rfl rfl bd rfl ?_
    refine RV.done (sr rfl ?_)
    refine p1 (ok_load rfl rfl bd rfl rfl rfl ty_int) ?_
    refine p1 (ok_load rfl rfl bd rfl rfl rfl ty_int) ?_
    refine p1 (ok_build2 rfl rfl bd rfl rfl) ?_
    refine p2 (ok_alloc (i := 3) rfl rfl bd zero_rat rfl rfl rfl rfl) ?_
    refine p1 (ok_store rfl rfl rfl rfl rfl rfl rfl (ty_rat).2 rfl rfl rfl rfl) ?_
    refine RV.done ?_
    refine CV.seq ?_
    refine sr rfl ?_
    refine ml rfl rfl bd rfl ?_
    refine p1 (ok_neq rfl rfl bd rfl rfl) ?_
    refine ml rfl rfl bd rfl ?_
    refine RV.bool (fun h3 => ?_) (fun h3 => ?_)
    ·refine RV.step1 (OpOk.skip rfl rfl rfl rfl rfl bd) ?_
     refine RV.step1 (OpOk.skip rfl rfl rfl rfl rfl bd) ?_
     refine p1 (ok_pickT rfl rfl bd rfl rfl rfl) ?_
     refine ml rfl rfl bd rfl ?_
     refine RV.step1 (OpOk.skip rfl rfl rfl rfl rfl bd) ?_
     refine RV.step1 (OpOk.skip rfl rfl rfl rfl rfl bd) ?_
     refine RV.step1 (OpOk.skip rfl rfl rfl rfl rfl bd) ?_
     refine p1 (ok_pickT rfl rfl bd rfl rfl rfl) ?_
     refine RV.done ?_
     refine CV.yes rfl ?_
     refine sr rfl ?_
     refine p1 (ok_build0 rfl rfl bd) ?_
     refine p1 (ok_store rfl rfl rfl rfl rfl rfl rfl (ty_rat).2 rfl rfl rfl rfl) ?_
     refine mr rfl rfl bd rfl ?_
     refine RV.done ?_
     refine CV.ret ?_
     have q : parseQ l = (0, 0, 2) := (by unfold parseQ; rw [if_neg (by simp at h0; omega), if_neg (by simp at h1 h2; simp [h1, h2]), if_pos (.inl (by simpa using h3))])
     rw [q]
     exact fin2 rfl (.inr rfl) ⟨_, _, _, _, _, rfl, rfl, rfl, ty_rat⟩ rfl (is_rt2 rfl rfl rfl (by omega))
    ·refine RV.step1 (OpOk.yes (ok_load rfl rfl bd rfl rfl rfl ty_rat) rfl rfl rfl) ?_
     refine RV.step1 (OpOk.yes (ok_call (isWhole_con _ _ _) rfl rfl bd Tryz.func105 rfl rfl (.cons rfl Conv.any .nil) rfl hfr rfl) rfl rfl rfl) ?_
     refine p1 (ok_pickF rfl rfl bd rfl rfl rfl) ?_
     refine ml rfl rfl bd rfl ?_
     refine RV.bool (fun h4 => ?_) (fun h4 => ?_)
     ·refine RV.step1 (OpOk.skip rfl rfl rfl rfl rfl bd) ?_
      refine RV.step1 (OpOk.skip rfl rfl rfl rfl rfl bd) ?_
      refine RV.step1 (OpOk.skip rfl rfl rfl rfl rfl bd) ?_
      refine p1 (ok_pickT rfl rfl bd rfl rfl rfl) ?_
      refine RV.done ?_
      refine CV.yes rfl ?_
      refine sr rfl ?_
      refine p1 (ok_build0 rfl rfl bd) ?_
      refine p1 (ok_store rfl rfl rfl rfl rfl rfl rfl (ty_rat).2 rfl rfl rfl rfl) ?_
      refine mr rfl rfl bd rfl ?_
      refine RV.done ?_
      refine CV.ret ?_
      have q : parseQ l = (0, 0, 2) := (by unfold parseQ; rw [if_neg (by simp at h0; omega), if_neg (by simp at h1 h2; simp [h1, h2]), if_pos (.inr (by simp at h4; simp [h4]))])
      rw [q]
      exact fin2 rfl (.inr rfl) ⟨_, _, _, _, _, rfl, rfl, rfl, ty_rat⟩ rfl (is_rt2 rfl rfl rfl (by omega))
     ·refine RV.step1 (OpOk.yes (ok_load rfl rfl bd rfl rfl rfl ty_rat) rfl rfl rfl) ?_
      refine RV.step1 (OpOk.yes (ok_call (RValidG_con _ _ _ (by omega)) rfl rfl bd Tryz.func30 rfl rfl (.cons rfl Conv.any .nil) rfl hfr rfl) rfl rfl rfl) ?_
      refine RV.step1 (OpOk.yes (ok_not rfl rfl bd rfl) rfl rfl rfl) ?_
      refine p1 (ok_pickF rfl rfl bd rfl rfl rfl) ?_
      refine RV.done ?_
      refine CV.cond rfl (fun h5 => ?_) (fun h5 => ?_)
      ·refine sr rfl ?_
       refine p1 (ok_build0 rfl rfl bd) ?_
       refine p1 (ok_store rfl rfl rfl rfl rfl rfl rfl (ty_rat).2 rfl rfl rfl rfl) ?_
       refine mr rfl rfl bd rfl ?_
       refine RV.done ?_
       refine CV.ret ?_
       have q : parseQ l = (0, 0, 2) := (by unfold parseQ; rw [if_neg (by simp at h0; omega), if_neg (by simp at h1 h2; simp [h1, h2]), if_pos (.inr (fun h => by simp at h5; rcases h5.2 with k | k | k; exact absurd h.2.1 (by omega); exact h.2.2.1 k; exact k h.2.2.2))])
       rw [q]
       exact fin2 rfl (.inr rfl) ⟨_, _, _, _, _, rfl, rfl, rfl, ty_rat⟩ rfl (is_rt2 rfl rfl rfl (by omega))
      ·refine CV.skip ?_
       refine sr rfl ?_
       refine p1 (ok_load rfl rfl bd rfl rfl rfl ty_rat) ?_
       refine p1 (ok_store rfl rfl rfl rfl rfl rfl rfl (ty_rat).2 rfl rfl rfl rfl) ?_
       refine mr rfl rfl bd rfl ?_
       refine RV.done ?_
       refine CV.ret ?_
       have q : parseQ l = ((parseI (cutB l 47).1).1, (parseI (cutB l 47).2.1).1, 0) := (by simp at h0 h1 h2 h3 h4 h5; unfold parseQ; rw [if_neg (by omega), if_neg (by simp [h1, h2]), if_neg (by exact not_or.2 ⟨fun k => k h3, fun k => k ⟨h4, h5 h4⟩⟩)])
       rw [q]
       exact fin2 rfl (.inr rfl) ⟨_, _, _, _, _, rfl, rfl, rfl, ty_rat⟩ rfl (is_rt2 rfl rfl rfl (by omega))
theorem RTextF_con (a : Rat) (k : Nat) (hk : k ≤ 1000000000) (hs : (txtI a.num).length ≤ 1000000000) (ht : (txtI (qd a)).length ≤ 1000000000) (h : qd a ≠ 0) : Con Tryz.prog 67 [RT a k] (.one (.v (str (txtI a.num ++ 47 :: txtI (qd a))))) := by
 refine Con.of (n := 16) Tryz.func67 rfl rfl rfl rfl rfl fun cx hfr => ?_
 refine sr rfl ?_
 refine p2 (ok_box (i := 0) rfl rfl bd rfl rfl rfl rfl rfl) ?_
 refine mr rfl rfl bd rfl ?_
 refine RV.done ?_
 refine CV.seq ?_
 refine sr rfl ?_
 refine p1 (ok_load rfl rfl bd rfl rfl rfl ty_rat) ?_
 refine p1 (ok_call (isWhole_con _ _ _) rfl rfl bd Tryz.func105 rfl rfl (.cons rfl Conv.any .nil) rfl hfr rfl) ?_
 refine RV.done ?_
 refine CV.cond rfl (fun hc => False.elim (by simp at hc; exact h hc)) (fun hc => ?_)
 refine CV.skip ?_
 refine CV.seq ?_
 refine CV.region rfl (fun _ => by kernel_rfl) ?_
 refine p1 (ok_fieldAddr fa_rat0 rfl rfl bd rfl) ?_
 refine p1 (ok_loadf 0 fld_num rfl rfl bd rfl rfl rfl rfl ty_int) ?_
 refine p1 (ok_call (Text_con _ _ hk) rfl rfl bd Tryz.func10 rfl rfl (.cons rfl Conv.any .nil) rfl hfr rfl) ?_
 refine p1 (ok_catT (v := [47]) (by show _ + 1 ≤ _; omega) rfl rfl bd rfl rfl) ?_
 refine p1 (ok_fieldAddr fa_rat1 rfl rfl bd rfl) ?_
 refine p1 (ok_loadf 2 fld_den rfl rfl bd rfl rfl rfl rfl ty_int) ?_
 refine p1 (ok_call (Text_con _ _ hk) rfl rfl bd Tryz.func10 rfl rfl (.cons rfl Conv.any .nil) rfl hfr rfl) ?_
 refine p1 (ok_catT (by rw [List.length_append, show ([47] : List UInt8).length = 1 from rfl]; omega) rfl rfl bd rfl rfl) ?_
 refine mr rfl rfl bd rfl ?_
 refine RV.drawn (by kernel_rfl) ?_
 refine CV.ret ?_
 exact fin1 rfl (.inr rfl) rfl (is_of (by rw [List.append_assoc]; rfl))
set_option linter.unusedSectionVars false

/-! Rows of numbers. -/
def ziV (k : IntKind) (zs : List Int) : List (SA Dm) := zs.map fun z => .v (.int k z)
abbrev ZI (k : IntKind) (zs : List Int) : SA Dm := .d (Dm.gen (lstG none (ziV k zs)))
theorem ziV_length {k : IntKind} (l : List Int) : (ziV k l).length = l.length := by simp [ziV]
theorem ziV_ptrs {k : IntKind} (l : List Int) : (ziV k l).flatMap SA.ptrs = [] := by
 rw [List.flatMap_eq_nil_iff]
 intro s hs
 obtain ⟨b, _, rfl⟩ := List.mem_map.1 hs
 rfl
theorem ziV_vals {k : IntKind} (l : List Int) : ∀ s ∈ ziV k l, isV s = true := by
 intro s hs
 obtain ⟨b, _, rfl⟩ := List.mem_map.1 hs
 rfl
theorem ziV_at {k : IntKind} {l : List Int} {i : Nat} (h : i < l.length) : (ziV k l)[i]? = some (.v (.int k (l.getD i 0))) := by
 simp [ziV, List.getElem?_eq_getElem h, List.getD_eq_getElem?_getD]
theorem ziV_append {k : IntKind} (l m : List Int) : ziV k l ++ ziV k m = ziV k (l ++ m) := by simp [ziV]
theorem ziV_take {k : IntKind} (l : List Int) (n : Nat) : (ziV k l).take n = ziV k (l.take n) := by simp [ziV, List.map_take]
theorem ziV_ats {k : IntKind} {w : World} : ∀ {l : List Int}, Ats w none (ziV k l) (l.map (Value.int k))
 | [] => rfl
 | b :: l => ⟨[_], l.map (Value.int k), _, rfl, ⟨rfl, rfl⟩, rfl, ziV_ats⟩
theorem ziV_ats' {k : IntKind} {w : World} : ∀ {l : List Int} {cs : List Value}, Ats w none (ziV k l) cs → cs = l.map (Value.int k)
 | [], _, h => h
 | b :: l, _, ⟨p, r, v, h1, h2, h3, h4⟩ => by
  have e1 : p = [v] := h2.1
  have e2 : v = .int k b := h3
  rw [h1, e1, e2, ziV_ats' h4]
  rfl
theorem ziV_chs {k : IntKind} {L : Nat → Prop} {ρ : Rho} {w : World} {l : List Int} : Chs L ρ w (rch none (ziV k l)) (l.map (Value.int k)) := Ats.chs fun _ _ => ziV_ats
theorem zi_row {k : IntKind} {L : Nat → Prop} {ρ : Rho} {w : World} {v : Value} {zs : List Int} (h : (ZI k zs).is L ρ w v) : Row k w v zs := by
 obtain ⟨ao, cap, rfl, hc, h1⟩ := lst_open (by decide) h
 rw [ziV_length] at hc h1 ⊢
 refine ⟨ao, cap, rfl, hc.1, hc.2, fun hl => ?_⟩
 obtain ⟨b, off, e, _, cs, h2, h3⟩ := h1 hl
 obtain rfl := ziV_ats' (h2 w (Agree.refl _ _))
 exact ⟨b, off, e, fun i hi => h3 i _ (by rw [List.getElem?_map, List.getElem?_eq_getElem hi, List.getD_eq_getElem?_getD, List.getElem?_eq_getElem hi]; rfl)⟩
theorem row_at {k : IntKind} {w : World} {v : Value} {zs : List Int} (h : Row k w v zs) : (lstG none (ziV k zs)).is w v := by
 obtain ⟨ao, cap, rfl, h1, h2, h3⟩ := h
 refine ⟨ao, cap, by rw [ziV_length], ⟨by rw [ziV_length]; exact h1, h2⟩, fun hl => ?_⟩
 rw [ziV_length] at hl
 obtain ⟨b, off, rfl, h4⟩ := h3 hl
 refine ⟨b, off, rfl, _, ziV_ats, fun j u hj => ?_⟩
 rw [List.getElem?_map] at hj
 obtain ⟨z, hz, rfl⟩ := Option.map_eq_some_iff.1 hj
 rw [h4 j (List.getElem?_eq_some_iff.1 hz).1, List.getD_eq_getElem?_getD, hz]
 rfl
theorem nums_elems (m : Nat) : Elems (SA.d (Dm.nums m)) none (ziV .i64 ((dig m).map Int.ofNat)) := by
 refine ⟨rfl, ziV_ptrs _, fun L ρ w v h => ?_⟩
 obtain ⟨ao, cap, rfl, h1, h2, h3⟩ := h w (Agree.refl _ _)
 refine ⟨ao, cap, by rw [ziV_length, List.length_map], fun hl => ?_⟩
 rw [ziV_length, List.length_map] at hl
 obtain ⟨b, off, e, h4⟩ := h3 hl
 refine ⟨b, off, e, _, fun j u hj => ?_, ziV_chs⟩
 rw [List.getElem?_map, List.getElem?_map] at hj
 obtain ⟨z, hz, rfl⟩ := Option.map_eq_some_iff.1 hj
 obtain ⟨y, hy, rfl⟩ := Option.map_eq_some_iff.1 hz
 rw [h4 j (List.getElem?_eq_some_iff.1 hy).1, List.getD_eq_getElem?_getD, hy]
 rfl

/-! Functions that return a new row. -/
section
variable {D : Type} [Dom D] {P : Program} {cx : Cx D} {n : Nat} {σ : St D} {o : Oper}
theorem ok_litN {d r : Nat} {ty e : TypeId} {z : Value} {sz : Nat} {k : Option Nat} {xs : List Operand} {ss : List (SA D)} (hu : P.underlying ty = some (.slice e)) (hsz : (P.info? e).map (fun i => (i.size, i.zero)) = some (sz, some z)) (hs : sz = k.getD 1) (hs0 : Nat.blt 0 sz = true) (hsm : Nat.ble (ss.length * sz) 1000 = true)
  (hk : ∀ s ∈ ss, s.kind = some k) (hpt : ss.flatMap SA.ptrs = []) (ho : o.op = .buildSlice ty ss.length ((xs.zipIdx 0).map fun p => (p.2, p.1)).toArray) (hd : o.dst = some d) (hn : d < n) (hargs : ArgsOk σ xs ss) (hr : σ (.b r) = .no) (hkp : kpB (σ KP) = true) (hrK : Nat.beq r 1000000 = false) :
  OpOk P cx n σ o (xs.flatMap opk) [(.s d, .av (.one (.sl r ss.length))), (.b r, .row e k ss), (KP, .np (r :: npL (σ KP)))] := by
 intro σ' a w Q ⟨ρ, h⟩ h1 h2 K hK
 have hKP := h2 KP (by simp [keys])
 have hrK1 : r ≠ 1000000 := fun e => by subst e; cases hrK
 have hargs' : ArgsOk σ' xs ss := hargs.same h1
 obtain ⟨cs, hrun, hc⟩ := lit_run h hu hsz hs hs0 hsm hk ho hargs'
 unfold Oper.wp
 rw [hrun, Oper.upon_value, hd]
 have hk := h.kp (q := .np (r :: npL (σ KP))) (by rw [hKP]; exact hkp) rfl (fun _ => by simp) (fun i T k l _ hi q => hi (by rw [hKP] at q; exact List.mem_cons_of_mem _ q))
 have hr0 : σ' (.b r) = .no := (h2 (.b r) (by simp [keys])).trans hr
 have hKr : Key.b r ≠ KP := by simpa [KP] using hrK1
 obtain ⟨σ1, hσ1⟩ : ∃ σ1, σ1 = upd σ' [(KP, .np (r :: npL (σ KP)))] := ⟨_, rfl⟩
 rw [← hσ1] at hk
 have hk1 : σ1 (.b r) = .no := by rw [hσ1, upd1_ne hKr]; exact hr0
 have hkK : σ1 KP = .np (r :: npL (σ KP)) := by rw [hσ1]; exact upd1
 have hml : ss.length ≤ maxLen := by
  have h0 : 0 < sz := by rwa [Nat.blt_eq] at hs0
  have h1 := Nat.le_of_ble_eq_true hsm
  have h2 := Nat.le_mul_of_pos_right ss.length h0
  unfold maxLen; omega
 have hc' : Chs (fun _ => False) ρ w (rch k ss) cs ∨ True := .inr trivial
 have hL : ∀ b, Lof cx σ1 ρ b → Lof cx σ' ρ b ∨ True := fun _ _ => .inr trivial
 have hnew := hk.new (d := d) (i := r) (g := w.heap.size) (c := ss.length) (av := .one (.sl r ss.length)) (x := .row e k ss) (v := .slice (some ⟨w.heap.size, 0, none⟩) ss.length ss.length) ((Below.refl _ _).alloc (Nat.le_refl _) (.cells cs.toArray e)) hn hk1 hrK1 (by simp) (Nat.le_refl _) (fun ρ' hρ => ⟨some ⟨w.heap.size, 0, none⟩, by rw [hρ], fun _ => by rw [hρ]⟩) (fun b hb => by simpa [AV.ptrs, SA.ptrs] using hb)
  (fun T ch e => by cases e) (fun T1 k1 l1 e => by
   injection e with e1 e2 e3
   subst e1; subst e2; subst e3
   refine ⟨⟨Nat.le_refl _, hml, hpt⟩, fun _ => ⟨cs, [], by rw [List.append_nil]; exact RowC.mk0 (heap_alloc_new w _), ?_, by rw [List.append_nil, hc.length], fun q => absurd (by rw [hkK]; exact List.mem_cons_self) q⟩⟩
   refine hc.go (Goes.less fun b hb => ?_) (by rw [rch_ptrs, hpt]; intro b hb; cases hb)
   rcases hb with hb | ⟨i, hi, rfl⟩
   ·exact .inl hb
   ·refine .inr ⟨i, ?_, rfl⟩
    rcases live_some hi with ⟨T, ch, e⟩ | ⟨T, k, l, e, hcap⟩
    ·by_cases e2 : i = 1000000
     ·subst e2; exact absurd (hkK.symm.trans e) (by simp)
     ·rw [hσ1, upd1_ne (by simpa [KP] using e2)] at e; exact live_blk e
    ·by_cases e2 : i = 1000000
     ·subst e2; exact absurd (hkK.symm.trans e) (by simp)
     ·rw [hσ1, upd1_ne (by simpa [KP] using e2)] at e; exact (live_row e).2 hcap) (by intro b hb; cases hb) (fun _ _ _ _ _ q => q)
 have e3 : upd σ1 [(.s d, .av (.one (.sl r ss.length))), (.b r, .row e k ss)] = upd σ' [(.s d, .av (.one (.sl r ss.length))), (.b r, .row e k ss), (KP, .np (r :: npL (σ KP)))] := by
  rw [hσ1]
  rfl
 rw [e3] at hnew
 exact hK _ _ hnew

def FinRow (fn : Func) (T : TypeId) (k : Option Nat) (l : List (SA D)) (e : Exit) (st : Sg D) : Prop :=
 (e = .normal ∨ e = .ret) ∧ ∃ t r, fn.results = #[.tmp t] ∧ lookD .no st (.s t) = .av (.one (.sl r l.length)) ∧ lookD .no st (.b r) = .row T k l
theorem finRow {fn : Func} {T : TypeId} {k : Option Nat} {l l' : List (SA D)} {e : Exit} {st : Sg D} {t r m : Nat} (hl : l' = l) (hm : m = l.length) (hres : fn.results = #[.tmp t]) (he : e = .normal ∨ e = .ret) (ht : lookD .no st (.s t) = .av (.one (.sl r m))) (hr : lookD .no st (.b r) = .row T k l') : FinRow fn T k l e st := by
 subst hl; subst hm
 exact ⟨he, t, r, hres, ht, hr⟩
theorem ConRow.of {f : FuncId} {fn : Func} {c : Code} {args : List (SA D)} {T : TypeId} {k : Option Nat} {l : List (SA D)} (hf : P.funcs[f]? = some fn) (hb : fn.body = some c) (hnt : fn.ntmps = n) (hcl : ptrsAll args = []) (hn : Nat.ble args.length n = true) (hval : ∀ s ∈ l, isV s = true)
  (h : ∀ cx : Cx0 D, (∀ b, ¬ cx.Bw b) → CV P cx n c (initSt 0 args) (FinRow fn T k l)) : ConRow P f args T k l := by
 subst hnt
 intro L ρ w vs hlt hall
 refine calls_of_wp hf hb (wp_mono ((h ⟨w, L, hlt, true, fun _ => False, fun _ q => q.elim, fun _ _ q => q, (fun q => nomatch q), (fun q => nomatch q)⟩ (fun _ q => q)).run _ w (Con.start hcl (Nat.le_of_ble_eq_true hn) hall rfl rfl)) ?_)
 rintro e a' w' ⟨l', ⟨ρ', hC'⟩, he, t, r, hres, ht, hr⟩
 obtain ⟨a0, hv, ha⟩ := hC'.slt t _ ht
 obtain ⟨⟨q1, q2, _⟩, q4⟩ := hC'.row r T k l hr
 have hfin : ∃ v, (results fn a'.tmps).run P w' = .ok v w' ∧ (Below w.heap.size w w' ∧ ∃ a c, Ending.returned v = .returned (.slice a l.length c) ∧ (l.length ≤ c ∧ c ≤ maxLen) ∧ (0 < c → ∃ g, a = some ⟨g, 0, none⟩ ∧ w.heap.size ≤ g ∧ ∃ cs sp : List Value, RowC w' g (cs ++ sp) T ∧ Chs L ρ w' (rch k l) cs ∧ (cs ++ sp).length = c * k.getD 1)) := by
  refine ⟨a'.tmps.getD t undef, ?_, hC'.kept.below (fun _ q => q), a0, (ρ' r).2, by rw [hv], ⟨q1, q2⟩, fun hc => ?_⟩
  ·simp [results, hres]
  ·obtain ⟨cs, sp, h1, h2, h3, _⟩ := q4 hc
   refine ⟨_, ha hc, ?_, cs, sp, h1, h2.vals hval, h3⟩
   rcases hC'.mine r ((live_row hr).2 hc) with h | h
   ·exact h
   ·exact h.elim
 rcases he with rfl | rfl
 ·exact ⟨hC'.defers, hfin⟩
 ·exact ⟨hC'.defers, hfin⟩
end

theorem conRow_fresh {f : FuncId} {args : List (SA Dm)} {bs : List Int} (h : ∀ L ρ w vs, isAll L ρ w args vs → Calls Tryz.prog f vs.toArray w (Fresh w bs)) : ConRow Tryz.prog f args 5 none (ziV .u8 bs) := by
 intro L ρ w vs _ hall
 refine (h L ρ w vs hall).mono ?_
 rintro e w' ⟨v, rfl, ⟨_, ho⟩, h2⟩
 refine ⟨h2, ?_⟩
 rcases ho with ⟨rfl, h0⟩ | ⟨g, cap, cur, rfl, hg, hc, h4, h5, h6, h7⟩
 ·have e : bs = [] := List.eq_nil_of_length_eq_zero h0
  subst e
  exact ⟨none, 0, rfl, ⟨Nat.le_refl _, by decide⟩, fun q => absurd q (by decide)⟩
 ·refine ⟨some ⟨g, 0, none⟩, cap, by rw [ziV_length], ⟨by rw [ziV_length]; exact h4, h5⟩, fun _ => ⟨g, rfl, hg, bs.map (Value.int .u8), cur.toList.drop (bs.length * 1), ?_, ziV_chs, ?_⟩⟩
  ·rw [← h7, List.take_append_drop]
   exact RowC.mk0 (by simpa using hc)
  ·rw [← h7, List.take_append_drop]
   simpa using h6
theorem wireInts_con (zs : List Int) (hz : ∀ z ∈ zs, -9223372036854775808 ≤ z ∧ z ≤ 9223372036854775807) (hl : zs.length ≤ 1099511627776) : ConRow Tryz.prog 87 [ZI .i64 zs] 5 none (ziV .u8 (W.encInts zs)) :=
 conRow_fresh fun L ρ w vs hall => by
  match vs, hall with
  | [v], ⟨h1, _⟩ => exact Ints_any v zs w (zi_row h1).view hz hl
theorem refInts_con (zs : List Int) (hz : ∀ z ∈ zs, -9223372036854775808 ≤ z ∧ z ≤ 9223372036854775807) (hl : zs.length ≤ 1099511627776) : ConRow Tryz.prog 22 [ZI .i64 zs] 5 none (ziV .u8 (W.encInts zs)) :=
 conRow_fresh fun L ρ w vs hall => by
  match vs, hall with
  | [v], ⟨h1, _⟩ => exact refInts_any v zs w (zi_row h1).view hz hl
theorem SignF_con (x : Int) {j : Nat} : ConF Tryz.prog 88 [.d (Dm.int x j)] (.one (.v (.int .i64 (cmpI x 0)))) := by
 rintro L ρ w vs hlt hall
 match vs, hall with
 | [v], ⟨h1, _⟩ =>
  refine (Sign_any v x w (h1 w (Agree.refl _ _)).1).mono ?_
  rintro e w' ⟨rfl, h⟩
  exact ⟨_, rfl, h, rfl⟩
theorem Encode_con (x : Int) (k : Nat) (hx : len x ≤ 1000000000) : ConRow Tryz.prog 12 [.d (Dm.int x k)] 5 none (ziV .u8 (encI x)) := by
 refine ConRow.of (n := 10) Tryz.func12 rfl rfl rfl rfl (ziV_vals _) fun cx hB => ?_
 refine sr rfl ?_
 refine p2 (ok_box (i := 0) rfl rfl bd rfl rfl rfl rfl rfl) ?_
 refine mr rfl rfl bd rfl ?_
 refine RV.done ?_
 refine CV.seq ?_
 refine CV.region rfl (fun _ => by kernel_rfl) ?_
 refine p1 (ok_load rfl rfl bd rfl rfl rfl ty_int) ?_
 refine p1 (ok_callF (SignF_con x) rfl rfl bd Tryz.func88 rfl rfl (.cons rfl Conv.any .nil) rfl) ?_
 refine RV.step3 (OpOk.plain (ok_litN (r := 5) u_ints zs_i64 rfl rfl rfl (by intro s hs; obtain rfl := List.mem_singleton.1 hs; rfl) rfl rfl rfl bd (.cons rfl Conv.any .nil) rfl rfl rfl) rfl) ?_
 refine p1 (ok_fieldAddr fa_int1 rfl rfl bd rfl) ?_
 refine p1 (ok_loadf 1 fld_dig rfl rfl bd rfl rfl rfl rfl ty_ints) ?_
 refine RV.step4 (OpOk.plain (ok_appendND (r := 5) (r' := 8) (k := none) (G := Dm.gen (lstG none (ziV .i64 (cmpI x 0 :: (dig x.natAbs).map Int.ofNat)))) [] hB (nums_elems _) (lstG_Lst none _) (lstG_Lst0 none _) (by rw [ziV_length, List.length_map]; show (1 + len x) * 8 ≤ _; omega) (by rw [ziV_length, List.length_map]; show 1 + len x ≤ _; omega) u_ints inf_i64 rfl rfl rfl rfl rfl bd rfl rfl rfl rfl rfl rfl rfl rfl) rfl) ?_
 refine RV.step3 (OpOk.plain (ok_callRow (r := 9) (wireInts_con _ (encI_bd x) (by show (cmpI x 0 :: (dig x.natAbs).map Int.ofNat).length ≤ _; rw [List.length_cons, List.length_map]; show len x + 1 ≤ _; omega)) (ziV_vals _) rfl rfl bd Tryz.func87 rfl rfl (.cons rfl Conv.any .nil) rfl rfl rfl) rfl) ?_
 refine mr rfl rfl bd rfl ?_
 refine RV.drawn (by kernel_rfl) ?_
 refine CV.ret ?_
 exact finRow rfl rfl rfl (.inr rfl) rfl rfl
def encR (a : Rat) : List Int := encI a.num ++ encI (qd a)
theorem REncode_con (a : Rat) (k : Nat) (hp : len a.num ≤ 1000000000) (hq : len (qd a) ≤ 1000000000) (h1 : (encI a.num).length + (encI (qd a)).length ≤ 1000000000000) : ConRow Tryz.prog 69 [RT a k] 5 none (ziV .u8 (encR a)) := by
 refine ConRow.of (n := 10) Tryz.func69 rfl rfl rfl rfl (ziV_vals _) fun cx hB => ?_
 refine sr rfl ?_
 refine p2 (ok_box (i := 0) rfl rfl bd rfl rfl rfl rfl rfl) ?_
 refine mr rfl rfl bd rfl ?_
 refine RV.done ?_
 refine CV.seq ?_
 refine CV.region rfl (fun _ => by kernel_rfl) ?_
 refine p1 (ok_fieldAddr fa_rat0 rfl rfl bd rfl) ?_
 refine p1 (ok_loadf 0 fld_num rfl rfl bd rfl rfl rfl rfl ty_int) ?_
 refine RV.step3 (OpOk.plain (ok_callRow (r := 5) (Encode_con _ _ hp) (ziV_vals _) rfl rfl bd Tryz.func12 rfl rfl (.cons rfl Conv.any .nil) rfl rfl rfl) rfl) ?_
 refine p1 (ok_fieldAddr fa_rat1 rfl rfl bd rfl) ?_
 refine p1 (ok_loadf 2 fld_den rfl rfl bd rfl rfl rfl rfl ty_int) ?_
 refine p1 (ok_callRowD (G := Dm.gen (lstG none (ziV .u8 (encI (qd a))))) (Encode_con _ _ hq) (ziV_vals _) (lstG_Lst none _) (lstG_Lst0 none _) rfl rfl bd Tryz.func12 rfl rfl (.cons rfl Conv.any .nil)) ?_
 refine RV.step4 (OpOk.plain (ok_appendN (r := 5) (r' := 9) (k := none) (lst_elems (by decide) (ziV_ptrs _)) (by rw [ziV_length, ziV_length]; omega) (by rw [ziV_length, ziV_length]; omega) u_bytes inf_u8 rfl rfl (by rw [ziV_length]) rfl rfl bd rfl rfl rfl rfl rfl rfl rfl) rfl) ?_
 refine mr rfl rfl bd rfl ?_
 refine RV.drawn (by kernel_rfl) ?_
 refine CV.ret ?_
 exact finRow (ziV_append _ _) (by rw [ziV_length, ziV_length, ziV_length]; show _ = (encI a.num ++ encI (qd a)).length; rw [List.length_append]) rfl (.inr rfl) rfl rfl
theorem eq_take {k : Nat} {a b : List Int} (h : a.length = b.length) (hk : k < a.length) (h1 : a.take k = b.take k) (h2 : a.getD k 0 = b.getD k 0) : a.take (k + 1) = b.take (k + 1) := by
 rw [List.take_add_one, List.take_add_one, h1]
 congr 1
 rw [List.getElem?_eq_getElem hk, List.getElem?_eq_getElem (by omega)]
 rw [List.getD_eq_getElem?_getD, List.getD_eq_getElem?_getD, List.getElem?_eq_getElem hk, List.getElem?_eq_getElem (by omega)] at h2
 simpa using h2
theorem SameB_con (a b : List Int) (ha : a.length ≤ 1000000000000) : Con Tryz.prog 17 [ZI .u8 a, ZI .u8 b] (.one (.v (.bool (decide (a = b))))) := by
 refine Con.of (n := 26) Tryz.func17 rfl rfl rfl rfl rfl fun cx hfr => ?_
 refine sr rfl ?_
 refine mr rfl rfl bd rfl ?_
 refine RV.done ?_
 refine CV.seq ?_
 refine sr rfl ?_
 refine ml rfl rfl bd rfl ?_
 refine p1 (ok_lenL rfl u_bytes rfl rfl bd rfl) ?_
 refine ml rfl rfl bd rfl ?_
 refine p1 (ok_lenL rfl u_bytes rfl rfl bd rfl) ?_
 refine p1 (ok_neq rfl rfl bd rfl rfl) ?_
 refine RV.done ?_
 refine CV.cond rfl (fun h0 => ?_) (fun h0 => ?_)
 ·refine sr rfl ?_
  refine mr rfl rfl bd rfl ?_
  refine RV.done ?_
  refine CV.ret ?_
  rw [ziV_length, ziV_length] at h0
  exact fin1 rfl (.inr rfl) rfl (is_bool (by symm; rw [decide_eq_false_iff_not]; rintro rfl; simp at h0))
 ·refine CV.skip ?_
  refine CV.seq ?_
  refine sr rfl ?_
  refine mr rfl rfl bd rfl ?_
  refine RV.done ?_
  refine CV.block ?_
  rw [ziV_length, ziV_length] at h0
  have hl : a.length = b.length := (by simp at h0; omega)
  refine CV.loop (X := {k : Nat // k ≤ a.length ∧ a.take k = b.take k}) (fun k => [(.s 5, .av (.one (.v (.int .i64 (k.1 : Int))))), (.s 0, .av (.one (ZI .u8 a))), (.s 1, .av (.one (ZI .u8 b)))]) (fun k => a.length - k.1) ⟨0, Nat.zero_le _, by simp⟩ (Sub.mk ⟨XV.le_rfl _, XV.le_rfl _, XV.le_rfl _, trivial⟩ rfl rfl) (fun k => ?_)
  obtain ⟨k, hk, he⟩ := k
  simp only
  refine CV.seq ?_
  refine sr rfl ?_
  refine ml rfl rfl bd rfl ?_
  refine ml rfl rfl bd rfl ?_
  refine p1 (ok_lenL (ziV_length _) u_bytes rfl rfl bd rfl) ?_
  refine p1 (ok_lss rfl rfl bd rfl rfl) ?_
  refine RV.done ?_
  refine CV.cond rfl (fun hc => ?_) (fun hc => ?_)
  ·refine CV.skip ?_
   refine CV.seq ?_
   refine CV.block ?_
   refine CV.seq ?_
   refine CV.region rfl (fun _ => by kernel_rfl) ?_
   refine ml rfl rfl bd rfl ?_
   refine ml rfl rfl bd rfl ?_
   refine p1 (ok_idxL (k := none) (i := k) (ziV_at (by simpa using hc)) u_bytes sz_u8 (by decide) rfl rfl bd rfl rfl) ?_
   refine p1 (ok_loadP ty_u8 (by decide) rfl rfl bd rfl) ?_
   refine ml rfl rfl bd rfl ?_
   refine ml rfl rfl bd rfl ?_
   refine p1 (ok_idxL (k := none) (i := k) (ziV_at (by rw [← hl]; simpa using hc)) u_bytes sz_u8 (by decide) rfl rfl bd rfl rfl) ?_
   refine p1 (ok_loadP ty_u8 (by decide) rfl rfl bd rfl) ?_
   refine p1 (ok_neq rfl rfl bd rfl rfl) ?_
   refine RV.drawn (by kernel_rfl) ?_
   refine CV.cond rfl (fun hd => ?_) (fun hd => ?_)
   ·refine sr rfl ?_
    refine mr rfl rfl bd rfl ?_
    refine RV.done ?_
    refine CV.ret ?_
    exact fin1 rfl (.inr rfl) rfl (is_bool (by symm; rw [decide_eq_false_iff_not]; rintro rfl; simp at hd))
   ·refine CV.skip ?_
    refine CV.region rfl (fun h => nomatch h) ?_
    refine ml rfl rfl bd rfl ?_
    refine p1 (ok_add (c := ((k + 1 : Nat) : Int)) (by rw [wrapI (by omega) (by omega)]; omega) rfl rfl bd rfl rfl) ?_
    refine mr rfl rfl bd rfl ?_
    refine RV.done ?_
    exact ⟨⟨k + 1, Nat.succ_le_of_lt (by simpa using hc), eq_take hl (by simpa using hc) he (by simpa using hd)⟩, Sub.mk ⟨XV.le_rfl _, XV.le_rfl _, XV.le_rfl _, trivial⟩ rfl rfl, by have : k < a.length := (by simpa using hc); show a.length - (k + 1) < a.length - k; omega⟩
  ·refine CV.exit ?_
   refine sr rfl ?_
   refine mr rfl rfl bd rfl ?_
   refine RV.done ?_
   refine CV.ret ?_
   have : a.length ≤ k := (by simpa using hc)
   exact fin1 rfl (.inr rfl) rfl (is_bool (by symm; rw [decide_eq_true_eq]; rwa [List.take_of_length_le this, List.take_of_length_le (by omega)] at he))
end Vc
end Go.Proofs.YtpgiebimhnhbiaaGreatDoor

namespace Go.Proofs.YtpgiebimhnhbiaaGreatDoor
open Go.RowKit
open Go.Lib (hid)
open Dg Zn Tx
namespace Vc
set_option maxRecDepth 100000

theorem dm8 : (Rat.divInt 6 (-8)).num = -3 ∧ qd (Rat.divInt 6 (-8)) = 4 ∧ ((Rat.divInt 6 (-8)).den : Int) = 4 := by
 have e : Rat.divInt 6 (-8) = Rat.divInt (-3) 4 := by rfl
 rw [e]
 have h := dv_num (p := -3) (q := 4) (by decide) (by decide)
 exact ⟨h.1, low_qd (by decide) (by decide), h.2⟩
theorem d56 : (Rat.divInt 1 2 + Rat.divInt 1 3).num = 5 ∧ qd (Rat.divInt 1 2 + Rat.divInt 1 3) = 6 := by
 have e : Rat.divInt 1 2 + Rat.divInt 1 3 = Rat.divInt 5 6 := Rat.divInt_add_divInt 1 1 (d₁ := 2) (d₂ := 3) (by decide) (by decide)
 rw [e]
 exact ⟨(dv_num (p := 5) (q := 6) (by decide) (by decide)).1, low_qd (by decide) (by decide)⟩
theorem d12 : (Rat.divInt 1 2).num = 1 ∧ qd (Rat.divInt 1 2) = 2 := ⟨(dv_num (p := 1) (q := 2) (by decide) (by decide)).1, low_qd (by decide) (by decide)⟩
theorem text_a : Con Tryz.prog 67 [RT (Rat.divInt 6 (-8)) 6] (.one (.v (str [45, 51, 47, 52]))) := by
 have q := RTextF_con (Rat.divInt 6 (-8)) 6 (by decide) (by rw [dm8.1]; decide +kernel) (by rw [dm8.2.1]; decide +kernel) (by rw [dm8.2.1]; decide)
 rwa [dm8.1, dm8.2.1, show txtI (-3) ++ 47 :: txtI 4 = [45, 51, 47, 52] by decide +kernel] at q
theorem text_b {k : Nat} (hk : k ≤ 1000000) : Con Tryz.prog 67 [RT (Rat.divInt 1 2 + Rat.divInt 1 3) k] (.one (.v (str [53, 47, 54]))) := by
 have q := RTextF_con (Rat.divInt 1 2 + Rat.divInt 1 3) k (by omega) (by rw [d56.1]; decide +kernel) (by rw [d56.2]; decide +kernel) (by rw [d56.2]; decide)
 rwa [d56.1, d56.2, show txtI 5 ++ 47 :: txtI 6 = [53, 47, 54] by decide +kernel] at q
theorem text_c {k : Nat} (hk : k ≤ 1000000) : Con Tryz.prog 10 [.d (Dm.int ((Rat.divInt 6 (-8)).num / (Rat.divInt 6 (-8)).den) k)] (.one (.v (str [45, 49]))) := by
 rw [dm8.1, dm8.2.2]
 have q := Text_con (-3 / 4) k (by omega)
 rwa [show txtI (-3 / 4) = [45, 49] by decide +kernel] at q
theorem enc_12 : encR (Rat.divInt 1 2) = W.encInts [1, 1] ++ W.encInts [1, 2] := by
 unfold encR
 rw [d12.1, d12.2]
 rfl
theorem lives5_con : Con (D := Dm) Tryz.prog 38 [] (.one (.v (.bool true))) := by
 refine Con.of (n := 103) Tryz.func38 rfl rfl rfl rfl rfl fun cx hfr => ?_
 refine sr rfl ?_
 refine mr rfl rfl bd rfl ?_
 refine RV.done (sr rfl ?_)
 refine p1 (ok_call (ROf_con _ _ (by decide) (by decide) (by decide) (by decide)) rfl rfl bd Tryz.func34 rfl rfl (.cons rfl Conv.any (.cons rfl Conv.any .nil)) rfl hfr rfl) ?_
 refine p2 (ok_alloc (i := 0) rfl rfl bd zero_rat rfl rfl rfl rfl) ?_
 refine p1 (ok_store rfl rfl rfl rfl rfl rfl rfl (ty_rat).2 rfl rfl rfl rfl) ?_
 refine RV.done (sr rfl ?_)
 refine p1 (ok_call (RParse_con _) rfl rfl bd Tryz.func68 rfl rfl (.cons rfl Conv.any .nil) rfl hfr rfl) ?_
 refine ml rfl rfl bd rfl ?_
 refine p1 (ok_extract rfl rfl bd rfl rfl) ?_
 refine p1 (ok_extract rfl rfl bd rfl rfl) ?_
 refine p2 (ok_alloc (i := 1) rfl rfl bd zero_rat rfl rfl rfl rfl) ?_
 refine p1 (ok_store rfl rfl rfl rfl rfl rfl rfl (ty_rat).2 rfl rfl rfl rfl) ?_
 refine mr rfl rfl bd rfl ?_
 refine RV.done (sr rfl ?_)
 refine p1 (ok_call (RParse_con _) rfl rfl bd Tryz.func68 rfl rfl (.cons rfl Conv.any .nil) rfl hfr rfl) ?_
 refine ml rfl rfl bd rfl ?_
 refine p1 (ok_extract rfl rfl bd rfl rfl) ?_
 refine p1 (ok_extract rfl rfl bd rfl rfl) ?_
 refine p2 (ok_alloc (i := 2) rfl rfl bd zero_rat rfl rfl rfl rfl) ?_
 refine p1 (ok_store rfl rfl rfl rfl rfl rfl rfl (ty_rat).2 rfl rfl rfl rfl) ?_
 refine mr rfl rfl bd rfl ?_
 refine RV.done (sr rfl ?_)
 refine p1 (ok_call (RParse_con _) rfl rfl bd Tryz.func68 rfl rfl (.cons rfl Conv.any .nil) rfl hfr rfl) ?_
 refine ml rfl rfl bd rfl ?_
 refine p1 (ok_extract rfl rfl bd rfl rfl) ?_
 refine p1 (ok_extract rfl rfl bd rfl rfl) ?_
 refine p2 (ok_alloc (i := 3) rfl rfl bd zero_rat rfl rfl rfl rfl) ?_
 refine p1 (ok_store rfl rfl rfl rfl rfl rfl rfl (ty_rat).2 rfl rfl rfl rfl) ?_
 refine mr rfl rfl bd rfl ?_
 refine RV.done (sr rfl ?_)
 refine p1 (ok_call (ROf_con _ _ (by decide) (by decide) (by decide) (by decide)) rfl rfl bd Tryz.func34 rfl rfl (.cons rfl Conv.any (.cons rfl Conv.any .nil)) rfl hfr rfl) ?_
 refine p1 (ok_call (ROf_con _ _ (by decide) (by decide) (by decide) (by decide)) rfl rfl bd Tryz.func34 rfl rfl (.cons rfl Conv.any (.cons rfl Conv.any .nil)) rfl hfr rfl) ?_
 refine p1 (ok_call (Between_err _ _ _ _ (by decide) (by decide) (by rw [cmpR_dv (by decide) (by decide) (by decide) (by decide)]; decide)) rfl rfl bd Tryz.func64 rfl rfl (.cons rfl Conv.any (.cons rfl Conv.any .nil)) rfl hfr rfl) ?_
 refine ml rfl rfl bd rfl ?_
 refine p1 (ok_extract rfl rfl bd rfl rfl) ?_
 refine p1 (ok_extract rfl rfl bd rfl rfl) ?_
 refine p2 (ok_alloc (i := 4) rfl rfl bd zero_rat rfl rfl rfl rfl) ?_
 refine p1 (ok_store rfl rfl rfl rfl rfl rfl rfl (ty_rat).2 rfl rfl rfl rfl) ?_
 refine mr rfl rfl bd rfl ?_
 refine RV.done (sr rfl ?_)
 refine p1 (ok_load rfl rfl bd rfl rfl rfl ty_rat) ?_
 refine p1 (ok_call (text_a) rfl rfl bd Tryz.func67 rfl rfl (.cons rfl Conv.any .nil) rfl hfr rfl) ?_
 refine p1 (ok_eqT (b := true) rfl rfl rfl bd rfl rfl) ?_
 refine ml rfl rfl bd rfl ?_
 refine RV.step1 (OpOk.yes (ok_call (ROf_con _ _ (by decide) (by decide) (by decide) (by decide)) rfl rfl bd Tryz.func34 rfl rfl (.cons rfl Conv.any (.cons rfl Conv.any .nil)) rfl hfr rfl) rfl rfl rfl) ?_
 refine RV.step1 (OpOk.yes (ok_call (ROf_con _ _ (by decide) (by decide) (by decide) (by decide)) rfl rfl bd Tryz.func34 rfl rfl (.cons rfl Conv.any (.cons rfl Conv.any .nil)) rfl hfr rfl) rfl rfl rfl) ?_
 refine RV.step1 (OpOk.yes (ok_call (RAdd_con _ _ _ _ (by decide) (by decide)) rfl rfl bd Tryz.func40 rfl rfl (.cons rfl Conv.any (.cons rfl Conv.any .nil)) rfl hfr rfl) rfl rfl rfl) ?_
 refine RV.step1 (OpOk.yes (ok_call (text_b (by decide)) rfl rfl bd Tryz.func67 rfl rfl (.cons rfl Conv.any .nil) rfl hfr rfl) rfl rfl rfl) ?_
 refine RV.step1 (OpOk.yes (ok_eqT (b := true) rfl rfl rfl bd rfl rfl) rfl rfl rfl) ?_
 refine p1 (ok_pickT rfl rfl bd rfl rfl rfl) ?_
 refine ml rfl rfl bd rfl ?_
 refine RV.step1 (OpOk.yes (ok_load rfl rfl bd rfl rfl rfl ty_rat) rfl rfl rfl) ?_
 refine RV.step1 (OpOk.yes (ok_call (RFloor_con _ _ (by decide)) rfl rfl bd Tryz.func58 rfl rfl (.cons rfl Conv.any .nil) rfl hfr rfl) rfl rfl rfl) ?_
 refine RV.step1 (OpOk.yes (ok_call (text_c (by decide)) rfl rfl bd Tryz.func10 rfl rfl (.cons rfl Conv.any .nil) rfl hfr rfl) rfl rfl rfl) ?_
 refine RV.step1 (OpOk.yes (ok_eqT (b := true) rfl rfl rfl bd rfl rfl) rfl rfl rfl) ?_
 refine p1 (ok_pickT rfl rfl bd rfl rfl rfl) ?_
 refine ml rfl rfl bd rfl ?_
 refine RV.step1 (OpOk.yes (ok_load rfl rfl bd rfl rfl rfl ty_rat) rfl rfl rfl) ?_
 refine RV.step1 (OpOk.yes (ok_call (RCeil_con _ _ (by decide)) rfl rfl bd Tryz.func60 rfl rfl (.cons rfl Conv.any .nil) rfl hfr rfl) rfl rfl rfl) ?_
 refine RV.step1 (OpOk.yes (ok_call (Sign_con _) rfl rfl bd Tryz.func88 rfl rfl (.cons rfl Conv.any .nil) rfl hfr rfl) rfl rfl rfl) ?_
 refine RV.step1 (OpOk.yes (ok_eqlT (by rw [dm8.1, dm8.2.2]; decide) rfl rfl bd rfl rfl) rfl rfl rfl) ?_
 refine p1 (ok_pickT rfl rfl bd rfl rfl rfl) ?_
 refine mr rfl rfl bd rfl ?_
 refine RV.done (sr rfl ?_)
 refine p1 (ok_call (between_1) rfl rfl bd Tryz.func110 rfl rfl (.cons rfl Conv.any (.cons rfl Conv.any (.cons rfl Conv.any (.cons rfl Conv.any .nil)))) rfl hfr rfl) ?_
 refine p1 (ok_call (rfOf_con _ _ (by decide) (by decide) (by decide) (by decide)) rfl rfl bd Tryz.func35 rfl rfl (.cons rfl Conv.any (.cons rfl Conv.any .nil)) rfl hfr rfl) ?_
 refine p1 (ok_call (same5T_con rfl) rfl rfl bd Tryz.func32 rfl rfl (.cons rfl Conv.any (.cons rfl Conv.any .nil)) rfl hfr rfl) ?_
 refine ml rfl rfl bd rfl ?_
 refine RV.step1 (OpOk.yes (ok_call (between_2) rfl rfl bd Tryz.func110 rfl rfl (.cons rfl Conv.any (.cons rfl Conv.any (.cons rfl Conv.any (.cons rfl Conv.any .nil)))) rfl hfr rfl) rfl rfl rfl) ?_
 refine RV.step1 (OpOk.yes (ok_call (rfOf_con _ _ (by decide) (by decide) (by decide) (by decide)) rfl rfl bd Tryz.func35 rfl rfl (.cons rfl Conv.any (.cons rfl Conv.any .nil)) rfl hfr rfl) rfl rfl rfl) ?_
 refine RV.step1 (OpOk.yes (ok_call (same5T_con rfl) rfl rfl bd Tryz.func32 rfl rfl (.cons rfl Conv.any (.cons rfl Conv.any .nil)) rfl hfr rfl) rfl rfl rfl) ?_
 refine p1 (ok_pickT rfl rfl bd rfl rfl rfl) ?_
 refine ml rfl rfl bd rfl ?_
 refine RV.step1 (OpOk.yes (ok_call (between_3) rfl rfl bd Tryz.func110 rfl rfl (.cons rfl Conv.any (.cons rfl Conv.any (.cons rfl Conv.any (.cons rfl Conv.any .nil)))) rfl hfr rfl) rfl rfl rfl) ?_
 refine RV.step1 (OpOk.yes (ok_call (rfOf_con _ _ (by decide) (by decide) (by decide) (by decide)) rfl rfl bd Tryz.func35 rfl rfl (.cons rfl Conv.any (.cons rfl Conv.any .nil)) rfl hfr rfl) rfl rfl rfl) ?_
 refine RV.step1 (OpOk.yes (ok_call (same5T_con (by rw [← Rat.neg_divInt])) rfl rfl bd Tryz.func32 rfl rfl (.cons rfl Conv.any (.cons rfl Conv.any .nil)) rfl hfr rfl) rfl rfl rfl) ?_
 refine p1 (ok_pickT rfl rfl bd rfl rfl rfl) ?_
 refine ml rfl rfl bd rfl ?_
 refine RV.step1 (OpOk.yes (ok_call (between_4) rfl rfl bd Tryz.func110 rfl rfl (.cons rfl Conv.any (.cons rfl Conv.any (.cons rfl Conv.any (.cons rfl Conv.any .nil)))) rfl hfr rfl) rfl rfl rfl) ?_
 refine RV.step1 (OpOk.yes (ok_build0 rfl rfl bd) rfl rfl rfl) ?_
 refine RV.step1 (OpOk.yes (ok_call (same5T_con (a := 0) (b := 0) rfl) rfl rfl bd Tryz.func32 rfl rfl (.cons rfl Conv.any (.cons rfl Conv.any .nil)) rfl hfr rfl) rfl rfl rfl) ?_
 refine p1 (ok_pickT rfl rfl bd rfl rfl rfl) ?_
 refine mr rfl rfl bd rfl ?_
 refine RV.done (sr rfl ?_)
 refine p1 (ok_litD (G := Dm.gen (lstG none (ziV .i64 [1, 1]))) (lstG_Lst none _) u_ints zs_i64 rfl rfl rfl (by intro s hs; rcases List.mem_cons.1 hs with rfl | hs; rfl; obtain rfl := List.mem_singleton.1 hs; rfl) rfl rfl rfl bd (.cons rfl Conv.any (.cons rfl Conv.any .nil))) ?_
 refine RV.step3 (OpOk.plain (ok_callRow (r := 73) (refInts_con [1, 1] (by decide) (by decide)) (ziV_vals _) rfl rfl bd Tryz.func22 rfl rfl (.cons rfl Conv.any .nil) rfl rfl rfl) rfl) ?_
 refine p1 (ok_litD (G := Dm.gen (lstG none (ziV .i64 [1, 2]))) (lstG_Lst none _) u_ints zs_i64 rfl rfl rfl (by intro s hs; rcases List.mem_cons.1 hs with rfl | hs; rfl; obtain rfl := List.mem_singleton.1 hs; rfl) rfl rfl rfl bd (.cons rfl Conv.any (.cons rfl Conv.any .nil))) ?_
 refine p1 (ok_callRowD (G := Dm.gen (lstG none (ziV .u8 (W.encInts [1, 2])))) (refInts_con [1, 2] (by decide) (by decide)) (ziV_vals _) (lstG_Lst none _) (lstG_Lst0 none _) rfl rfl bd Tryz.func22 rfl rfl (.cons rfl Conv.any .nil)) ?_
 refine RV.step4 (OpOk.plain (ok_appendND (r := 73) (r' := 76) (k := none) (G := Dm.gen (lstG none (ziV .u8 (W.encInts [1, 1] ++ W.encInts [1, 2])))) [] (cx.bw hfr) (lst_elems (by decide) (ziV_ptrs _)) (lstG_Lst none _) (lstG_Lst0 none _) (by decide) (by decide) u_bytes inf_u8 rfl rfl rfl rfl rfl bd rfl rfl rfl rfl rfl rfl rfl rfl) rfl) ?_
 refine mr rfl rfl bd rfl ?_
 refine RV.done (sr rfl ?_)
 refine ml rfl rfl bd rfl ?_
 refine ml rfl rfl bd rfl ?_
 refine RV.step1 (OpOk.yes (ok_move (.inl rfl) rfl bd rfl) rfl rfl rfl) ?_
 refine p1 (ok_pickT rfl rfl bd rfl rfl rfl) ?_
 refine ml rfl rfl bd rfl ?_
 refine RV.step1 (OpOk.yes (ok_move (.inl rfl) rfl bd rfl) rfl rfl rfl) ?_
 refine RV.step1 (OpOk.yes (ok_eqlT (by decide +kernel) rfl rfl bd rfl rfl) rfl rfl rfl) ?_
 refine p1 (ok_pickT rfl rfl bd rfl rfl rfl) ?_
 refine ml rfl rfl bd rfl ?_
 refine RV.step1 (OpOk.yes (ok_move (.inl rfl) rfl bd rfl) rfl rfl rfl) ?_
 refine RV.step1 (OpOk.yes (ok_eqlT (by decide +kernel) rfl rfl bd rfl rfl) rfl rfl rfl) ?_
 refine p1 (ok_pickT rfl rfl bd rfl rfl rfl) ?_
 refine ml rfl rfl bd rfl ?_
 refine RV.step1 (OpOk.yes (ok_move (.inl rfl) rfl bd rfl) rfl rfl rfl) ?_
 refine RV.step1 (OpOk.yes (ok_eqlT (by decide +kernel) rfl rfl bd rfl rfl) rfl rfl rfl) ?_
 refine p1 (ok_pickT rfl rfl bd rfl rfl rfl) ?_
 refine ml rfl rfl bd rfl ?_
 refine RV.step1 (OpOk.yes (ok_move (.inl rfl) rfl bd rfl) rfl rfl rfl) ?_
 refine RV.step1 (OpOk.yes (ok_eqlT rfl rfl rfl bd rfl rfl) rfl rfl rfl) ?_
 refine p1 (ok_pickT rfl rfl bd rfl rfl rfl) ?_
 refine ml rfl rfl bd rfl ?_
 refine RV.step1 (OpOk.yes (ok_call (ROf_con _ _ (by decide) (by decide) (by decide) (by decide)) rfl rfl bd Tryz.func34 rfl rfl (.cons rfl Conv.any (.cons rfl Conv.any .nil)) rfl hfr rfl) rfl rfl rfl) ?_
 refine RV.step1 (OpOk.yes (ok_callRowD (G := Dm.gen (lstG none (ziV .u8 (encR (Rat.divInt 1 2))))) (REncode_con (Rat.divInt 1 2) 6 (by rw [d12.1]; decide +kernel) (by rw [d12.2]; decide +kernel) (by rw [d12.1, d12.2]; decide +kernel)) (ziV_vals _) (lstG_Lst none _) (lstG_Lst0 none _) rfl rfl bd Tryz.func69 rfl rfl (.cons rfl Conv.any .nil)) rfl rfl rfl) ?_
 refine RV.step1 (OpOk.yes (ok_move (.inl rfl) rfl bd rfl) rfl rfl rfl) ?_
 refine RV.step1 (OpOk.yes (ok_call (show Con Tryz.prog 17 [ZI .u8 (encR (Rat.divInt 1 2)), ZI .u8 (W.encInts [1, 1] ++ W.encInts [1, 2])] (.one (.v (.bool true))) by have q := SameB_con (encR (Rat.divInt 1 2)) (W.encInts [1, 1] ++ W.encInts [1, 2]) (by rw [enc_12]; decide); rwa [decide_eq_true enc_12] at q) rfl rfl bd Tryz.func17 rfl rfl (.cons rfl Conv.any (.cons rfl Conv.any .nil)) rfl hfr rfl) rfl rfl rfl) ?_
 refine p1 (ok_pickT rfl rfl bd rfl rfl rfl) ?_
 refine mr rfl rfl bd rfl ?_
 refine RV.done ?_
 refine CV.ret ?_
 exact fin1 rfl (.inr rfl) rfl is_rfl

def numRp (zs : List Int) (p : Nat) : Rat :=
 if atI zs p 8 = 7 then Rat.divInt (numI zs (p + 1)) (numI zs (p + 9))
 else if atI zs p 8 < 2 then Rat.divInt (atI zs (p + 1) 61 - 30) 1
 else if atI zs p 8 < 4 then Rat.divInt (atI zs (p + 1) 61 - 30) (1 + atI zs (p + 2) 9)
 else Rat.divInt (atI zs (p + 1) 20001 - 10000) (1 + atI zs (p + 2) 1000)
theorem NumberRp_con (zs : List Int) (p : Nat) (hp : p ≤ 100000) : Con Tryz.prog 39 [.d (Dm.ints zs), .v (.int .i64 (p : Int))] (.one (RT (numRp zs p) 14)) := by
 have b0 := atI_bd zs p 8 (by decide)
 have b1 := atI_bd zs (p + 1) 61 (by decide)
 have b2 := atI_bd zs (p + 2) 9 (by decide)
 have b3 := atI_bd zs (p + 1) 20001 (by decide)
 have b4 := atI_bd zs (p + 2) 1000 (by decide)
 refine Con.of (n := 50) Tryz.func39 rfl rfl rfl rfl rfl fun cx hfr => ?_
 refine sr rfl ?_
 refine p2 (ok_alloc (i := 0) rfl rfl bd zero_rat rfl rfl rfl rfl) ?_
 refine RV.done (sr rfl ?_)
 refine ml rfl rfl bd rfl ?_
 refine ml rfl rfl bd rfl ?_
 refine p1 (ok_call (At_c zs p 8 (by decide) (by decide)) rfl rfl bd Tryz.func75 rfl rfl (.cons rfl Conv.any (.cons rfl Conv.any (.cons rfl Conv.any .nil))) rfl hfr rfl) ?_
 refine mr rfl rfl bd rfl ?_
 refine RV.done ?_
 refine CV.seq ?_
 refine sr rfl ?_
 refine ml rfl rfl bd rfl ?_
 refine p1 (ok_eql rfl rfl bd rfl rfl) ?_
 refine RV.done ?_
 refine CV.cond rfl (fun h1 => ?_) (fun h1 => ?_)
 ·refine sr rfl ?_
  refine ml rfl rfl bd rfl ?_
  refine ml rfl rfl bd rfl ?_
  refine p1 (ok_add (c := ((p + 1 : Nat) : Int)) (by rw [wrapI (by omega) (by omega)]; omega) rfl rfl bd rfl rfl) ?_
  refine p1 (ok_call (Number_con zs (p + 1) (by omega)) rfl rfl bd Tryz.func9 rfl rfl (.cons rfl Conv.any (.cons rfl Conv.any .nil)) rfl hfr rfl) ?_
  refine ml rfl rfl bd rfl ?_
  refine ml rfl rfl bd rfl ?_
  refine p1 (ok_add (c := ((p + 9 : Nat) : Int)) (by rw [wrapI (by omega) (by omega)]; omega) rfl rfl bd rfl rfl) ?_
  refine p1 (ok_call (Number_con zs (p + 9) (by omega)) rfl rfl bd Tryz.func9 rfl rfl (.cons rfl Conv.any (.cons rfl Conv.any .nil)) rfl hfr rfl) ?_
  refine p1 (ok_call (rMake_con _ _ _ _ (by decide) (by decide)) rfl rfl bd Tryz.func25 rfl rfl (.cons rfl Conv.any (.cons rfl Conv.any .nil)) rfl hfr rfl) ?_
  refine p1 (ok_store rfl rfl rfl rfl rfl rfl rfl (ty_rat).2 rfl rfl rfl rfl) ?_
  refine RV.done ?_
  refine CV.ret ?_
  have e : numRp zs p = Rat.divInt (numI zs (p + 1)) (numI zs (p + 9)) := by unfold numRp; rw [if_pos (by simpa using h1)]
  exact fin1 rfl (.inr rfl) ⟨_, _, _, _, _, rfl, rfl, rfl, ty_rat⟩ (is_rt (by rw [e]) (by rw [e]) (by omega))
 ·refine CV.skip ?_
  refine sr rfl ?_
  refine ml rfl rfl bd rfl ?_
  refine ml rfl rfl bd rfl ?_
  refine p1 (ok_add (c := ((p + 1 : Nat) : Int)) (by rw [wrapI (by omega) (by omega)]; omega) rfl rfl bd rfl rfl) ?_
  refine p1 (ok_call (At_c zs (p + 1) 61 (by decide) (by decide)) rfl rfl bd Tryz.func75 rfl rfl (.cons rfl Conv.any (.cons rfl Conv.any (.cons rfl Conv.any .nil))) rfl hfr rfl) ?_
  refine p1 (ok_sub (c := atI zs (p + 1) 61 - 30) (by exact wrapI (by omega) (by omega)) rfl rfl bd rfl rfl) ?_
  refine mr rfl rfl bd rfl ?_
  refine RV.done ?_
  refine CV.seq ?_
  refine sr rfl ?_
  refine ml rfl rfl bd rfl ?_
  refine p1 (ok_lss rfl rfl bd rfl rfl) ?_
  refine RV.done ?_
  refine CV.cond rfl (fun h2 => ?_) (fun h2 => ?_)
  ·refine sr rfl ?_
   refine ml rfl rfl bd rfl ?_
   refine p1 (ok_call (rfOf_con _ _ (by omega) (by omega) (by omega) (by omega)) rfl rfl bd Tryz.func35 rfl rfl (.cons rfl Conv.any (.cons rfl Conv.any .nil)) rfl hfr rfl) ?_
   refine p1 (ok_store rfl rfl rfl rfl rfl rfl rfl (ty_rat).2 rfl rfl rfl rfl) ?_
   refine RV.done ?_
   refine CV.ret ?_
   have e : numRp zs p = Rat.divInt (atI zs (p + 1) 61 - 30) 1 := by unfold numRp; rw [if_neg (by simpa using h1), if_pos (by simpa using h2)]
   exact fin1 rfl (.inr rfl) ⟨_, _, _, _, _, rfl, rfl, rfl, ty_rat⟩ (is_rt (by rw [e]) (by rw [e]) (by omega))
  ·refine CV.skip ?_
   refine CV.seq ?_
   refine sr rfl ?_
   refine ml rfl rfl bd rfl ?_
   refine p1 (ok_lss rfl rfl bd rfl rfl) ?_
   refine RV.done ?_
   refine CV.cond rfl (fun h3 => ?_) (fun h3 => ?_)
   ·refine sr rfl ?_
    refine ml rfl rfl bd rfl ?_
    refine ml rfl rfl bd rfl ?_
    refine ml rfl rfl bd rfl ?_
    refine p1 (ok_add (c := ((p + 2 : Nat) : Int)) (by rw [wrapI (by omega) (by omega)]; omega) rfl rfl bd rfl rfl) ?_
    refine p1 (ok_call (At_c zs (p + 2) 9 (by decide) (by decide)) rfl rfl bd Tryz.func75 rfl rfl (.cons rfl Conv.any (.cons rfl Conv.any (.cons rfl Conv.any .nil))) rfl hfr rfl) ?_
    refine p1 (ok_add (c := 1 + atI zs (p + 2) 9) (by exact wrapI (by omega) (by omega)) rfl rfl bd rfl rfl) ?_
    refine p1 (ok_call (rfOf_con _ _ (by omega) (by omega) (by omega) (by omega)) rfl rfl bd Tryz.func35 rfl rfl (.cons rfl Conv.any (.cons rfl Conv.any .nil)) rfl hfr rfl) ?_
    refine p1 (ok_store rfl rfl rfl rfl rfl rfl rfl (ty_rat).2 rfl rfl rfl rfl) ?_
    refine RV.done ?_
    refine CV.ret ?_
    have e : numRp zs p = Rat.divInt (atI zs (p + 1) 61 - 30) (1 + atI zs (p + 2) 9) := by unfold numRp; rw [if_neg (by simpa using h1), if_neg (by simpa using h2), if_pos (by simpa using h3)]
    exact fin1 rfl (.inr rfl) ⟨_, _, _, _, _, rfl, rfl, rfl, ty_rat⟩ (is_rt (by rw [e]) (by rw [e]) (by omega))
   ·refine CV.skip ?_
    refine sr rfl ?_
    refine ml rfl rfl bd rfl ?_
    refine ml rfl rfl bd rfl ?_
    refine p1 (ok_add (c := ((p + 1 : Nat) : Int)) (by rw [wrapI (by omega) (by omega)]; omega) rfl rfl bd rfl rfl) ?_
    refine p1 (ok_call (At_c zs (p + 1) 20001 (by decide) (by decide)) rfl rfl bd Tryz.func75 rfl rfl (.cons rfl Conv.any (.cons rfl Conv.any (.cons rfl Conv.any .nil))) rfl hfr rfl) ?_
    refine p1 (ok_sub (c := atI zs (p + 1) 20001 - 10000) (by exact wrapI (by omega) (by omega)) rfl rfl bd rfl rfl) ?_
    refine ml rfl rfl bd rfl ?_
    refine ml rfl rfl bd rfl ?_
    refine p1 (ok_add (c := ((p + 2 : Nat) : Int)) (by rw [wrapI (by omega) (by omega)]; omega) rfl rfl bd rfl rfl) ?_
    refine p1 (ok_call (At_c zs (p + 2) 1000 (by decide) (by decide)) rfl rfl bd Tryz.func75 rfl rfl (.cons rfl Conv.any (.cons rfl Conv.any (.cons rfl Conv.any .nil))) rfl hfr rfl) ?_
    refine p1 (ok_add (c := 1 + atI zs (p + 2) 1000) (by exact wrapI (by omega) (by omega)) rfl rfl bd rfl rfl) ?_
    refine p1 (ok_call (rfOf_con _ _ (by omega) (by omega) (by omega) (by omega)) rfl rfl bd Tryz.func35 rfl rfl (.cons rfl Conv.any (.cons rfl Conv.any .nil)) rfl hfr rfl) ?_
    refine p1 (ok_store rfl rfl rfl rfl rfl rfl rfl (ty_rat).2 rfl rfl rfl rfl) ?_
    refine RV.done ?_
    refine CV.ret ?_
    have e : numRp zs p = Rat.divInt (atI zs (p + 1) 20001 - 10000) (1 + atI zs (p + 2) 1000) := by unfold numRp; rw [if_neg (by simpa using h1), if_neg (by simpa using h2), if_neg (by simpa using h3)]
    exact fin1 rfl (.inr rfl) ⟨_, _, _, _, _, rfl, rfl, rfl, ty_rat⟩ (is_rt (by rw [e]) (by rw [e]) (by omega))

/-! Whole. -/
theorem ISmall_con (x : Int) {j : Nat} : Con Tryz.prog 99 [.d (Dm.int x j)] (.tup [.v (.int .i64 (smallI x).1), .v (.bool (smallI x).2)]) := by
 rintro L ρ w vs hlt hn hwf hall
 match vs, hall with
 | [v], ⟨h1, _⟩ =>
  refine (Small_any v x w (h1 w (Agree.refl _ _)).1).mono ?_
  rintro e w' ⟨rfl, h⟩
  exact ⟨_, rfl, h, [_, _], rfl, rfl, rfl, trivial⟩
theorem rSmall_con (x : Int) {j : Nat} : Con Tryz.prog 115 [.d (Dm.int x j)] (.tup [.v (.int .i64 (smallI x).1), .v (.bool (smallI x).2)]) := by
 rintro L ρ w vs hlt hn hwf hall
 match vs, hall with
 | [v], ⟨h1, _⟩ =>
  refine (refSmall_any v x w (h1 w (Agree.refl _ _)).1).mono ?_
  rintro e w' ⟨rfl, h⟩
  exact ⟨_, rfl, h, [_, _], rfl, rfl, rfl, trivial⟩
def wholeR (a : Rat) : Int × Bool := if qd a = 0 then smallI a.num else (0, false)
theorem RWhole_con (a : Rat) (k : Nat) : Con Tryz.prog 56 [RT a k] (.tup [.v (.int .i64 (wholeR a).1), .v (.bool (wholeR a).2)]) := by
 refine Con.of (n := 12) Tryz.func56 rfl rfl rfl rfl rfl fun cx hfr => ?_
 refine sr rfl ?_
 refine p2 (ok_box (i := 0) rfl rfl bd rfl rfl rfl rfl rfl) ?_
 refine mr rfl rfl bd rfl ?_
 refine mr rfl rfl bd rfl ?_
 refine RV.done ?_
 refine CV.seq ?_
 refine sr rfl ?_
 refine p1 (ok_load rfl rfl bd rfl rfl rfl ty_rat) ?_
 refine p1 (ok_call (isWhole_con _ _ _) rfl rfl bd Tryz.func105 rfl rfl (.cons rfl Conv.any .nil) rfl hfr rfl) ?_
 refine p1 (ok_not rfl rfl bd rfl) ?_
 refine RV.done ?_
 refine CV.cond rfl (fun hc => ?_) (fun hc => ?_)
 ·refine sr rfl ?_
  refine mr rfl rfl bd rfl ?_
  refine mr rfl rfl bd rfl ?_
  refine RV.done ?_
  refine CV.ret ?_
  exact fin2 rfl (.inr rfl) rfl rfl (is_tup (by unfold wholeR; rw [if_neg (by simpa using hc)]))
 ·refine CV.skip ?_
  refine sr rfl ?_
  refine p1 (ok_fieldAddr fa_rat0 rfl rfl bd rfl) ?_
  refine p1 (ok_loadf 0 fld_num rfl rfl bd rfl rfl rfl rfl ty_int) ?_
  refine p1 (ok_call (ISmall_con _) rfl rfl bd Tryz.func99 rfl rfl (.cons rfl Conv.any .nil) rfl hfr rfl) ?_
  refine p1 (ok_extract rfl rfl bd rfl rfl) ?_
  refine p1 (ok_extract rfl rfl bd rfl rfl) ?_
  refine mr rfl rfl bd rfl ?_
  refine mr rfl rfl bd rfl ?_
  refine RV.done ?_
  refine CV.ret ?_
  exact fin2 rfl (.inr rfl) rfl rfl (is_tup (by unfold wholeR; rw [if_pos (by simpa using hc)]))
theorem dig_pos {m : Nat} : 0 < (dig m).length ↔ m ≠ 0 := by
 rw [List.length_pos_iff, ne_eq, dig_eq_nil]
theorem rfWhole_con (a : Rat) (k : Nat) : Con Tryz.prog 57 [RT a k] (.tup [.v (.int .i64 (wholeR a).1), .v (.bool (wholeR a).2)]) := by
 refine Con.of (n := 14) Tryz.func57 rfl rfl rfl rfl rfl fun cx hfr => ?_
 refine sr rfl ?_
 refine p2 (ok_box (i := 0) rfl rfl bd rfl rfl rfl rfl rfl) ?_
 refine mr rfl rfl bd rfl ?_
 refine mr rfl rfl bd rfl ?_
 refine RV.done ?_
 refine CV.seq ?_
 refine sr rfl ?_
 refine p1 (ok_fieldAddr fa_rat1 rfl rfl bd rfl) ?_
 refine p1 (ok_fieldAddr fa_int1 rfl rfl bd rfl) ?_
 refine p1 (ok_loadf 3 fld_dden rfl rfl bd rfl rfl rfl rfl ty_ints) ?_
 refine p1 (ok_len rfl rfl bd rfl) ?_
 refine p1 (ok_gtr rfl rfl bd rfl rfl) ?_
 refine RV.done ?_
 refine CV.cond rfl (fun hc => ?_) (fun hc => ?_)
 ·refine sr rfl ?_
  refine mr rfl rfl bd rfl ?_
  refine mr rfl rfl bd rfl ?_
  refine RV.done ?_
  refine CV.ret ?_
  have hn : qd a ≠ 0 := (by have := dig_pos.1 (show 0 < (dig (qd a).natAbs).length by simpa using hc); omega)
  exact fin2 rfl (.inr rfl) rfl rfl (is_tup (by unfold wholeR; rw [if_neg hn]))
 ·refine CV.skip ?_
  refine sr rfl ?_
  refine p1 (ok_fieldAddr fa_rat0 rfl rfl bd rfl) ?_
  refine p1 (ok_loadf 0 fld_num rfl rfl bd rfl rfl rfl rfl ty_int) ?_
  refine p1 (ok_call (rSmall_con _) rfl rfl bd Tryz.func115 rfl rfl (.cons rfl Conv.any .nil) rfl hfr rfl) ?_
  refine p1 (ok_extract rfl rfl bd rfl rfl) ?_
  refine p1 (ok_extract rfl rfl bd rfl rfl) ?_
  refine mr rfl rfl bd rfl ?_
  refine mr rfl rfl bd rfl ?_
  refine RV.done ?_
  refine CV.ret ?_
  have hn : qd a = 0 := (by have := mt dig_pos.2 (show ¬ 0 < (dig (qd a).natAbs).length by simpa using hc); omega)
  exact fin2 rfl (.inr rfl) rfl rfl (is_tup (by unfold wholeR; rw [if_pos hn]))

/-! Floor and Ceil of the reference. -/
theorem rfFloor_con (a : Rat) (k : Nat) (hk : k ≤ 10000000) : Con Tryz.prog 59 [RT a k] (.one (.d (Dm.int (a.num / a.den) k))) := by
 refine Con.of (n := 14) Tryz.func59 rfl rfl rfl rfl rfl fun cx hfr => ?_
 refine sr rfl ?_
 refine p2 (ok_box (i := 0) rfl rfl bd rfl rfl rfl rfl rfl) ?_
 refine p2 (ok_alloc (i := 1) rfl rfl bd zero_int rfl rfl rfl rfl) ?_
 refine RV.done ?_
 refine CV.seq ?_
 refine CV.region rfl (fun _ => by kernel_rfl) ?_
 refine p1 (ok_fieldAddr fa_rat0 rfl rfl bd rfl) ?_
 refine p1 (ok_loadf 0 fld_num rfl rfl bd rfl rfl rfl rfl ty_int) ?_
 refine p1 (ok_load rfl rfl bd rfl rfl rfl ty_rat) ?_
 refine p1 (ok_call (rDen_con' _ _) rfl rfl bd Tryz.func28 rfl rfl (.cons rfl Conv.any .nil) rfl hfr rfl) ?_
 refine p1 (ok_call (rDiv_con _ _ (by omega) (by omega)) rfl rfl bd Tryz.func102 rfl rfl (.cons rfl Conv.any (.cons rfl Conv.any .nil)) rfl hfr rfl) ?_
 refine ml rfl rfl bd rfl ?_
 refine p1 (ok_extract rfl rfl bd rfl rfl) ?_
 refine p1 (ok_extract rfl rfl bd rfl rfl) ?_
 refine p2 (ok_alloc (i := 2) rfl rfl bd zero_int rfl rfl rfl rfl) ?_
 refine p2 (ok_alloc (i := 3) rfl rfl bd zero_int rfl rfl rfl rfl) ?_
 refine p1 (ok_store rfl rfl rfl rfl rfl rfl rfl (ty_int).2 rfl rfl rfl rfl) ?_
 refine p1 (ok_store rfl rfl rfl rfl rfl rfl rfl (ty_int).2 rfl rfl rfl rfl) ?_
 refine RV.drawn (by kernel_rfl) ?_
 refine sr rfl ?_
 refine p1 (ok_load rfl rfl bd rfl rfl rfl ty_int) ?_
 refine p1 (ok_store rfl rfl rfl rfl rfl rfl rfl (ty_int).2 rfl rfl rfl rfl) ?_
 refine RV.done ?_
 refine CV.ret ?_
 exact fin1 rfl (.inr rfl) ⟨_, _, _, _, _, rfl, rfl, rfl, ty_int⟩ is_rfl
theorem rfCeil_con (a : Rat) (k : Nat) (hk : k ≤ 10000000) : Con Tryz.prog 61 [RT a k] (.one (.d (Dm.int (-(-a.num / a.den)) k))) := by
 refine Con.of (n := 7) Tryz.func61 rfl rfl rfl rfl rfl fun cx hfr => ?_
 refine sr rfl ?_
 refine p2 (ok_box (i := 0) rfl rfl bd rfl rfl rfl rfl rfl) ?_
 refine p2 (ok_alloc (i := 1) rfl rfl bd zero_int rfl rfl rfl rfl) ?_
 refine RV.done (sr rfl ?_)
 refine p1 (ok_load rfl rfl bd rfl rfl rfl ty_rat) ?_
 refine p1 (ok_call (rfNeg_con _ _) rfl rfl bd Tryz.func49 rfl rfl (.cons rfl Conv.any .nil) rfl hfr rfl) ?_
 refine p1 (ok_call (rfFloor_con _ _ hk) rfl rfl bd Tryz.func59 rfl rfl (.cons rfl Conv.any .nil) rfl hfr rfl) ?_
 refine p1 (ok_call (rNeg_con _) rfl rfl bd Tryz.func103 rfl rfl (.cons rfl Conv.any .nil) rfl hfr rfl) ?_
 refine p1 (ok_store rfl rfl rfl rfl rfl rfl rfl (ty_int).2 rfl rfl rfl rfl) ?_
 refine RV.done ?_
 refine CV.ret ?_
 exact fin1 rfl (.inr rfl) ⟨_, _, _, _, _, rfl, rfl, rfl, ty_int⟩ (is_int' (by rw [Rat.neg_num, Rat.neg_den]) (Nat.le_refl _))
theorem rSameT_con {x y : Int} (h : x = y) {j k : Nat} : Con Tryz.prog 36 [.d (Dm.int x j), .d (Dm.int y k)] (.one (.v (.bool true))) := by
 have q := rSame_con x y (j := j) (k := k)
 rwa [decide_eq_true h] at q

theorem le_blkD {f : Nat → Nat} {T : TypeId} {k : Option Nat} {s : SA Dm} {x : Dm} (h : ∀ L ρ w v, s.is L ρ w v → (SA.d x).is L ρ w v) : (XV.blk T [(k, s)] : XV Dm).leR f (.blk T [(k, .d x)]) :=
 ⟨rfl, fun L ρ w _ ⟨p, r, v, h1, h2, h3, h4⟩ => ⟨p, r, v, h1, h2, h L ρ w v h3, h4⟩⟩
def zeroRat : Value := .agg #[.bool false, .slice none 0 0, .bool false, .slice none 0 0]
theorem zero_rt {k : Nat} : ∀ L ρ w v, (SA.v zeroRat : SA Dm).is L ρ w v → (SA.d (Dm.rt 0 0 k)).is L ρ w v := by
 intro L ρ w v h w' _
 obtain rfl : v = zeroRat := h
 have h0 : (dig (0 : Int).natAbs).length ≤ k := by rw [show (0 : Int).natAbs = 0 from rfl, dig_zero]; exact Nat.zero_le _
 exact ⟨_, _, rfl, Nums.nil (by decide), Nums.nil (by decide), h0, h0⟩
theorem le_zero {f : Nat → Nat} {T : TypeId} {k : Option Nat} {j : Nat} : (XV.blk T [(k, .v zeroRat)] : XV Dm).leR f (.blk T [(k, .d (Dm.rt 0 0 j))]) := le_blkD zero_rt

/-! Lists of rational numbers. -/
theorem u_rats : Tryz.prog.underlying 51 = some (.slice 45) := by kernel_rfl
theorem sz_rat : (Tryz.prog.info? 45).map (·.size) = some 4 := by kernel_rfl
theorem inf_rat : (Tryz.prog.info? 45).map (fun i => (i.zero, i.size, i.bytes)) = some (some zeroRat, 4, 64) := by kernel_rfl
theorem zs_rat : (Tryz.prog.info? 45).map (fun i => (i.size, i.zero)) = some (4, some zeroRat) := by kernel_rfl
def ratL (f : Nat → Rat) (K m : Nat) : List (SA Dm) := (List.range m).map fun i => RT (f i) K
theorem ratL_length {f : Nat → Rat} {K m : Nat} : (ratL f K m).length = m := by simp [ratL]
theorem ratL_at {f : Nat → Rat} {K m i : Nat} (h : i < m) : (ratL f K m)[i]? = some (RT (f i) K) := by simp [ratL, h]
theorem ratL_succ {f : Nat → Rat} {K m : Nat} : ratL f K m ++ [RT (f m) K] = ratL f K (m + 1) := by simp [ratL, List.range_succ]
abbrev RL (f : Nat → Rat) (K m : Nat) : SA Dm := .d (Dm.gen (lstG (some 4) (ratL f K m)))
def sumF (f : Nat → Rat) : Nat → Rat
 | 0 => 0
 | n + 1 => sumF f n + f n
def bndS (K : Nat) : Nat → Nat
 | 0 => 0
 | n + 1 => 3 * (bndS K n + K) + 20
theorem rsum_con (f : Nat → Rat) (K m : Nat) (hm : m ≤ 100000000) (hb : ∀ n, n ≤ m → bndS K n ≤ 10000000) (hK : K ≤ 10000000) : Con Tryz.prog 116 [RL f K m] (.one (RT (sumF f m) (bndS K m))) := by
 refine Con.of (n := 17) Tryz.func116 rfl rfl rfl rfl rfl fun cx hfr => ?_
 refine sr rfl ?_
 refine p2 (ok_alloc (i := 0) rfl rfl bd zero_rat rfl rfl rfl rfl) ?_
 refine RV.done (sr rfl ?_)
 refine p2 (ok_alloc (i := 1) rfl rfl bd zero_rat rfl rfl rfl rfl) ?_
 refine RV.done ?_
 refine CV.seq ?_
 refine sr rfl ?_
 refine ml rfl rfl bd rfl ?_
 refine p1 (ok_lenL ratL_length u_rats rfl rfl bd rfl) ?_
 refine ml rfl rfl bd rfl ?_
 refine RV.done ?_
 refine CV.block ?_
 refine CV.loop (X := {i : Nat // i ≤ m}) (fun i => [(.s 8, .av (.one (.v (.int .i64 (i.1 : Int))))), (.s 7, .av (.one (.v (.int .i64 (m : Int))))), (.s 6, .av (.one (RL f K m))), (.s 3, .av (.one (.ptr 1 0))), (.s 2, .av (.one (.ptr 0 0))), (.b 1, .blk 45 [(some 4, RT (sumF f i.1) (bndS K i.1))]), (.b 0, .blk 45 [(some 4, .v zeroRat)])]) (fun i => m - i.1) ⟨0, Nat.zero_le _⟩ (Sub.mk ⟨XV.le_rfl _, XV.le_rfl _, XV.le_rfl _, XV.le_rfl _, XV.le_rfl _, le_zero, XV.le_rfl _, trivial⟩ rfl rfl) (fun i => ?_)
 obtain ⟨i, hi⟩ := i
 simp only
 refine sr rfl ?_
 refine p1 (ok_lss rfl rfl bd rfl rfl) ?_
 refine RV.done ?_
 refine CV.seq ?_
 refine CV.cond rfl (fun hc => ?_) (fun hc => ?_)
 ·refine CV.skip ?_
  refine CV.seq ?_
  refine CV.block ?_
  refine sr rfl ?_
  refine p1 (ok_idxL (k := some 4) (i := i) (ratL_at (by simpa using hc)) u_rats sz_rat (by decide) rfl rfl bd rfl rfl) ?_
  refine p1 (ok_loadP ty_rat (by decide) rfl rfl bd rfl) ?_
  refine p2 (ok_alloc (i := 2) rfl rfl bd zero_rat rfl rfl rfl rfl) ?_
  refine p1 (ok_store rfl rfl rfl rfl rfl rfl rfl (ty_rat).2 rfl rfl rfl rfl) ?_
  refine RV.done ?_
  refine CV.region rfl (fun h => nomatch h) ?_
  refine p1 (ok_load rfl rfl bd rfl rfl rfl ty_rat) ?_
  refine p1 (ok_load rfl rfl bd rfl rfl rfl ty_rat) ?_
  refine p1 (ok_call (RAdd_con _ _ _ _ (hb i hi) hK) rfl rfl bd Tryz.func40 rfl rfl (.cons rfl Conv.any (.cons rfl Conv.any .nil)) rfl hfr rfl) ?_
  refine p1 (ok_store rfl rfl rfl rfl rfl rfl rfl (ty_rat).2 rfl rfl rfl rfl) ?_
  refine RV.done ?_
  refine CV.region rfl (fun h => nomatch h) ?_
  refine p1 (ok_add (c := ((i + 1 : Nat) : Int)) (by rw [wrapI (by omega) (by omega)]; omega) rfl rfl bd rfl rfl) ?_
  refine ml rfl rfl bd rfl ?_
  refine RV.done ?_
  have hlt : i < m := (by simpa using hc)
  exact ⟨⟨i + 1, hlt⟩, Sub.mk ⟨XV.le_rfl _, XV.le_rfl _, XV.le_rfl _, XV.le_rfl _, XV.le_rfl _, ⟨rfl, fun _ _ _ _ h => h⟩, XV.le_rfl _, trivial⟩ rfl rfl, by show m - (i + 1) < m - i; omega⟩
 ·refine CV.exit ?_
  refine sr rfl ?_
  refine p1 (ok_load rfl rfl bd rfl rfl rfl ty_rat) ?_
  refine p1 (ok_store rfl rfl rfl rfl rfl rfl rfl (ty_rat).2 rfl rfl rfl rfl) ?_
  refine RV.done ?_
  refine CV.ret ?_
  obtain rfl : i = m := (by have : ¬ i < m := (by simpa using hc); omega)
  exact fin1 rfl (.inr rfl) ⟨_, _, _, _, _, rfl, rfl, rfl, ty_rat⟩ is_rfl

def prodL (f : Nat → Rat) (K m i : Nat) : List (SA Dm) := (List.range m).map fun j => if j < i then RT (f j) K else .v zeroRat
theorem prodL_length {f : Nat → Rat} {K m i : Nat} : (prodL f K m i).length = m := by simp [prodL]
theorem prodL_zero {f : Nat → Rat} {K m : Nat} : List.replicate m (SA.v zeroRat : SA Dm) = prodL f K m 0 := by
 apply List.ext_getElem
 ·simp [prodL]
 ·intro i h1 h2
  simp [prodL]
theorem prodL_set {f : Nat → Rat} {K m i : Nat} : (prodL f K m i).set i (RT (f i) K) = prodL f K m (i + 1) := by
 apply List.ext_getElem
 ·simp [prodL]
 ·intro j h1 h2
  simp only [prodL, List.getElem_set, List.getElem_map, List.getElem_range]
  by_cases e : i = j
  ·subst e; rw [if_pos rfl, if_pos (Nat.lt_succ_self i)]
  ·rw [if_neg e]
   by_cases h : j < i
   ·rw [if_pos h, if_pos (by omega)]
   ·rw [if_neg h, if_neg (by omega)]
theorem prodL_all {f : Nat → Rat} {K m : Nat} : prodL f K m m = ratL f K m := by
 unfold prodL ratL
 exact List.map_congr_left fun i hi => by rw [if_pos (List.mem_range.1 hi)]
theorem RDot_con (f g : Nat → Rat) (K m n : Nat) (hm : m ≤ 1000000) (hn : n ≤ 1000000) (hK : K ≤ 1000000) (hb : ∀ i, i ≤ min m n → bndS (3 * (K + K) + 20) i ≤ 10000000) : Con Tryz.prog 62 [RL f K m, RL g K n] (.one (RT (sumF (fun i => f i * g i) (min m n)) (bndS (3 * (K + K) + 20) (min m n)))) := by
 refine Con.of (n := 33) Tryz.func62 rfl rfl rfl rfl rfl fun cx hfr => ?_
 refine sr rfl ?_
 refine p2 (ok_alloc (i := 0) rfl rfl bd zero_rat rfl rfl rfl rfl) ?_
 refine RV.done (sr rfl ?_)
 refine ml rfl rfl bd rfl ?_
 refine p1 (ok_lenL ratL_length u_rats rfl rfl bd rfl) ?_
 refine ml rfl rfl bd rfl ?_
 refine p1 (ok_lenL ratL_length u_rats rfl rfl bd rfl) ?_
 refine p1 (ok_minI (c := ((min m n : Nat) : Int)) (by split <;> omega) rfl rfl bd rfl rfl) ?_
 refine p2 (ok_make (r := 12) (Nat.le_refl _) (by omega) (by omega) u_rats inf_rat rfl rfl rfl rfl bd rfl rfl rfl rfl rfl) ?_
 refine mr rfl rfl bd rfl ?_
 refine RV.done ?_
 refine CV.seq ?_
 refine sr rfl ?_
 refine ml rfl rfl bd rfl ?_
 refine p1 (ok_lenS u_rats rfl rfl bd rfl) ?_
 refine ml rfl rfl bd rfl ?_
 refine RV.done ?_
 refine CV.block ?_
 refine CV.loop (X := {i : Nat // i ≤ min m n}) (fun i => [(.s 15, .av (.one (.v (.int .i64 (i.1 : Int))))), (.s 14, .av (.one (.v (.int .i64 ((min m n : Nat) : Int))))), (.s 0, .av (.one (RL f K m))), (.s 1, .av (.one (RL g K n))), (.s 5, .av (.one (.sl 12 (min m n)))), (.b 12, .row 45 (some 4) (prodL (fun i => f i * g i) (3 * (K + K) + 20) (min m n) i.1)), (.s 4, .av (.one (.ptr 0 0))), (.b 0, .blk 45 [(some 4, .v zeroRat)])]) (fun i => min m n - i.1) ⟨0, Nat.zero_le _⟩ (Sub.mk ⟨XV.le_rfl _, XV.le_rfl _, XV.le_rfl _, XV.le_rfl _, XV.le_rfl _, XV.le_row prodL_zero, XV.le_rfl _, XV.le_rfl _, trivial⟩ rfl rfl) (fun i => ?_)
 obtain ⟨i, hi⟩ := i
 simp only
 refine sr rfl ?_
 refine p1 (ok_lss rfl rfl bd rfl rfl) ?_
 refine RV.done ?_
 refine CV.seq ?_
 refine CV.cond rfl (fun hc => ?_) (fun hc => ?_)
 ·refine CV.skip ?_
  refine CV.seq ?_
  refine CV.block ?_
  refine sr rfl ?_
  refine ml rfl rfl bd rfl ?_
  refine mr rfl rfl bd rfl ?_
  refine RV.done ?_
  refine CV.region rfl (fun _ => by kernel_rfl) ?_
  refine ml rfl rfl bd rfl ?_
  refine ml rfl rfl bd rfl ?_
  refine ml rfl rfl bd rfl ?_
  refine ml rfl rfl bd rfl ?_
  refine p1 (ok_idxL (k := some 4) (i := i) (ratL_at (by have : i < min m n := (by simpa using hc); omega)) u_rats sz_rat (by decide) rfl rfl bd rfl rfl) ?_
  refine p1 (ok_loadP ty_rat (by decide) rfl rfl bd rfl) ?_
  refine ml rfl rfl bd rfl ?_
  refine ml rfl rfl bd rfl ?_
  refine p1 (ok_idxL (k := some 4) (i := i) (ratL_at (by have : i < min m n := (by simpa using hc); omega)) u_rats sz_rat (by decide) rfl rfl bd rfl rfl) ?_
  refine p1 (ok_loadP ty_rat (by decide) rfl rfl bd rfl) ?_
  refine p1 (ok_call (RMul_con _ _ _ _ (by omega) (by omega)) rfl rfl bd Tryz.func44 rfl rfl (.cons rfl Conv.any (.cons rfl Conv.any .nil)) rfl hfr rfl) ?_
  refine p1 (ok_idxR (i := i) (by simpa using hc) (by rw [prodL_length]; exact Nat.le_refl _) u_rats sz_rat rfl rfl bd rfl rfl rfl) ?_
  refine p1 (ok_storeR (i := i) (by rw [prodL_length]; simpa using hc) rfl (by show 0 < 4; decide) rfl rfl rfl rfl rfl rfl sz_rat (.inl rfl) rfl rfl) ?_
  refine RV.drawn (by kernel_rfl) ?_
  refine CV.region rfl (fun h => nomatch h) ?_
  refine p1 (ok_add (c := ((i + 1 : Nat) : Int)) (by rw [wrapI (by omega) (by omega)]; omega) rfl rfl bd rfl rfl) ?_
  refine ml rfl rfl bd rfl ?_
  refine RV.done ?_
  have hlt : i < min m n := (by simpa using hc)
  exact ⟨⟨i + 1, hlt⟩, Sub.mk ⟨XV.le_rfl _, XV.le_rfl _, XV.le_rfl _, XV.le_rfl _, XV.le_rfl _, XV.le_row prodL_set, XV.le_rfl _, XV.le_rfl _, trivial⟩ rfl rfl, by show min m n - (i + 1) < min m n - i; omega⟩
 ·refine CV.exit ?_
  refine CV.seq ?_
  have hi2 : i = min m n := (by have : ¬ i < min m n := (by simpa using hc); omega)
  subst hi2
  rw [prodL_all]
  refine CV.freeze (r := 12) (t := 5) (G := Dm.gen (lstG (some 4) (ratL (fun i => f i * g i) (3 * (K + K) + 20) (min m n)))) (cx.bw hfr) rfl rfl ratL_length.symm rfl rfl (lstG_Lst _ _) (lstG_Lst0 _ _) ?_
  refine CV.region rfl (fun h => nomatch h) ?_
  refine ml rfl rfl bd rfl ?_
  refine p1 (ok_call (rsum_con _ _ _ (by omega) hb (by omega)) rfl rfl bd Tryz.func116 rfl rfl (.cons rfl Conv.any .nil) rfl hfr rfl) ?_
  refine p1 (ok_store rfl rfl rfl rfl rfl rfl rfl (ty_rat).2 rfl rfl rfl rfl) ?_
  refine RV.done ?_
  refine CV.ret ?_
  exact fin1 rfl (.inr rfl) ⟨_, _, _, _, _, rfl, rfl, rfl, ty_rat⟩ is_rfl
theorem rfDot_con (f g : Nat → Rat) (K m n : Nat) (hm : m ≤ 1000000) (hn : n ≤ 1000000) (hK : K ≤ 100000) (hb : ∀ i, i ≤ min m n → bndS (3 * (K + K) + 20) i ≤ 1000000) : Con Tryz.prog 63 [RL f K m, RL g K n] (.one (RT (sumF (fun i => f i * g i) (min m n)) (bndS (3 * (K + K) + 20) (min m n)))) := by
 refine Con.of (n := 31) Tryz.func63 rfl rfl rfl rfl rfl fun cx hfr => ?_
 refine sr rfl ?_
 refine p2 (ok_alloc (i := 0) rfl rfl bd zero_rat rfl rfl rfl rfl) ?_
 refine RV.done (sr rfl ?_)
 refine p2 (ok_alloc (i := 1) rfl rfl bd zero_rat rfl rfl rfl rfl) ?_
 refine RV.done ?_
 refine CV.seq ?_
 refine sr rfl ?_
 refine mr rfl rfl bd rfl ?_
 refine RV.done ?_
 refine CV.block ?_
 refine CV.loop (X := {i : Nat // i ≤ min m n}) (fun i => [(.s 6, .av (.one (.v (.int .i64 (i.1 : Int))))), (.s 0, .av (.one (RL f K m))), (.s 1, .av (.one (RL g K n))), (.s 5, .av (.one (.ptr 1 0))), (.b 1, .blk 45 [(some 4, RT (sumF (fun i => f i * g i) i.1) (bndS (3 * (K + K) + 20) i.1))]), (.s 4, .av (.one (.ptr 0 0))), (.b 0, .blk 45 [(some 4, .v zeroRat)])]) (fun i => min m n - i.1) ⟨0, Nat.zero_le _⟩ (Sub.mk ⟨XV.le_rfl _, XV.le_rfl _, XV.le_rfl _, XV.le_rfl _, le_zero, XV.le_rfl _, XV.le_rfl _, trivial⟩ rfl rfl) (fun i => ?_)
 obtain ⟨i, hi⟩ := i
 simp only
 refine CV.seq ?_
 refine sr rfl ?_
 refine ml rfl rfl bd rfl ?_
 refine ml rfl rfl bd rfl ?_
 refine p1 (ok_lenL ratL_length u_rats rfl rfl bd rfl) ?_
 refine p1 (ok_lss rfl rfl bd rfl rfl) ?_
 refine ml rfl rfl bd rfl ?_
 refine RV.bool (fun h1 => ?_) (fun h1 => ?_)
 ·refine RV.step1 (OpOk.yes (ok_move (.inl rfl) rfl bd rfl) rfl rfl rfl) ?_
  refine RV.step1 (OpOk.yes (ok_move (.inl rfl) rfl bd rfl) rfl rfl rfl) ?_
  refine RV.step1 (OpOk.yes (ok_lenL ratL_length u_rats rfl rfl bd rfl) rfl rfl rfl) ?_
  refine RV.step1 (OpOk.yes (ok_lss rfl rfl bd rfl rfl) rfl rfl rfl) ?_
  refine p1 (ok_pickT rfl rfl bd rfl rfl rfl) ?_
  refine RV.done ?_
  refine CV.cond rfl (fun h2 => ?_) (fun h2 => ?_)
  ·refine CV.skip ?_
   refine CV.seq ?_
   refine CV.block ?_
   refine CV.region rfl (fun _ => by kernel_rfl) ?_
   refine p1 (ok_load rfl rfl bd rfl rfl rfl ty_rat) ?_
   refine ml rfl rfl bd rfl ?_
   refine ml rfl rfl bd rfl ?_
   refine p1 (ok_idxL (k := some 4) (i := i) (ratL_at (by simpa using h1)) u_rats sz_rat (by decide) rfl rfl bd rfl rfl) ?_
   refine p1 (ok_loadP ty_rat (by decide) rfl rfl bd rfl) ?_
   refine ml rfl rfl bd rfl ?_
   refine ml rfl rfl bd rfl ?_
   refine p1 (ok_idxL (k := some 4) (i := i) (ratL_at (by simpa using h2)) u_rats sz_rat (by decide) rfl rfl bd rfl rfl) ?_
   refine p1 (ok_loadP ty_rat (by decide) rfl rfl bd rfl) ?_
   refine p1 (ok_call (rfMul_con _ _ _ _ (by omega) (by omega)) rfl rfl bd Tryz.func45 rfl rfl (.cons rfl Conv.any (.cons rfl Conv.any .nil)) rfl hfr rfl) ?_
   refine p1 (ok_call (rfAdd_con _ _ _ _ (hb i hi) (by omega)) rfl rfl bd Tryz.func41 rfl rfl (.cons rfl Conv.any (.cons rfl Conv.any .nil)) rfl hfr rfl) ?_
   refine p1 (ok_store rfl rfl rfl rfl rfl rfl rfl (ty_rat).2 rfl rfl rfl rfl) ?_
   refine RV.drawn (by kernel_rfl) ?_
   refine CV.region rfl (fun h => nomatch h) ?_
   refine ml rfl rfl bd rfl ?_
   refine p1 (ok_add (c := ((i + 1 : Nat) : Int)) (by rw [wrapI (by omega) (by omega)]; omega) rfl rfl bd rfl rfl) ?_
   refine mr rfl rfl bd rfl ?_
   refine RV.done ?_
   have hlt1 : i < m := (by simpa using h1)
   have hlt2 : i < n := (by simpa using h2)
   exact ⟨⟨i + 1, by omega⟩, Sub.mk ⟨XV.le_rfl _, XV.le_rfl _, XV.le_rfl _, XV.le_rfl _, ⟨rfl, fun _ _ _ _ h => h⟩, XV.le_rfl _, XV.le_rfl _, trivial⟩ rfl rfl, by show min m n - (i + 1) < min m n - i; omega⟩
  ·refine CV.exit ?_
   refine sr rfl ?_
   refine p1 (ok_load rfl rfl bd rfl rfl rfl ty_rat) ?_
   refine p1 (ok_store rfl rfl rfl rfl rfl rfl rfl (ty_rat).2 rfl rfl rfl rfl) ?_
   refine RV.done ?_
   refine CV.ret ?_
   obtain rfl : i = min m n := (by have : ¬ i < n := (by simpa using h2); omega)
   exact fin1 rfl (.inr rfl) ⟨_, _, _, _, _, rfl, rfl, rfl, ty_rat⟩ is_rfl
 ·refine RV.step1 (OpOk.skip rfl rfl rfl rfl rfl bd) ?_
  refine RV.step1 (OpOk.skip rfl rfl rfl rfl rfl bd) ?_
  refine RV.step1 (OpOk.skip rfl rfl rfl rfl rfl bd) ?_
  refine RV.step1 (OpOk.skip rfl rfl rfl rfl rfl bd) ?_
  refine p1 (ok_pickF rfl rfl bd rfl rfl rfl) ?_
  refine RV.done ?_
  refine CV.no rfl ?_
  refine CV.exit ?_
  refine sr rfl ?_
  refine p1 (ok_load rfl rfl bd rfl rfl rfl ty_rat) ?_
  refine p1 (ok_store rfl rfl rfl rfl rfl rfl rfl (ty_rat).2 rfl rfl rfl rfl) ?_
  refine RV.done ?_
  refine CV.ret ?_
  obtain rfl : i = min m n := (by have : ¬ i < m := (by simpa using h1); omega)
  exact fin1 rfl (.inr rfl) ⟨_, _, _, _, _, rfl, rfl, rfl, ty_rat⟩ is_rfl

theorem tdiv6 {c : Int} (h1 : -9223372036854775808 ≤ c) (h2 : c ≤ 9223372036854775807) : -9223372036854775808 ≤ c.tdiv 6 ∧ c.tdiv 6 ≤ 9223372036854775807 := by
 rcases Int.lt_or_le c 0 with h | h
 ·rw [show c.tdiv 6 = -((-c).tdiv 6) by rw [Int.neg_tdiv, Int.neg_neg], Int.tdiv_eq_ediv_of_nonneg (by omega)]
  omega
 ·rw [Int.tdiv_eq_ediv_of_nonneg h]
  omega
theorem bnd5 : ∀ n, n ≤ 5 → bndS (3 * (14 + 14) + 20) n ≤ 1000000 := by decide
section
variable (l m : List Int) (c : Int) (hc1 : -9223372036854775808 ≤ c) (hc2 : c ≤ 9223372036854775807)
include hc1 hc2
theorem rounds_con : Con Tryz.prog 6 [.d (Dm.ints l), .d (Dm.ints m), .v (.int .i64 c)] (.one (.v (.bool true))) := by
 have a1 := aroundI_bd c 6 (by decide)
 have a2 := aroundI_bd (c.tdiv 6) 6 (by decide)
 obtain ⟨n1, hn1⟩ : ∃ n : Nat, aroundI c 6 = n := ⟨_, (Int.toNat_of_nonneg a1.1).symm⟩
 obtain ⟨n2, hn2⟩ : ∃ n : Nat, aroundI (c.tdiv 6) 6 = n := ⟨_, (Int.toNat_of_nonneg a2.1).symm⟩
 rw [hn1] at a1; rw [hn2] at a2
 have d6 := tdiv6 hc1 hc2
 refine Con.of (n := 89) Tryz.func6 rfl rfl rfl rfl rfl fun cx hfr => ?_
 refine sr rfl ?_
 refine mr rfl rfl bd rfl ?_
 refine RV.done (sr rfl ?_)
 refine ml rfl rfl bd rfl ?_
 refine p1 (ok_call (NumberRp_con l 0 (by decide)) rfl rfl bd Tryz.func39 rfl rfl (.cons rfl Conv.any (.cons rfl Conv.any .nil)) rfl hfr rfl) ?_
 refine p2 (ok_alloc (i := 0) rfl rfl bd zero_rat rfl rfl rfl rfl) ?_
 refine p1 (ok_store rfl rfl rfl rfl rfl rfl rfl (ty_rat).2 rfl rfl rfl rfl) ?_
 refine RV.done (sr rfl ?_)
 refine p1 (ok_load rfl rfl bd rfl rfl rfl ty_rat) ?_
 refine p1 (ok_call (RWhole_con _ _) rfl rfl bd Tryz.func56 rfl rfl (.cons rfl Conv.any .nil) rfl hfr rfl) ?_
 refine ml rfl rfl bd rfl ?_
 refine p1 (ok_extract rfl rfl bd rfl rfl) ?_
 refine p1 (ok_extract rfl rfl bd rfl rfl) ?_
 refine mr rfl rfl bd rfl ?_
 refine mr rfl rfl bd rfl ?_
 refine RV.done (sr rfl ?_)
 refine p1 (ok_load rfl rfl bd rfl rfl rfl ty_rat) ?_
 refine p1 (ok_call (rfWhole_con _ _) rfl rfl bd Tryz.func57 rfl rfl (.cons rfl Conv.any .nil) rfl hfr rfl) ?_
 refine ml rfl rfl bd rfl ?_
 refine p1 (ok_extract rfl rfl bd rfl rfl) ?_
 refine p1 (ok_extract rfl rfl bd rfl rfl) ?_
 refine mr rfl rfl bd rfl ?_
 refine mr rfl rfl bd rfl ?_
 refine RV.done (sr rfl ?_)
 refine mr rfl rfl bd rfl ?_
 refine RV.done (sr rfl ?_)
 refine mr rfl rfl bd rfl ?_
 refine RV.done ?_
 refine CV.seq ?_
 refine CV.seq ?_
 refine CV.nilrow 12 100 45 (some 4) rfl rfl rfl rfl ?_
 refine CV.region rfl (fun h => nomatch h) ?_
 refine mr rfl rfl bd rfl ?_
 refine RV.done ?_
 refine CV.block ?_
 refine CV.loop (X := {k : Nat // k ≤ n1}) (fun k => [(.s 14, .av (.one (.v (.int .i64 (k.1 : Int))))), (.s 12, .av (.one (.sl 100 k.1))), (.b 100, .row 45 (some 4) (ratL (fun i => numRp l (2 * i)) 14 k.1)), (.s 13, .av (.one (.v (.slice none 0 0)))), (.s 7, .av (.one (.ptr 0 0))), (.b 0, .blk 45 [(some 4, RT (numRp l 0) 14)]), (.s 8, .av (.one (.v (.int .i64 (wholeR (numRp l 0)).1)))), (.s 9, .av (.one (.v (.bool (wholeR (numRp l 0)).2)))), (.s 10, .av (.one (.v (.int .i64 (wholeR (numRp l 0)).1)))), (.s 11, .av (.one (.v (.bool (wholeR (numRp l 0)).2)))), (.s 0, .av (.one (.d (Dm.ints l)))), (.s 1, .av (.one (.d (Dm.ints m)))), (.s 2, .av (.one (.v (.int .i64 c))))]) (fun k => n1 - k.1) ⟨0, Nat.zero_le _⟩ (Sub.mk ⟨XV.le_same, XV.le_rfl _, XV.le_row rfl, XV.le_same, XV.le_rfl _, XV.le_rfl _, XV.le_same, XV.le_same, XV.le_same, XV.le_same, XV.le_same, XV.le_same, XV.le_same, trivial⟩ rfl rfl) (fun k => ?_)
 obtain ⟨k, hk⟩ := k
 simp only
 refine CV.seq ?_
 refine sr rfl ?_
 refine ml rfl rfl bd rfl ?_
 refine ml rfl rfl bd rfl ?_
 refine p1 (ok_call (hn1 ▸ Around_con c 6 hc1 hc2 (by decide) (by decide)) rfl rfl bd Tryz.func19 rfl rfl (.cons rfl Conv.any (.cons rfl Conv.any .nil)) rfl hfr rfl) ?_
 refine p1 (ok_lss rfl rfl bd rfl rfl) ?_
 refine RV.done ?_
 refine CV.cond rfl (fun h1 => ?_) (fun h1 => ?_)
 ·refine CV.skip ?_
  refine CV.seq ?_
  refine CV.block ?_
  refine CV.region rfl (fun h => nomatch h) ?_
  refine ml rfl rfl bd rfl ?_
  refine ml rfl rfl bd rfl ?_
  refine ml rfl rfl bd rfl ?_
  refine p1 (ok_mul (c := ((2 * k : Nat) : Int)) (by rw [wrapI (by omega) (by omega)]; omega) rfl rfl bd rfl rfl) ?_
  refine p1 (ok_call (NumberRp_con l (2 * k) (by omega)) rfl rfl bd Tryz.func39 rfl rfl (.cons rfl Conv.any (.cons rfl Conv.any .nil)) rfl hfr rfl) ?_
  refine p1 (ok_litD (G := Dm.gen (lstG (some 4) [_])) (lstG_Lst _ _) u_rats zs_rat rfl rfl rfl (by intro s hs; obtain rfl := List.mem_singleton.1 hs; rfl) rfl rfl rfl bd (.cons rfl Conv.any .nil)) ?_
  refine RV.step3 (OpOk.plain (ok_append (r := 100) (r' := 101) (lst_elems (by decide) rfl) (by rw [ratL_length]; show (k + 1) * 64 ≤ _; omega) (by rw [ratL_length]; show k + 1 ≤ _; omega) u_rats inf_rat rfl rfl rfl (by intro x hx; obtain rfl := List.mem_singleton.1 hx; rfl) ratL_length.symm rfl rfl bd rfl rfl rfl rfl rfl rfl rfl rfl) rfl) ?_
  refine mr rfl rfl bd rfl ?_
  refine RV.done ?_
  refine CV.region rfl (fun h => nomatch h) ?_
  refine ml rfl rfl bd rfl ?_
  refine p1 (ok_add (c := ((k + 1 : Nat) : Int)) (by rw [wrapI (by omega) (by omega)]; omega) rfl rfl bd rfl rfl) ?_
  refine mr rfl rfl bd rfl ?_
  refine RV.done ?_
  have hlt : k < n1 := (by simpa using h1)
  exact ⟨⟨k + 1, hlt⟩, Sub.mkr (fun i => if i = 100 then 101 else i) ⟨XV.le_same, XV.le_sl rfl rfl, XV.le_row ratL_succ, XV.le_same, fun _ _ _ _ h => h, ⟨rfl, fun _ _ _ _ h => h⟩, XV.le_same, XV.le_same, XV.le_same, XV.le_same, XV.le_same, XV.le_same, XV.le_same, trivial⟩ rfl rfl rfl rfl, by show n1 - (k + 1) < n1 - k; omega⟩
 ·refine CV.exit ?_
  refine CV.seq ?_
  refine CV.seq ?_
  have hk1 : k = n1 := (by have : ¬ k < n1 := (by simpa using h1); omega)
  subst hk1
  refine CV.freeze (r := 100) (t := 12) (G := Dm.gen (lstG (some 4) (ratL (fun i => numRp l (2 * i)) 14 k))) (cx.bw hfr) rfl rfl ratL_length.symm rfl rfl (lstG_Lst _ _) (lstG_Lst0 _ _) ?_
  refine CV.nilrow 13 102 45 (some 4) rfl rfl rfl rfl ?_
  refine CV.region rfl (fun h => nomatch h) ?_
  refine mr rfl rfl bd rfl ?_
  refine RV.done ?_
  refine CV.block ?_
  refine CV.loop (X := {j : Nat // j ≤ n2}) (fun j => [(.s 15, .av (.one (.v (.int .i64 (j.1 : Int))))), (.s 13, .av (.one (.sl 102 j.1))), (.b 102, .row 45 (some 4) (ratL (fun i => numRp m (2 * i)) 14 j.1)), (.s 12, .av (.one (RL (fun i => numRp l (2 * i)) 14 k))), (.s 7, .av (.one (.ptr 0 0))), (.b 0, .blk 45 [(some 4, RT (numRp l 0) 14)]), (.s 8, .av (.one (.v (.int .i64 (wholeR (numRp l 0)).1)))), (.s 9, .av (.one (.v (.bool (wholeR (numRp l 0)).2)))), (.s 10, .av (.one (.v (.int .i64 (wholeR (numRp l 0)).1)))), (.s 11, .av (.one (.v (.bool (wholeR (numRp l 0)).2)))), (.s 0, .av (.one (.d (Dm.ints l)))), (.s 1, .av (.one (.d (Dm.ints m)))), (.s 2, .av (.one (.v (.int .i64 c))))]) (fun j => n2 - j.1) ⟨0, Nat.zero_le _⟩ (Sub.mk ⟨XV.le_same, XV.le_rfl _, XV.le_row rfl, XV.le_same, XV.le_rfl _, XV.le_rfl _, XV.le_same, XV.le_same, XV.le_same, XV.le_same, XV.le_same, XV.le_same, XV.le_same, trivial⟩ rfl rfl) (fun j => ?_)
  obtain ⟨j, hj⟩ := j
  simp only
  refine CV.seq ?_
  refine sr rfl ?_
  refine ml rfl rfl bd rfl ?_
  refine ml rfl rfl bd rfl ?_
  refine p1 (ok_quo (c := c.tdiv 6) (by decide) (wrapI d6.1 d6.2) rfl rfl bd rfl rfl) ?_
  refine p1 (ok_call (hn2 ▸ Around_con (c.tdiv 6) 6 d6.1 d6.2 (by decide) (by decide)) rfl rfl bd Tryz.func19 rfl rfl (.cons rfl Conv.any (.cons rfl Conv.any .nil)) rfl hfr rfl) ?_
  refine p1 (ok_lss rfl rfl bd rfl rfl) ?_
  refine RV.done ?_
  refine CV.cond rfl (fun h2 => ?_) (fun h2 => ?_)
  ·refine CV.skip ?_
   refine CV.seq ?_
   refine CV.block ?_
   refine CV.region rfl (fun h => nomatch h) ?_
   refine ml rfl rfl bd rfl ?_
   refine ml rfl rfl bd rfl ?_
   refine ml rfl rfl bd rfl ?_
   refine p1 (ok_mul (c := ((2 * j : Nat) : Int)) (by rw [wrapI (by omega) (by omega)]; omega) rfl rfl bd rfl rfl) ?_
   refine p1 (ok_call (NumberRp_con m (2 * j) (by omega)) rfl rfl bd Tryz.func39 rfl rfl (.cons rfl Conv.any (.cons rfl Conv.any .nil)) rfl hfr rfl) ?_
   refine p1 (ok_litD (G := Dm.gen (lstG (some 4) [_])) (lstG_Lst _ _) u_rats zs_rat rfl rfl rfl (by intro s hs; obtain rfl := List.mem_singleton.1 hs; rfl) rfl rfl rfl bd (.cons rfl Conv.any .nil)) ?_
   refine RV.step3 (OpOk.plain (ok_append (r := 102) (r' := 103) (lst_elems (by decide) rfl) (by rw [ratL_length]; show (j + 1) * 64 ≤ _; omega) (by rw [ratL_length]; show j + 1 ≤ _; omega) u_rats inf_rat rfl rfl rfl (by intro x hx; obtain rfl := List.mem_singleton.1 hx; rfl) ratL_length.symm rfl rfl bd rfl rfl rfl rfl rfl rfl rfl rfl) rfl) ?_
   refine mr rfl rfl bd rfl ?_
   refine RV.done ?_
   refine CV.region rfl (fun h => nomatch h) ?_
   refine ml rfl rfl bd rfl ?_
   refine p1 (ok_add (c := ((j + 1 : Nat) : Int)) (by rw [wrapI (by omega) (by omega)]; omega) rfl rfl bd rfl rfl) ?_
   refine mr rfl rfl bd rfl ?_
   refine RV.done ?_
   have hlt : j < n2 := (by simpa using h2)
   exact ⟨⟨j + 1, hlt⟩, Sub.mkr (fun i => if i = 102 then 103 else i) ⟨XV.le_same, XV.le_sl rfl rfl, XV.le_row ratL_succ, XV.le_same, fun _ _ _ _ h => h, ⟨rfl, fun _ _ _ _ h => h⟩, XV.le_same, XV.le_same, XV.le_same, XV.le_same, XV.le_same, XV.le_same, XV.le_same, trivial⟩ rfl rfl rfl rfl, by show n2 - (j + 1) < n2 - j; omega⟩
  ·refine CV.exit ?_
   refine CV.seq ?_
   have hj1 : j = n2 := (by have : ¬ j < n2 := (by simpa using h2); omega)
   subst hj1
   refine CV.freeze (r := 102) (t := 13) (G := Dm.gen (lstG (some 4) (ratL (fun i => numRp m (2 * i)) 14 j))) (cx.bw hfr) rfl rfl ratL_length.symm rfl rfl (lstG_Lst _ _) (lstG_Lst0 _ _) ?_
   refine CV.region rfl (fun _ => by kernel_rfl) ?_
   refine p1 (ok_load rfl rfl bd rfl rfl rfl ty_rat) ?_
   refine p1 (ok_call (RFloor_con _ _ (by decide)) rfl rfl bd Tryz.func58 rfl rfl (.cons rfl Conv.any .nil) rfl hfr rfl) ?_
   refine p1 (ok_load rfl rfl bd rfl rfl rfl ty_rat) ?_
   refine p1 (ok_call (rfFloor_con _ _ (by decide)) rfl rfl bd Tryz.func59 rfl rfl (.cons rfl Conv.any .nil) rfl hfr rfl) ?_
   refine p1 (ok_call (rSameT_con rfl) rfl rfl bd Tryz.func36 rfl rfl (.cons rfl Conv.any (.cons rfl Conv.any .nil)) rfl hfr rfl) ?_
   refine ml rfl rfl bd rfl ?_
   refine RV.step1 (OpOk.yes (ok_load rfl rfl bd rfl rfl rfl ty_rat) rfl rfl rfl) ?_
   refine RV.step1 (OpOk.yes (ok_call (RCeil_con _ _ (by decide)) rfl rfl bd Tryz.func60 rfl rfl (.cons rfl Conv.any .nil) rfl hfr rfl) rfl rfl rfl) ?_
   refine RV.step1 (OpOk.yes (ok_load rfl rfl bd rfl rfl rfl ty_rat) rfl rfl rfl) ?_
   refine RV.step1 (OpOk.yes (ok_call (rfCeil_con _ _ (by decide)) rfl rfl bd Tryz.func61 rfl rfl (.cons rfl Conv.any .nil) rfl hfr rfl) rfl rfl rfl) ?_
   refine RV.step1 (OpOk.yes (ok_call (rSameT_con rfl) rfl rfl bd Tryz.func36 rfl rfl (.cons rfl Conv.any (.cons rfl Conv.any .nil)) rfl hfr rfl) rfl rfl rfl) ?_
   refine p1 (ok_pickT rfl rfl bd rfl rfl rfl) ?_
   refine ml rfl rfl bd rfl ?_
   refine RV.step1 (OpOk.yes (ok_move (.inl rfl) rfl bd rfl) rfl rfl rfl) ?_
   refine RV.step1 (OpOk.yes (ok_move (.inl rfl) rfl bd rfl) rfl rfl rfl) ?_
   refine RV.step1 (OpOk.yes (ok_eqlT rfl rfl rfl bd rfl rfl) rfl rfl rfl) ?_
   refine p1 (ok_pickT rfl rfl bd rfl rfl rfl) ?_
   refine ml rfl rfl bd rfl ?_
   refine RV.step1 (OpOk.yes (ok_move (.inl rfl) rfl bd rfl) rfl rfl rfl) ?_
   refine RV.step1 (OpOk.yes (ok_move (.inl rfl) rfl bd rfl) rfl rfl rfl) ?_
   refine RV.step1 (OpOk.yes (ok_beqT rfl rfl rfl bd rfl rfl) rfl rfl rfl) ?_
   refine p1 (ok_pickT rfl rfl bd rfl rfl rfl) ?_
   refine ml rfl rfl bd rfl ?_
   refine RV.step1 (OpOk.yes (ok_move (.inl rfl) rfl bd rfl) rfl rfl rfl) ?_
   refine RV.step1 (OpOk.yes (ok_move (.inl rfl) rfl bd rfl) rfl rfl rfl) ?_
   refine RV.step1 (OpOk.yes (ok_call (RDot_con _ _ 14 k j (by omega) (by omega) (by decide) (fun i hi => Nat.le_trans (bnd5 i (by omega)) (by decide))) rfl rfl bd Tryz.func62 rfl rfl (.cons rfl Conv.any (.cons rfl Conv.any .nil)) rfl hfr rfl) rfl rfl rfl) ?_
   refine RV.step1 (OpOk.yes (ok_move (.inl rfl) rfl bd rfl) rfl rfl rfl) ?_
   refine RV.step1 (OpOk.yes (ok_move (.inl rfl) rfl bd rfl) rfl rfl rfl) ?_
   refine RV.step1 (OpOk.yes (ok_call (rfDot_con _ _ 14 k j (by omega) (by omega) (by decide) (fun i hi => bnd5 i (by omega))) rfl rfl bd Tryz.func63 rfl rfl (.cons rfl Conv.any (.cons rfl Conv.any .nil)) rfl hfr rfl) rfl rfl rfl) ?_
   refine RV.step1 (OpOk.yes (ok_call (same5T_con rfl) rfl rfl bd Tryz.func32 rfl rfl (.cons rfl Conv.any (.cons rfl Conv.any .nil)) rfl hfr rfl) rfl rfl rfl) ?_
   refine p1 (ok_pickT rfl rfl bd rfl rfl rfl) ?_
   refine ml rfl rfl bd rfl ?_
   refine RV.step1 (OpOk.yes (ok_call (lives5_con) rfl rfl bd Tryz.func38 rfl rfl .nil rfl hfr rfl) rfl rfl rfl) ?_
   refine p1 (ok_pickT rfl rfl bd rfl rfl rfl) ?_
   refine mr rfl rfl bd rfl ?_
   refine RV.drawn (by kernel_rfl) ?_
   refine CV.ret ?_
   exact fin1 rfl (.inr rfl) rfl is_rfl
end

theorem row_of_at {k : IntKind} {w : World} {v : Value} {zs : List Int} (h : (lstG none (ziV k zs)).is w v) : Row k w v zs := by
 obtain ⟨ao, cap, rfl, h1, h2⟩ := h
 rw [ziV_length] at h1 h2 ⊢
 refine ⟨ao, cap, rfl, h1.1, h1.2, fun hl => ?_⟩
 obtain ⟨b, off, e, cs, h3, h4⟩ := h2 hl
 obtain rfl := ziV_ats' h3
 exact ⟨b, off, e, fun i hi => h4 i _ (by rw [List.getElem?_map, List.getElem?_eq_getElem hi, List.getD_eq_getElem?_getD, List.getElem?_eq_getElem hi]; rfl)⟩
theorem row_slice {k : IntKind} {w : World} {v : Value} {zs : List Int} (h : Row k w v zs) : ∃ a n c, v = .slice a n c := by
 obtain ⟨a, c, h, _⟩ := h
 exact ⟨a, _, c, h⟩
def rawG (b : Bool) (zs : List Int) : Gen where
 is := fun w v => ∃ s, v = .agg #[.bool b, s] ∧ Row .i64 w s zs
 shape := some 2
 plain := true
 ok := fun w v ⟨s, h, hs⟩ => by
  obtain ⟨a, n, c, rfl⟩ := row_slice hs
  subst h
  exact ⟨[_, _], rfl, rfl, by simp [Value.oneCell']⟩
 pl := fun _ w v ⟨s, h, hs⟩ => by
  obtain ⟨a, n, c, rfl⟩ := row_slice hs
  subst h
  simp [Value.cells, notInt]
def rawRG (p : Int) (k : Nat) (b : Bool) (zs : List Int) : Gen where
 is := fun w v => ∃ s t, v = .agg #[.bool (decide (p < 0)), s, .bool b, t] ∧ Nums w s (dig p.natAbs) ∧ Row .i64 w t zs ∧ len p ≤ k
 shape := some 4
 plain := true
 ok := fun w v ⟨s, t, h, hs, ht, _⟩ => by
  obtain ⟨a, n, c, rfl⟩ := nums_slice hs
  obtain ⟨a', n', c', rfl⟩ := row_slice ht
  subst h
  exact ⟨[_, _, _, _], rfl, rfl, by simp [Value.oneCell']⟩
 pl := fun _ w v ⟨s, t, h, hs, ht, _⟩ => by
  obtain ⟨a, n, c, rfl⟩ := nums_slice hs
  obtain ⟨a', n', c', rfl⟩ := row_slice ht
  subst h
  simp [Value.cells, notInt]
theorem rawR_cells {p : Int} {k : Nat} {b : Bool} {zs : List Int} {w : World} {cs : List Value} (h : Dm.at (.gen (rawRG p k b zs)) w (.agg cs.toArray)) :
  ∃ a n c a' n' c', cs = [.bool (decide (p < 0)), .slice a n c, .bool b, .slice a' n' c'] ∧ Nums w (.slice a n c) (dig p.natAbs) ∧ Row .i64 w (.slice a' n' c') zs ∧ len p ≤ k := by
 obtain ⟨s, t, h1, h2, h3, h4⟩ := h
 obtain ⟨a, n, c, rfl⟩ := nums_slice h2
 obtain ⟨a', n', c', rfl⟩ := row_slice h3
 injection h1 with h1
 exact ⟨a, n, c, a', n', c', by simpa using congrArg Array.toList h1, h2, h3, h4⟩
theorem fld_rnum {p : Int} {k : Nat} {b : Bool} {zs : List Int} : Fld (Dm.gen (rawRG p k b zs)) 0 (some 2) (.d (Dm.int p k)) := by
 intro w cs h
 obtain ⟨a, n, c, a', n', c', rfl, hs, ht, l1⟩ := rawR_cells h
 exact ⟨[], [_, _], [_, _], _, rfl, rfl, ⟨rfl, rfl, by simp [Value.oneCell']⟩, ⟨_, rfl, hs⟩, l1⟩
theorem fld_rden {p : Int} {k : Nat} {b : Bool} {zs : List Int} : Fld (Dm.gen (rawRG p k b zs)) 2 (some 2) (.d (Dm.gen (rawG b zs))) := by
 intro w cs h
 obtain ⟨a, n, c, a', n', c', rfl, hs, ht, l1⟩ := rawR_cells h
 exact ⟨[_, _], [_, _], [], _, rfl, rfl, ⟨rfl, rfl, by simp [Value.oneCell']⟩, ⟨_, rfl, ht⟩⟩
theorem VRaw_con (b : Bool) (zs : List Int) (r : Bool) (hr : validI b zs = r) : Con Tryz.prog 90 [.d (Dm.gen (rawG b zs))] (.one (.v (.bool r))) := by
 subst hr
 rintro L ρ w vs hlt hn hwf hall
 match vs, hall with
 | [v], ⟨h, _⟩ =>
  obtain ⟨s, rfl, hs⟩ := h w (Agree.refl _ _)
  refine (Valid_raw b s zs w hs).mono ?_
  rintro e w' ⟨rfl, h4⟩
  exact ⟨_, rfl, h4, rfl⟩
theorem rVRaw_con (b : Bool) (zs : List Int) (r : Bool) (hr : validI b zs = r) : Con Tryz.prog 95 [.d (Dm.gen (rawG b zs))] (.one (.v (.bool r))) := by
 subst hr
 rintro L ρ w vs hlt hn hwf hall
 match vs, hall with
 | [v], ⟨h, _⟩ =>
  obtain ⟨s, rfl, hs⟩ := h w (Agree.refl _ _)
  refine (refValid_raw b s zs w hs).mono ?_
  rintro e w' ⟨rfl, h4⟩
  exact ⟨_, rfl, h4, rfl⟩
theorem row_of_nums {w : World} {v : Value} {ds : List Nat} (h : Nums w v ds) : Row .i64 w v (ds.map Int.ofNat) := by
 obtain ⟨a, c, rfl, h2, h3, h4⟩ := h
 refine ⟨a, c, by rw [List.length_map], by rw [List.length_map]; exact h2, h3, fun hl => ?_⟩
 rw [List.length_map] at hl
 obtain ⟨b, off, h5, h6⟩ := h4 hl
 refine ⟨b, off, h5, fun i hi => ?_⟩
 rw [List.length_map] at hi
 rw [h6 i hi]
 simp [List.getD_eq_getElem?_getD, hi]
theorem valid_int {b : Bool} {zs : List Int} (h : validI b zs = true) : ∃ z : Int, decide (z < 0) = b ∧ (dig z.natAbs).map Int.ofNat = zs := by
 unfold validI at h
 rw [Bool.and_eq_true, List.all_eq_true] at h
 obtain ⟨h1, h2⟩ := h
 have h1' : ∀ z ∈ zs, 0 ≤ z ∧ z < 1000000000 := fun z hz => by simpa using h1 z hz
 obtain ⟨ds, rfl, hd⟩ : ∃ ds : List Nat, ds.map Int.ofNat = zs ∧ Dig ds := by
  refine ⟨zs.map Int.toNat, ?_, fun d hd => ?_⟩
  ·rw [List.map_map]
   conv => rhs; rw [← List.map_id zs]
   exact List.map_congr_left fun z hz => by
    have := h1' z hz
    show ((z.toNat : Nat) : Int) = z
    omega
  ·obtain ⟨z, hz, rfl⟩ := List.mem_map.1 hd
   have := h1' z hz
   omega
 rw [List.length_map] at h2
 have hv : dig (val ds) = ds := by
  rw [dig_val hd]
  rcases List.eq_nil_or_concat ds with e | ⟨i, l, e⟩
  ·rw [e]; rfl
  ·rw [List.concat_eq_append] at e
   rw [e]
   refine trimN_snoc ?_ i
   rintro rfl
   rw [e] at h2
   simp at h2
 refine ⟨mk b (val ds), ?_, ?_⟩
 ·unfold mk
  cases b with
  | false => simp
  | true =>
   have : val ds ≠ 0 := by
    intro e
    rw [e, dig_zero] at hv
    rw [← hv] at h2
    simp at h2
   simp
   omega
 ·rw [show (mk b (val ds)).natAbs = val ds by unfold mk; cases b <;> simp, hv]
theorem nums_of_row {w : World} {v : Value} {ds : List Nat} (h : Row .i64 w v (ds.map Int.ofNat)) : Nums w v ds := by
 obtain ⟨a, c, rfl, h2, h3, h4⟩ := h
 rw [List.length_map] at h2 h4 ⊢
 refine ⟨a, c, rfl, h2, h3, fun hl => ?_⟩
 obtain ⟨b, off, h5, h6⟩ := h4 hl
 refine ⟨b, off, h5, fun i hi => ?_⟩
 rw [h6 i hi]
 simp [List.getD_eq_getElem?_getD, hi]
theorem raw_rt {p q : Int} {k : Nat} (h : len q ≤ k) : ∀ L ρ w v, (SA.d (Dm.gen (rawRG p k (decide (q < 0)) ((dig q.natAbs).map Int.ofNat)))).is L ρ w v → (SA.d (Dm.rt p q k)).is L ρ w v := by
 intro L ρ w v hv w' hw
 obtain ⟨s, t, h1, h2, h3, h4⟩ := hv w' hw
 exact ⟨s, t, h1, h2, nums_of_row h3, h4, h⟩

section
variable {cx : Cx Dm} {n : Nat} {σ : St Dm} {o : Oper} {d t : Nat} {x y j : Operand}
theorem built_int (parts : List (Nat × Value)) : Tryz.prog.built 25 parts = Instr.fill ((#[(0, 1), (1, 1)] : Array (Nat × Nat))[·]?) #[.bool false, .slice none 0 0] parts := by kernel_rfl
theorem ok_braw {b : Bool} {zs : List Int} (ho : o.op = .build 25 #[(0, x), (1, y)]) (hd : o.dst = some d) (hn : d < n) (hx : opd σ x = .av (.one (.v (.bool b)))) (hy : opd σ y = .av (.one (ZI .i64 zs))) : OpOk Tryz.prog cx n σ o (opk x ++ opk y) [(.s d, .av (.one (.d (.gen (rawG b zs)))))] := by
 refine ok_read hd hn rfl fun σ' ρ a w h hk => ?_
 have e1 : a.eval x = .bool b := h.opd ((opd_same fun q hq => hk q (by simp [hq])).trans hx)
 have hr := h.opd ((opd_same fun q hq => hk q (by simp [hq])).trans hy)
 obtain ⟨s, m, c, e2⟩ := row_slice (row_of_at (hr w (Agree.refl _ _)))
 refine ⟨.agg #[.bool b, a.eval y], ?_, ?_⟩
 ·have hb : Tryz.prog.built 25 #[(0, a.eval x), (1, a.eval y)].toList = some #[.bool b, a.eval y] := by
   rw [e1, e2, built_int]
   kernel_rfl
  have hb2 := run_build w 25 #[(0, a.eval x), (1, a.eval y)] _ hb
  simp only [execOp, ho, Sem.run_bind]
  rw [show (#[(0, x), (1, y)] : Array (Nat × Operand)).map (fun p => (p.1, a.eval p.2)) = #[(0, a.eval x), (1, a.eval y)] by simp, hb2]
  rfl
 ·intro w' hw
  exact ⟨_, rfl, row_of_at (hr w' hw)⟩
theorem dat_raw {L : Nat → Prop} {ρ : Rho} {w : World} {b : Bool} {zs : List Int} {v : Value} (h : (SA.d (Dm.gen (rawG b zs))).is L ρ w v) : ∃ a m c, v = .agg #[.bool b, .slice a m c] ∧ ∀ w', Agree L w w' → Row .i64 w' (.slice a m c) zs := by
 obtain ⟨s, rfl, hs⟩ := h w (Agree.refl _ _)
 obtain ⟨a, m, c, rfl⟩ := row_slice hs
 refine ⟨a, m, c, rfl, fun w' hw => ?_⟩
 obtain ⟨s', e, hs'⟩ := h w' hw
 injection e with e
 have e2 : [Value.bool b, .slice a m c] = [.bool b, s'] := by simpa using congrArg Array.toList e
 injection e2 with _ e3
 injection e3 with e4
 subst e4
 exact hs'
theorem ok_brawR {p : Int} {k : Nat} {b : Bool} {zs : List Int} (ho : o.op = .build 45 #[(0, x), (1, y)]) (hd : o.dst = some d) (hn : d < n) (hx : opd σ x = .av (.one (.d (.int p k)))) (hy : opd σ y = .av (.one (.d (.gen (rawG b zs))))) : OpOk Tryz.prog cx n σ o (opk x ++ opk y) [(.s d, .av (.one (.d (.gen (rawRG p k b zs)))))] := by
 refine ok_read hd hn rfl fun σ' ρ a w h hk => ?_
 obtain ⟨s, m, c, hv, hs⟩ := dat_int (ρ := ρ) (h.opd ((opd_same fun q hq => hk q (by simp [hq])).trans hx))
 obtain ⟨s', m', c', hv', hs'⟩ := dat_raw (ρ := ρ) (h.opd ((opd_same fun q hq => hk q (by simp [hq])).trans hy))
 refine ⟨.agg #[.bool (decide (p < 0)), .slice s m c, .bool b, .slice s' m' c'], ?_, ?_⟩
 ·have hb : Tryz.prog.built 45 #[(0, a.eval x), (1, a.eval y)].toList = some #[.bool (decide (p < 0)), .slice s m c, .bool b, .slice s' m' c'] := by
   rw [hv, hv', built_rat]
   kernel_rfl
  have hb2 := run_build w 45 #[(0, a.eval x), (1, a.eval y)] _ hb
  simp only [execOp, ho, Sem.run_bind]
  rw [show (#[(0, x), (1, y)] : Array (Nat × Operand)).map (fun p => (p.1, a.eval p.2)) = #[(0, a.eval x), (1, a.eval y)] by simp, hb2]
  rfl
 ·intro w' hw
  exact ⟨_, _, rfl, (hs w' hw).1, hs' w' hw, (hs w' hw).2⟩
theorem ok_build01 {q : Int} {k : Nat} (ho : o.op = .build 45 #[(1, x)]) (hd : o.dst = some d) (hn : d < n) (hx : opd σ x = .av (.one (.d (.int q k)))) : OpOk Tryz.prog cx n σ o (opk x) [(.s d, .av (.one (.d (.rt 0 q k))))] := by
 refine ok_read hd hn rfl fun σ' ρ a w h hk => ?_
 obtain ⟨s, m, c, hv, hs⟩ := dat_int (ρ := ρ) (h.opd ((opd_same hk).trans hx))
 refine ⟨.agg #[.bool false, .slice none 0 0, .bool (decide (q < 0)), .slice s m c], ?_, ?_⟩
 ·have hb : Tryz.prog.built 45 #[(1, a.eval x)].toList = some #[.bool false, .slice none 0 0, .bool (decide (q < 0)), .slice s m c] := by
   rw [hv, built_rat]
   kernel_rfl
  have hb2 := run_build w 45 #[(1, a.eval x)] _ hb
  simp only [execOp, ho, Sem.run_bind]
  rw [show (#[(1, x)] : Array (Nat × Operand)).map (fun p => (p.1, a.eval p.2)) = #[(1, a.eval x)] by simp, hb2]
  rfl
 ·intro w' hw
  have h0 : (dig (0 : Int).natAbs).length ≤ k := by rw [show (0 : Int).natAbs = 0 from rfl, dig_zero]; exact Nat.zero_le _
  exact ⟨_, _, rfl, Nums.nil (by decide), (hs w' hw).1, h0, (hs w' hw).2⟩
end

/-! Valid. -/
theorem valid_dig (z : Int) : validI (decide (z < 0)) ((dig z.natAbs).map Int.ofNat) = true := by
 unfold validI
 rw [Bool.and_eq_true, List.all_eq_true]
 constructor
 ·intro x hx
  obtain ⟨d, hd, rfl⟩ := List.mem_map.1 hx
  have := dig_Dig z.natAbs d hd
  simp
  omega
 ·rw [List.length_map]
  split
  ·rename_i h
   have := dig_eq_nil.1 (List.eq_nil_of_length_eq_zero h)
   simp
   omega
  ·rename_i h
   have h0 : 0 < z.natAbs := Nat.pos_of_ne_zero fun e => h (by rw [e, dig_zero]; rfl)
   have := dig_last h0
   simp only [List.getD_eq_getElem?_getD, List.getElem?_map, bne_iff_ne] at this ⊢
   rw [List.getElem?_eq_getElem (by omega)] at this ⊢
   simp at this ⊢
   exact this
theorem rIValid_con (z : Int) {k : Nat} : Con Tryz.prog 95 [.d (Dm.int z k)] (.one (.v (.bool true))) := by
 rintro L ρ w vs hlt hn hwf hall
 match vs, hall with
 | [v], ⟨h, _⟩ =>
  obtain ⟨⟨s, rfl, hs⟩, _⟩ := h w (Agree.refl _ _)
  refine (refValid_raw _ s _ w (row_of_nums hs)).mono ?_
  rintro e w' ⟨rfl, h4⟩
  refine ⟨_, rfl, h4, ?_⟩
  show Value.bool _ = Value.bool _
  rw [valid_dig]
theorem RVbad_con (p : Int) (k : Nat) (b : Bool) (zs : List Int) (h : validI b zs = false) : Con Tryz.prog 30 [.d (Dm.gen (rawRG p k b zs))] (.one (.v (.bool false))) := by
 refine Con.of (n := 35) Tryz.func30 rfl rfl rfl rfl rfl fun cx hfr => ?_
 refine sr rfl ?_
 refine p2 (ok_box (i := 0) rfl rfl bd rfl rfl rfl rfl rfl) ?_
 refine mr rfl rfl bd rfl ?_
 refine RV.done ?_
 refine CV.seq ?_
 refine sr rfl ?_
 refine p1 (ok_fieldAddr fa_rat0 rfl rfl bd rfl) ?_
 refine p1 (ok_loadf 0 fld_rnum rfl rfl bd rfl rfl rfl rfl ty_int) ?_
 refine p1 (ok_call (IValid_con _) rfl rfl bd Tryz.func90 rfl rfl (.cons rfl Conv.any .nil) rfl hfr rfl) ?_
 refine p1 (ok_not rfl rfl bd rfl) ?_
 refine ml rfl rfl bd rfl ?_
 refine RV.step1 (OpOk.yes (ok_fieldAddr fa_rat1 rfl rfl bd rfl) rfl rfl rfl) ?_
 refine RV.step1 (OpOk.yes (ok_loadf 2 fld_rden rfl rfl bd rfl rfl rfl rfl ty_int) rfl rfl rfl) ?_
 refine RV.step1 (OpOk.yes (ok_call (VRaw_con b zs false h) rfl rfl bd Tryz.func90 rfl rfl (.cons rfl Conv.any .nil) rfl hfr rfl) rfl rfl rfl) ?_
 refine RV.step1 (OpOk.yes (ok_not rfl rfl bd rfl) rfl rfl rfl) ?_
 refine p1 (ok_pickF rfl rfl bd rfl rfl rfl) ?_
 refine RV.done ?_
 refine CV.yes rfl ?_
 refine sr rfl ?_
 refine mr rfl rfl bd rfl ?_
 refine RV.done ?_
 refine CV.ret ?_
 exact fin1 rfl (.inr rfl) rfl is_rfl
theorem rfVbad_con (p : Int) (k : Nat) (b : Bool) (zs : List Int) (h : validI b zs = false) : Con Tryz.prog 31 [.d (Dm.gen (rawRG p k b zs))] (.one (.v (.bool false))) := by
 refine Con.of (n := 34) Tryz.func31 rfl rfl rfl rfl rfl fun cx hfr => ?_
 refine sr rfl ?_
 refine p2 (ok_box (i := 0) rfl rfl bd rfl rfl rfl rfl rfl) ?_
 refine mr rfl rfl bd rfl ?_
 refine RV.done ?_
 refine CV.seq ?_
 refine sr rfl ?_
 refine p1 (ok_fieldAddr fa_rat0 rfl rfl bd rfl) ?_
 refine p1 (ok_loadf 0 fld_rnum rfl rfl bd rfl rfl rfl rfl ty_int) ?_
 refine p1 (ok_call (rIValid_con _) rfl rfl bd Tryz.func95 rfl rfl (.cons rfl Conv.any .nil) rfl hfr rfl) ?_
 refine p1 (ok_not rfl rfl bd rfl) ?_
 refine ml rfl rfl bd rfl ?_
 refine RV.step1 (OpOk.yes (ok_fieldAddr fa_rat1 rfl rfl bd rfl) rfl rfl rfl) ?_
 refine RV.step1 (OpOk.yes (ok_loadf 2 fld_rden rfl rfl bd rfl rfl rfl rfl ty_int) rfl rfl rfl) ?_
 refine RV.step1 (OpOk.yes (ok_call (rVRaw_con b zs false h) rfl rfl bd Tryz.func95 rfl rfl (.cons rfl Conv.any .nil) rfl hfr rfl) rfl rfl rfl) ?_
 refine RV.step1 (OpOk.yes (ok_not rfl rfl bd rfl) rfl rfl rfl) ?_
 refine p1 (ok_pickF rfl rfl bd rfl rfl rfl) ?_
 refine ml rfl rfl bd rfl ?_
 refine RV.step1 (OpOk.skip rfl rfl rfl rfl rfl bd) ?_
 refine RV.step1 (OpOk.skip rfl rfl rfl rfl rfl bd) ?_
 refine RV.step1 (OpOk.skip rfl rfl rfl rfl rfl bd) ?_
 refine p1 (ok_pickT rfl rfl bd rfl rfl rfl) ?_
 refine ml rfl rfl bd rfl ?_
 refine RV.step1 (OpOk.skip rfl rfl rfl rfl rfl bd) ?_
 refine RV.step1 (OpOk.skip rfl rfl rfl rfl rfl bd) ?_
 refine RV.step1 (OpOk.skip rfl rfl rfl rfl rfl bd) ?_
 refine p1 (ok_pickT rfl rfl bd rfl rfl rfl) ?_
 refine RV.done ?_
 refine CV.yes rfl ?_
 refine sr rfl ?_
 refine mr rfl rfl bd rfl ?_
 refine RV.done ?_
 refine CV.ret ?_
 exact fin1 rfl (.inr rfl) rfl is_rfl
theorem rfValidG_con (p q : Int) (k : Nat) (hk : k ≤ 10000000) : Con Tryz.prog 31 [.d (Dm.rt p q k)] (.one (.v (.bool (decide (q = 0 ∨ (0 ≤ q ∧ q ≠ 1 ∧ Int.gcd p q = 1)))))) := by
 refine Con.of (n := 34) Tryz.func31 rfl rfl rfl rfl rfl fun cx hfr => ?_
 refine sr rfl ?_
 refine p2 (ok_box (i := 0) rfl rfl bd rfl rfl rfl rfl rfl) ?_
 refine mr rfl rfl bd rfl ?_
 refine RV.done ?_
 refine CV.seq ?_
 refine sr rfl ?_
 refine p1 (ok_fieldAddr fa_rat0 rfl rfl bd rfl) ?_
 refine p1 (ok_loadf 0 fld_num rfl rfl bd rfl rfl rfl rfl ty_int) ?_
 refine p1 (ok_call (rIValid_con _) rfl rfl bd Tryz.func95 rfl rfl (.cons rfl Conv.any .nil) rfl hfr rfl) ?_
 refine p1 (ok_not rfl rfl bd rfl) ?_
 refine ml rfl rfl bd rfl ?_
 refine RV.step1 (OpOk.yes (ok_fieldAddr fa_rat1 rfl rfl bd rfl) rfl rfl rfl) ?_
 refine RV.step1 (OpOk.yes (ok_loadf 2 fld_den rfl rfl bd rfl rfl rfl rfl ty_int) rfl rfl rfl) ?_
 refine RV.step1 (OpOk.yes (ok_call (rIValid_con _) rfl rfl bd Tryz.func95 rfl rfl (.cons rfl Conv.any .nil) rfl hfr rfl) rfl rfl rfl) ?_
 refine RV.step1 (OpOk.yes (ok_not rfl rfl bd rfl) rfl rfl rfl) ?_
 refine p1 (ok_pickF rfl rfl bd rfl rfl rfl) ?_
 refine ml rfl rfl bd rfl ?_
 refine RV.step1 (OpOk.yes (ok_fieldAddr fa_rat1 rfl rfl bd rfl) rfl rfl rfl) ?_
 refine RV.step1 (OpOk.yes (ok_fieldAddr fa_int0 rfl rfl bd rfl) rfl rfl rfl) ?_
 refine RV.step1 (OpOk.yes (ok_loadf 2 fld_nden rfl rfl bd rfl rfl rfl rfl ty_bool) rfl rfl rfl) ?_
 refine p1 (ok_pickF rfl rfl bd rfl rfl rfl) ?_
 refine ml rfl rfl bd rfl ?_
 refine RV.bool (fun h1 => ?_) (fun h1 => ?_)
 ·refine RV.step1 (OpOk.skip rfl rfl rfl rfl rfl bd) ?_
  refine RV.step1 (OpOk.skip rfl rfl rfl rfl rfl bd) ?_
  refine RV.step1 (OpOk.skip rfl rfl rfl rfl rfl bd) ?_
  refine p1 (ok_pickT rfl rfl bd rfl rfl rfl) ?_
  refine RV.done ?_
  refine CV.yes rfl ?_
  refine sr rfl ?_
  refine mr rfl rfl bd rfl ?_
  refine RV.done ?_
  refine CV.ret ?_
  have h1' : q < 0 := (by simpa using h1)
  exact fin1 rfl (.inr rfl) rfl (is_bool (by symm; rw [decide_eq_false_iff_not]; omega))
 ·refine RV.step1 (OpOk.yes (ok_fieldAddr fa_rat1 rfl rfl bd rfl) rfl rfl rfl) ?_
  refine RV.step1 (OpOk.yes (ok_loadf 2 fld_den rfl rfl bd rfl rfl rfl rfl ty_int) rfl rfl rfl) ?_
  refine RV.step1 (OpOk.yes (ok_call (rone_con _ _) rfl rfl bd Tryz.func104 rfl rfl (.cons rfl Conv.any .nil) rfl hfr rfl) rfl rfl rfl) ?_
  refine p1 (ok_pickF rfl rfl bd rfl rfl rfl) ?_
  refine RV.done ?_
  refine CV.cond rfl (fun h2 => ?_) (fun h2 => ?_)
  ·refine sr rfl ?_
   refine mr rfl rfl bd rfl ?_
   refine RV.done ?_
   refine CV.ret ?_
   have h2' : q = 1 := (by simpa using h2)
   exact fin1 rfl (.inr rfl) rfl (is_bool (by symm; rw [decide_eq_false_iff_not]; omega))
  ·refine CV.skip ?_
   refine CV.seq ?_
   refine sr rfl ?_
   refine p1 (ok_fieldAddr fa_rat1 rfl rfl bd rfl) ?_
   refine p1 (ok_fieldAddr fa_int1 rfl rfl bd rfl) ?_
   refine p1 (ok_loadf 3 fld_dden rfl rfl bd rfl rfl rfl rfl ty_ints) ?_
   refine p1 (ok_len rfl rfl bd rfl) ?_
   refine p1 (ok_eql rfl rfl bd rfl rfl) ?_
   refine RV.done ?_
   refine CV.cond rfl (fun h3 => ?_) (fun h3 => ?_)
   ·refine sr rfl ?_
    refine mr rfl rfl bd rfl ?_
    refine RV.done ?_
    refine CV.ret ?_
    have h3' : q = 0 := (by rw [dig_len_zero] at h3; simpa using h3)
    exact fin1 rfl (.inr rfl) rfl (is_bool (by symm; rw [decide_eq_true_eq]; exact .inl h3'))
   ·refine CV.skip ?_
    refine sr rfl ?_
    refine p1 (ok_fieldAddr fa_rat0 rfl rfl bd rfl) ?_
    refine p1 (ok_loadf 0 fld_num rfl rfl bd rfl rfl rfl rfl ty_int) ?_
    refine p1 (ok_fieldAddr fa_rat1 rfl rfl bd rfl) ?_
    refine p1 (ok_loadf 2 fld_den rfl rfl bd rfl rfl rfl rfl ty_int) ?_
    refine p1 (ok_call (rGcd_con _ _ (by omega) (by omega)) rfl rfl bd Tryz.func101 rfl rfl (.cons rfl Conv.any (.cons rfl Conv.any .nil)) rfl hfr rfl) ?_
    refine p1 (ok_call (rone_con _ _) rfl rfl bd Tryz.func104 rfl rfl (.cons rfl Conv.any .nil) rfl hfr rfl) ?_
    refine mr rfl rfl bd rfl ?_
    refine RV.done ?_
    refine CV.ret ?_
    have h1' : ¬ q < 0 := (by simpa using h1)
    have h2' : ¬ q = 1 := (by simpa using h2)
    have h3' : ¬ q = 0 := (by rw [dig_len_zero] at h3; simpa using h3)
    exact fin1 rfl (.inr rfl) rfl (is_bool (by rw [Bool.eq_iff_iff, decide_eq_true_eq, decide_eq_true_eq]; omega))

/-! Take. -/
theorem ints_zi {zs : List Int} : ∀ L ρ w v, (SA.d (Dm.ints zs)).is L ρ w v → (ZI .i64 zs).is L ρ w v := fun _ _ _ _ h w' hw => row_at (h w' hw).2
theorem TakeZ_con (zs : List Int) (k : Nat) (hk : k ≤ 1000000) : Con Tryz.prog 26 [ZI .i64 zs, .v (.int .i64 (k : Int))] (.one (ZI .i64 (zs.take k))) := by
 refine Con.of (n := 14) Tryz.func26 rfl rfl rfl rfl rfl fun cx hfr => ?_
 refine sr rfl ?_
 refine mr rfl rfl bd rfl ?_
 refine RV.done (sr rfl ?_)
 refine mr rfl rfl bd rfl ?_
 refine RV.done ?_
 refine CV.seq ?_
 refine CV.nilrow 5 5 3 none rfl rfl rfl rfl ?_
 refine CV.region rfl (fun h => nomatch h) ?_
 refine ml rfl rfl bd rfl ?_
 refine ml rfl rfl bd rfl ?_
 refine ml rfl rfl bd rfl ?_
 refine p1 (ok_lenL (ziV_length _) u_ints rfl rfl bd rfl) ?_
 refine ml rfl rfl bd rfl ?_
 refine p1 (ok_minI (c := ((min zs.length k : Nat) : Int)) (by split <;> omega) rfl rfl bd rfl rfl) ?_
 refine p1 (ok_cutL (k := none) (l' := ziV .i64 (zs.take k)) none (some (min zs.length k)) none (by show ((ziV .i64 zs).take (min zs.length k)).drop 0 = _; rw [List.drop_zero, ziV_take, show zs.take (min zs.length k) = zs.take k from by rw [Nat.min_comm, ← List.take_take, List.take_of_length_le (Nat.le_refl zs.length)]]) (by decide) (Nat.zero_le _) (by show min zs.length k ≤ (ziV .i64 zs).length; rw [ziV_length]; omega) (Nat.le_refl _) (fun h => nomatch h) u_ints sz_i64 rfl rfl bd rfl trivial rfl trivial) ?_
 refine RV.step4 (OpOk.plain (ok_appendND (r := 5) (r' := 6) (k := none) (G := Dm.gen (lstG none (ziV .i64 (zs.take k)))) [] (cx.bw hfr) (lst_elems (by decide) (ziV_ptrs _)) (lstG_Lst none _) (lstG_Lst0 none _) (by rw [ziV_length, List.length_take]; show (0 + _) * 8 ≤ _; omega) (by rw [ziV_length, List.length_take]; show 0 + _ ≤ _; omega) u_ints inf_i64 rfl rfl rfl rfl rfl bd rfl rfl rfl rfl rfl rfl rfl rfl) rfl) ?_
 refine mr rfl rfl bd rfl ?_
 refine RV.done ?_
 refine CV.ret ?_
 exact fin1 rfl (.inr rfl) rfl is_rfl
theorem TakeI_con (zs : List Int) (k : Nat) (hk : k ≤ 1000000) : Con Tryz.prog 26 [.d (Dm.ints zs), .v (.int .i64 (k : Int))] (.one (ZI .i64 (zs.take k))) :=
 (TakeZ_con zs k hk).mono (fun L ρ w vs h => by
  match vs, h with
  | [v, u], ⟨h1, h2, _⟩ => exact ⟨ints_zi L ρ w v h1, h2, trivial⟩) fun _ _ _ _ h => h

def mkE (x y : Int) (b : Bool) (zs : List Int) : Nat → SA Dm
 | 0 => RT (Rat.divInt x y) 14
 | 1 => .d (Dm.gen (rawRG x 7 b zs))
 | 2 => .d (Dm.rt x y 7)
 | 3 => .d (Dm.rt ((Rat.divInt x y).num * y) ((Rat.divInt x y).den * y) 24)
 | 4 => .d (Dm.rt 0 5 3)
 | _ => .d (Dm.rt x 1 7)
theorem both_rt (p q : Int) (k : Nat) (hk : k ≤ 10000000) : ∃ r : Bool, Con Tryz.prog 30 [.d (Dm.rt p q k)] (.one (.v (.bool r))) ∧ Con Tryz.prog 31 [.d (Dm.rt p q k)] (.one (.v (.bool r))) :=
 ⟨_, RValidG_con p q k hk, rfValidG_con p q k hk⟩
theorem both_valid (x y : Int) (b : Bool) (zs : List Int) (hz : zs.length ≤ 7) (i : Nat) : ∃ r : Bool, Con Tryz.prog 30 [mkE x y b zs i] (.one (.v (.bool r))) ∧ Con Tryz.prog 31 [mkE x y b zs i] (.one (.v (.bool r))) := by
 match i with
 | 0 => exact both_rt _ _ _ (by decide)
 | 1 =>
  by_cases h : validI b zs = true
  ·obtain ⟨q, h1, h2⟩ := valid_int h
   have hl : len q ≤ 7 := by
    show (dig q.natAbs).length ≤ 7
    rw [← h2, List.length_map] at hz
    exact hz
   obtain ⟨r, g1, g2⟩ := both_rt x q 7 (by decide)
   have e : (mkE x y b zs 1) = .d (Dm.gen (rawRG x 7 (decide (q < 0)) ((dig q.natAbs).map Int.ofNat))) := by rw [h1, h2]; rfl
   rw [e]
   refine ⟨r, g1.mono ?_ fun _ _ _ _ h => h, g2.mono ?_ fun _ _ _ _ h => h⟩
   ·intro L ρ w vs hv
    match vs, hv with
    | [v], ⟨k1, _⟩ => exact ⟨raw_rt hl L ρ w v k1, trivial⟩
   ·intro L ρ w vs hv
    match vs, hv with
    | [v], ⟨k1, _⟩ => exact ⟨raw_rt hl L ρ w v k1, trivial⟩
  ·have h' : validI b zs = false := by simpa using h
   exact ⟨false, RVbad_con _ _ _ _ h', rfVbad_con _ _ _ _ h'⟩
 | 2 => exact both_rt _ _ _ (by decide)
 | 3 => exact both_rt _ _ _ (by decide)
 | 4 => exact both_rt _ _ _ (by decide)
 | n + 5 => exact both_rt _ _ _ (by decide)
def mkL (x y : Int) (b : Bool) (zs : List Int) : List (SA Dm) := [mkE x y b zs 0, mkE x y b zs 1, mkE x y b zs 2, mkE x y b zs 3, mkE x y b zs 4, mkE x y b zs 5]
theorem mkL_at {x y : Int} {b : Bool} {zs : List Int} {i : Nat} (h : i < 6) : (mkL x y b zs)[i]? = some (mkE x y b zs i) := by
 rcases (show i = 0 ∨ i = 1 ∨ i = 2 ∨ i = 3 ∨ i = 4 ∨ i = 5 by omega) with rfl | rfl | rfl | rfl | rfl | rfl <;> rfl
theorem mkE_ptrs {x y : Int} {b : Bool} {zs : List Int} {i : Nat} : (mkE x y b zs i).ptrs = [] := by
 unfold mkE
 split <;> rfl
theorem mkE_kind {x y : Int} {b : Bool} {zs : List Int} {i : Nat} : (mkE x y b zs i).kind = some (some 4) := by
 unfold mkE
 split <;> rfl

section
variable (p q : Int) (l m z : List Int) (b : Bool) (hp1 : -9223372036854775808 ≤ p) (hp2 : p ≤ 9223372036854775807) (hq1 : -9223372036854775808 ≤ q) (hq2 : q ≤ 9223372036854775807)
include hp1 hp2 hq1 hq2
theorem makes_con : Con Tryz.prog 4 [.v (.int .i64 p), .v (.int .i64 q), .d (Dm.ints l), .d (Dm.ints m), .d (Dm.ints z), .v (.bool b)] (.one (.v (.bool true))) := by
 refine Con.of (n := 93) Tryz.func4 rfl rfl rfl rfl rfl fun cx hfr => ?_
 refine sr rfl ?_
 refine mr rfl rfl bd rfl ?_
 refine RV.done (sr rfl ?_)
 refine ml rfl rfl bd rfl ?_
 refine p1 (ok_call (Number_con _ 0 (by decide)) rfl rfl bd Tryz.func9 rfl rfl (.cons rfl Conv.any (.cons rfl Conv.any .nil)) rfl hfr rfl) ?_
 refine p2 (ok_alloc (i := 0) rfl rfl bd zero_int rfl rfl rfl rfl) ?_
 refine p1 (ok_store rfl rfl rfl rfl rfl rfl rfl (ty_int).2 rfl rfl rfl rfl) ?_
 refine RV.done (sr rfl ?_)
 refine ml rfl rfl bd rfl ?_
 refine p1 (ok_call (Number_con _ 0 (by decide)) rfl rfl bd Tryz.func9 rfl rfl (.cons rfl Conv.any (.cons rfl Conv.any .nil)) rfl hfr rfl) ?_
 refine p2 (ok_alloc (i := 1) rfl rfl bd zero_int rfl rfl rfl rfl) ?_
 refine p1 (ok_store rfl rfl rfl rfl rfl rfl rfl (ty_int).2 rfl rfl rfl rfl) ?_
 refine RV.done (sr rfl ?_)
 refine p1 (ok_load rfl rfl bd rfl rfl rfl ty_int) ?_
 refine p1 (ok_load rfl rfl bd rfl rfl rfl ty_int) ?_
 refine p1 (ok_call (rMake_con _ _ _ _ (by decide) (by decide)) rfl rfl bd Tryz.func25 rfl rfl (.cons rfl Conv.any (.cons rfl Conv.any .nil)) rfl hfr rfl) ?_
 refine p2 (ok_alloc (i := 2) rfl rfl bd zero_rat rfl rfl rfl rfl) ?_
 refine p1 (ok_store rfl rfl rfl rfl rfl rfl rfl (ty_rat).2 rfl rfl rfl rfl) ?_
 refine RV.done ?_
 refine CV.seq ?_
 refine CV.region rfl (fun _ => by kernel_rfl) ?_
 refine p1 (ok_load rfl rfl bd rfl rfl rfl ty_int) ?_
 refine ml rfl rfl bd rfl ?_
 refine ml rfl rfl bd rfl ?_
 refine p1 (ok_call (TakeI_con _ 5 (by decide)) rfl rfl bd Tryz.func26 rfl rfl (.cons rfl Conv.any (.cons rfl Conv.any .nil)) rfl hfr rfl) ?_
 refine p1 (ok_braw rfl rfl bd rfl rfl) ?_
 refine p1 (ok_brawR rfl rfl bd rfl rfl) ?_
 refine p2 (ok_alloc (i := 3) rfl rfl bd zero_rat rfl rfl rfl rfl) ?_
 refine p1 (ok_store rfl rfl rfl rfl rfl rfl rfl (ty_rat).2 rfl rfl rfl rfl) ?_
 refine RV.drawn (by kernel_rfl) ?_
 refine CV.seq ?_
 refine CV.region rfl (fun _ => by kernel_rfl) ?_
 refine p1 (ok_load rfl rfl bd rfl rfl rfl ty_rat) ?_
 refine p1 (ok_load rfl rfl bd rfl rfl rfl ty_rat) ?_
 refine p1 (ok_load rfl rfl bd rfl rfl rfl ty_int) ?_
 refine p1 (ok_load rfl rfl bd rfl rfl rfl ty_int) ?_
 refine p1 (ok_build2 rfl rfl bd rfl rfl) ?_
 refine p1 (ok_fieldAddr fa_rat0 rfl rfl bd rfl) ?_
 refine p1 (ok_loadf 0 fld_num rfl rfl bd rfl rfl rfl rfl ty_int) ?_
 refine p1 (ok_load rfl rfl bd rfl rfl rfl ty_int) ?_
 refine p1 (ok_call (rMul_con _ _ (by decide) (by decide)) rfl rfl bd Tryz.func27 rfl rfl (.cons rfl Conv.any (.cons rfl Conv.any .nil)) rfl hfr rfl) ?_
 refine p1 (ok_load rfl rfl bd rfl rfl rfl ty_rat) ?_
 refine p1 (ok_call (rDen_con' _ _) rfl rfl bd Tryz.func28 rfl rfl (.cons rfl Conv.any .nil) rfl hfr rfl) ?_
 refine p1 (ok_load rfl rfl bd rfl rfl rfl ty_int) ?_
 refine p1 (ok_call (rMul_con _ _ (by decide) (by decide)) rfl rfl bd Tryz.func27 rfl rfl (.cons rfl Conv.any (.cons rfl Conv.any .nil)) rfl hfr rfl) ?_
 refine p1 (ok_build2 rfl rfl bd rfl rfl) ?_
 refine p1 (ok_call (rOf_con _ (by decide) (by decide)) rfl rfl bd Tryz.func29 rfl rfl (.cons rfl Conv.any .nil) rfl hfr rfl) ?_
 refine p1 (ok_build01 rfl rfl bd rfl) ?_
 refine p1 (ok_load rfl rfl bd rfl rfl rfl ty_int) ?_
 refine p1 (ok_call (rOf_con _ (by decide) (by decide)) rfl rfl bd Tryz.func29 rfl rfl (.cons rfl Conv.any .nil) rfl hfr rfl) ?_
 refine p1 (ok_build2 rfl rfl bd rfl rfl) ?_
 refine p1 (ok_litD (G := Dm.gen (lstG (some 4) (mkL (numI l 0) (numI m 0) b (z.take 5)))) (ss := mkL (numI l 0) (numI m 0) b (z.take 5)) (xs := [.tmp 32, .tmp 33, .tmp 36, .tmp 45, .tmp 47, .tmp 50]) (lstG_Lst _ _) u_rats zs_rat rfl rfl rfl (by intro s hs; simp only [mkL, List.mem_cons, List.not_mem_nil, or_false] at hs; rcases hs with rfl | rfl | rfl | rfl | rfl | rfl <;> exact mkE_kind) rfl rfl rfl bd (.cons rfl Conv.any (.cons rfl Conv.any (.cons rfl Conv.any (.cons rfl Conv.any (.cons rfl Conv.any (.cons rfl Conv.any .nil))))))) ?_
 refine mr rfl rfl bd rfl ?_
 refine RV.drawn (by kernel_rfl) ?_
 refine CV.seq ?_
 refine sr rfl ?_
 refine mr rfl rfl bd rfl ?_
 refine RV.done ?_
 refine CV.block ?_
 refine CV.loop (X := {k : Nat // k ≤ 6}) (fun k => [(.s 18, .av (.one (.v (.int .i64 (k.1 : Int))))), (.s 17, .av (.one (.d (Dm.gen (lstG (some 4) (mkL (numI l 0) (numI m 0) b (z.take 5))))))), (.s 13, .av (.one (.ptr 1 0))), (.s 14, .av (.one (.ptr 2 0))), (.s 15, .av (.one (.ptr 3 0))), (.b 1, .blk 25 [(some 2, .d (Dm.int (numI l 0) 7))]), (.b 2, .blk 25 [(some 2, .d (Dm.int (numI m 0) 7))]), (.b 3, .blk 45 [(some 4, RT (Rat.divInt (numI l 0) (numI m 0)) 14)]), (.s 0, .av (.one (.v (.int .i64 p)))), (.s 1, .av (.one (.v (.int .i64 q))))]) (fun k => 6 - k.1) ⟨0, Nat.zero_le _⟩ (Sub.mkr (fun i => i - 1) ⟨XV.le_same, XV.le_same, fun _ _ _ _ h => h, fun _ _ _ _ h => h, fun _ _ _ _ h => h, ⟨rfl, fun _ _ _ _ h => h⟩, ⟨rfl, fun _ _ _ _ h => h⟩, ⟨rfl, fun _ _ _ _ h => h⟩, XV.le_same, XV.le_same, trivial⟩ rfl rfl rfl rfl) (fun k => ?_)
 obtain ⟨k, hk⟩ := k
 simp only
 obtain ⟨r, hr1, hr2⟩ := both_valid (numI l 0) (numI m 0) b (z.take 5) (by rw [List.length_take]; omega) k
 refine CV.seq ?_
 refine sr rfl ?_
 refine ml rfl rfl bd rfl ?_
 refine ml rfl rfl bd rfl ?_
 refine p1 (ok_lenL (m := 6) rfl u_rats rfl rfl bd rfl) ?_
 refine p1 (ok_lss rfl rfl bd rfl rfl) ?_
 refine RV.done ?_
 refine CV.cond rfl (fun hc => ?_) (fun hc => ?_)
 ·refine CV.skip ?_
  refine CV.seq ?_
  refine CV.block ?_
  refine CV.seq ?_
  refine CV.region rfl (fun _ => by kernel_rfl) ?_
  refine ml rfl rfl bd rfl ?_
  refine ml rfl rfl bd rfl ?_
  refine p1 (ok_idxL (k := some 4) (i := k) (mkL_at (by have : (k : Int) < 6 := (by simpa using hc); omega)) u_rats sz_rat (by decide) rfl rfl bd rfl rfl) ?_
  refine p1 (ok_loadP ty_rat (by decide) rfl rfl bd rfl) ?_
  refine p1 (ok_call hr1 rfl rfl bd Tryz.func30 rfl rfl (.cons rfl (Conv.any mkE_ptrs) .nil) rfl hfr rfl) ?_
  refine ml rfl rfl bd rfl ?_
  refine ml rfl rfl bd rfl ?_
  refine p1 (ok_idxL (k := some 4) (i := k) (mkL_at (by have : (k : Int) < 6 := (by simpa using hc); omega)) u_rats sz_rat (by decide) rfl rfl bd rfl rfl) ?_
  refine p1 (ok_loadP ty_rat (by decide) rfl rfl bd rfl) ?_
  refine p1 (ok_call hr2 rfl rfl bd Tryz.func31 rfl rfl (.cons rfl (Conv.any mkE_ptrs) .nil) rfl hfr rfl) ?_
  refine p1 (ok_bneF rfl rfl rfl bd rfl rfl) ?_
  refine RV.drawn (by kernel_rfl) ?_
  refine CV.no rfl ?_
  refine CV.skip ?_
  refine CV.region rfl (fun h => nomatch h) ?_
  refine ml rfl rfl bd rfl ?_
  refine p1 (ok_add (c := ((k + 1 : Nat) : Int)) (by rw [wrapI (by omega) (by omega)]; omega) rfl rfl bd rfl rfl) ?_
  refine mr rfl rfl bd rfl ?_
  refine RV.done ?_
  have hlt : k < 6 := (by have : (k : Int) < 6 := (by simpa using hc); omega)
  exact ⟨⟨k + 1, hlt⟩, Sub.mk ⟨XV.le_rfl _, XV.le_rfl _, XV.le_rfl _, XV.le_rfl _, XV.le_rfl _, XV.le_rfl _, XV.le_rfl _, XV.le_rfl _, XV.le_rfl _, XV.le_rfl _, trivial⟩ rfl rfl, by show 6 - (k + 1) < 6 - k; omega⟩
 ·refine CV.exit ?_
  refine CV.seq ?_
  refine CV.region rfl (fun _ => by kernel_rfl) ?_
  refine p1 (ok_load rfl rfl bd rfl rfl rfl ty_int) ?_
  refine p1 (ok_load rfl rfl bd rfl rfl rfl ty_int) ?_
  refine p1 (ok_call (RMake_con _ _ _ _ (by decide) (by decide)) rfl rfl bd Tryz.func33 rfl rfl (.cons rfl Conv.any (.cons rfl Conv.any .nil)) rfl hfr rfl) ?_
  refine p1 (ok_load rfl rfl bd rfl rfl rfl ty_rat) ?_
  refine p1 (ok_call (same5T_con rfl) rfl rfl bd Tryz.func32 rfl rfl (.cons rfl Conv.any (.cons rfl Conv.any .nil)) rfl hfr rfl) ?_
  refine ml rfl rfl bd rfl ?_
  refine RV.step1 (OpOk.yes (ok_move (.inl rfl) rfl bd rfl) rfl rfl rfl) ?_
  refine RV.step1 (OpOk.yes (ok_move (.inl rfl) rfl bd rfl) rfl rfl rfl) ?_
  refine RV.step1 (OpOk.yes (ok_call (ROf_con _ _ hp1 hp2 hq1 hq2) rfl rfl bd Tryz.func34 rfl rfl (.cons rfl Conv.any (.cons rfl Conv.any .nil)) rfl hfr rfl) rfl rfl rfl) ?_
  refine RV.step1 (OpOk.yes (ok_move (.inl rfl) rfl bd rfl) rfl rfl rfl) ?_
  refine RV.step1 (OpOk.yes (ok_move (.inl rfl) rfl bd rfl) rfl rfl rfl) ?_
  refine RV.step1 (OpOk.yes (ok_call (rfOf_con _ _ hp1 hp2 hq1 hq2) rfl rfl bd Tryz.func35 rfl rfl (.cons rfl Conv.any (.cons rfl Conv.any .nil)) rfl hfr rfl) rfl rfl rfl) ?_
  refine RV.step1 (OpOk.yes (ok_call (same5T_con rfl) rfl rfl bd Tryz.func32 rfl rfl (.cons rfl Conv.any (.cons rfl Conv.any .nil)) rfl hfr rfl) rfl rfl rfl) ?_
  refine p1 (ok_pickT rfl rfl bd rfl rfl rfl) ?_
  refine ml rfl rfl bd rfl ?_
  refine RV.step1 (OpOk.yes (ok_load rfl rfl bd rfl rfl rfl ty_rat) rfl rfl rfl) ?_
  refine RV.step1 (OpOk.yes (ok_call (Den_con' _ _) rfl rfl bd Tryz.func37 rfl rfl (.cons rfl Conv.any .nil) rfl hfr rfl) rfl rfl rfl) ?_
  refine RV.step1 (OpOk.yes (ok_load rfl rfl bd rfl rfl rfl ty_rat) rfl rfl rfl) ?_
  refine RV.step1 (OpOk.yes (ok_call (rDen_con' _ _) rfl rfl bd Tryz.func28 rfl rfl (.cons rfl Conv.any .nil) rfl hfr rfl) rfl rfl rfl) ?_
  refine RV.step1 (OpOk.yes (ok_call (rSameT_con rfl) rfl rfl bd Tryz.func36 rfl rfl (.cons rfl Conv.any (.cons rfl Conv.any .nil)) rfl hfr rfl) rfl rfl rfl) ?_
  refine p1 (ok_pickT rfl rfl bd rfl rfl rfl) ?_
  refine ml rfl rfl bd rfl ?_
  refine RV.step1 (OpOk.yes (ok_call (lives5_con) rfl rfl bd Tryz.func38 rfl rfl .nil rfl hfr rfl) rfl rfl rfl) ?_
  refine p1 (ok_pickT rfl rfl bd rfl rfl rfl) ?_
  refine mr rfl rfl bd rfl ?_
  refine RV.drawn (by kernel_rfl) ?_
  refine CV.ret ?_
  exact fin1 rfl (.inr rfl) rfl is_rfl
end
end Vc
end Go.Proofs.YtpgiebimhnhbiaaGreatDoor

namespace Go.Proofs.YtpgiebimhnhbiaaGreatDoor
open Dg Zn
namespace Vc
structure Simp (a b c d q p : Int) : Prop where
 hq : 0 < q
 hp : 0 < p
 lo : a * p ≤ q * b
 hi : q * d ≤ c * p
 min : ∀ u v : Int, 0 < v → a * v ≤ u * b → u * d ≤ c * v → q ≤ u ∧ p ≤ v
theorem Simp.uniq {a b c d q p q' p' : Int} (h : Simp a b c d q p) (k : Simp a b c d q' p') : q = q' ∧ p = p' := by
 have h1 := h.min q' p' k.hp k.lo k.hi
 have h2 := k.min q p h.hp h.lo h.hi
 omega
theorem Simp.coprime {a b c d q p : Int} (h : Simp a b c d q p) : Int.gcd q p = 1 := by
 obtain ⟨g, hg⟩ : ∃ g : Nat, Int.gcd q p = g := ⟨_, rfl⟩
 have hg0 : 0 < g := by rw [← hg]; exact Int.gcd_pos_of_ne_zero_left p (by have := h.hq; omega)
 obtain ⟨x, hx⟩ : (g : Int) ∣ q := by rw [← hg]; exact Int.gcd_dvd_left ..
 obtain ⟨y, hy⟩ : (g : Int) ∣ p := by rw [← hg]; exact Int.gcd_dvd_right ..
 have hgi : (0 : Int) < g := by omega
 have hy0 : 0 < y := by
  have := h.hp
  rw [hy] at this
  exact Int.pos_of_mul_pos_right this hgi
 have e1 : a * y ≤ x * b := by
  have := h.lo
  rw [hx, hy, show a * ((g : Int) * y) = g * (a * y) by grind, show (g : Int) * x * b = g * (x * b) by grind] at this
  exact Int.le_of_mul_le_mul_left this hgi
 have e2 : x * d ≤ c * y := by
  have := h.hi
  rw [hx, hy, show (g : Int) * x * d = g * (x * d) by grind, show c * ((g : Int) * y) = g * (c * y) by grind] at this
  exact Int.le_of_mul_le_mul_left this hgi
 have h2 := (h.min x y hy0 e1 e2).2
 rw [hy] at h2
 have h3 : (g : Int) * y ≤ 1 * y := by omega
 have h4 := Int.le_of_mul_le_mul_right h3 hy0
 rw [hg]
 omega
theorem find_ex : ∀ (n : Nat) (a b c d : Int), 0 < a → 0 < b → 0 < d → a * d ≤ c * b → b + d ≤ n → ∃ q p, Simp a b c d q p ∧ ∀ B, 1 ≤ B → len q ≤ B → len p ≤ B → FindOk B a b c d q p := by
 intro n
 induction n with
 | zero => intro a b c d h1 h2 h3 h4 h5; omega
 | succ n ih =>
  intro a b c d ha hb hd hle hn
  have ea := Int.mul_ediv_add_emod a b
  have r1 := Int.emod_nonneg a (Int.ne_of_gt hb)
  have r2 := Int.emod_lt_of_pos a hb
  have ec := Int.mul_ediv_add_emod c d
  have s1 := Int.emod_nonneg c (Int.ne_of_gt hd)
  have s2 := Int.emod_lt_of_pos c hd
  have n0 : 0 ≤ a / b := Int.ediv_nonneg (by omega) (by omega)
  generalize hna : a / b = m at *
  generalize hra : a % b = r at *
  generalize hnc : c / d = k at *
  generalize hrc : c % d = s at *
  by_cases h0 : r = 0
  ·subst h0
   rw [Int.add_zero] at ea
   refine ⟨m, 1, ⟨?_, by decide, ?_, ?_, ?_⟩, fun B hB hq hp => ?_⟩
   ·rw [← ea] at ha
    exact Int.pos_of_mul_pos_right ha hb
   ·rw [← ea]; grind
   ·rw [Int.mul_one]
    refine Int.le_of_mul_le_mul_left (a := b) ?_ hb
    rw [← ea] at hle
    grind
   ·intro u v hv h1 h2
    refine ⟨?_, hv⟩
    have h3 : b * (m * v) ≤ b * u := by rw [← ea] at h1; grind
    have h4 := Int.le_of_mul_le_mul_left h3 hb
    have h5 : m * 1 ≤ m * v := Int.mul_le_mul_of_nonneg_left (by omega) n0
    omega
   ·subst hna
    exact .whole hra (Int.ne_of_gt hb) hq
  ·by_cases hk : m < k
   ·refine ⟨m + 1, 1, ⟨by omega, by decide, ?_, ?_, ?_⟩, fun B hB hq hp => ?_⟩
    ·rw [Int.mul_one, Int.add_mul, Int.mul_comm m b]
     omega
    ·rw [Int.mul_one]
     have : d * (m + 1) ≤ d * k := Int.mul_le_mul_of_nonneg_left (by omega) (by omega)
     rw [Int.mul_comm]
     omega
    ·intro u v hv h1 h2
     refine ⟨?_, hv⟩
     have h3 : a * 1 ≤ a * v := Int.mul_le_mul_of_nonneg_left (by omega) (by omega)
     have h4 : b * m < b * u := by rw [Int.mul_comm b u]; omega
     have h5 := Int.lt_of_mul_lt_mul_left h4 (by omega)
     omega
    ·subst hna; subst hnc
     exact .next (by rw [hra]; exact h0) (Int.ne_of_gt hb) (Int.ne_of_gt hd) hk hq
   ·have hr : 0 < r := by omega
    have hmk : k = m := by
     refine Int.le_antisymm (by omega) ?_
     rcases Int.lt_or_le k m with h | h
     ·exfalso
      have h1 : d * (k + 1) ≤ d * m := Int.mul_le_mul_of_nonneg_left (by omega) (by omega)
      have h2 : c < d * m := by rw [Int.mul_add] at h1; omega
      have h3 : c * b < d * m * b := Int.mul_lt_mul_of_pos_right h2 hb
      have h4 : d * (b * m) < d * a := Int.mul_lt_mul_of_pos_left (by omega) hd
      grind
     ·exact h
    subst hmk
    have hrs : d * r ≤ b * s := by
     have e1 : a * d = b * k * d + r * d := by rw [← ea]; grind
     have e2 : c * b = d * k * b + s * b := by rw [← ec]; grind
     grind
    have hs : 0 < s := by
     rcases Int.lt_or_le 0 s with h | h
     ·exact h
     ·exfalso
      have : s = 0 := by omega
      subst this
      have := Int.mul_pos hd hr
      omega
    obtain ⟨q', p', hS, hF⟩ := ih d s b r hd hs hr hrs (by omega)
    refine ⟨k * q' + p', q', ⟨?_, hS.hq, ?_, ?_, ?_⟩, fun B hB hq hp => ?_⟩
    ·have := Int.mul_nonneg n0 (Int.le_of_lt hS.hq)
     have := hS.hp
     omega
    ·have := hS.hi
     rw [← ea]
     grind
    ·have := hS.lo
     rw [← ec]
     grind
    ·intro u v hv h1 h2
     obtain ⟨w, hw⟩ : ∃ w, w = u - k * v := ⟨_, rfl⟩
     have g1 : v * r ≤ b * w := by rw [hw]; rw [← ea] at h1; grind
     have g2 : d * w ≤ v * s := by rw [hw]; rw [← ec] at h2; grind
     have g0 : 0 < w := by
      have h3 : 0 < b * w := Int.lt_of_lt_of_le (Int.mul_pos hv hr) g1
      exact Int.pos_of_mul_pos_right h3 hb
     obtain ⟨m1, m2⟩ := hS.min v w g0 g2 g1
     refine ⟨?_, m1⟩
     have := Int.mul_le_mul_of_nonneg_left m1 n0
     omega
    ·have hp' : len p' ≤ B := Nat.le_trans (len_mono (by have := Int.mul_nonneg n0 (Int.le_of_lt hS.hq); have := hS.hp; omega)) hq
     have hF' := hF B hB hp hp'
     subst hra; subst hrc; subst hna
     exact .step h0 (Int.ne_of_gt hb) (Int.ne_of_gt hd) (by rw [hnc]; exact Int.lt_irrefl _) hF' hq hp
end Vc
end Go.Proofs.YtpgiebimhnhbiaaGreatDoor

namespace Go.Proofs.YtpgiebimhnhbiaaGreatDoor
open Go.RowKit
open Go.Lib (hid)
open Dg Zn Tx
namespace Vc
set_option maxRecDepth 100000
set_option linter.unusedSectionVars false

theorem Con.know {D : Type} [Dom D] {P : Program} {f : FuncId} {args : List (SA D)} {r : AV D} {φ : Prop} (h : ∀ L ρ w vs, isAll L ρ w args vs → φ) (k : φ → Con P f args r) : Con P f args r := fun L ρ w vs h1 h2 h3 h4 => k (h L ρ w vs h4) L ρ w vs h1 h2 h3 h4
theorem rt_len {p q : Int} {k : Nat} {L : Nat → Prop} {ρ : Rho} {w : World} {v : Value} (h : (SA.d (Dm.rt p q k)).is L ρ w v) : len p ≤ k ∧ len q ≤ k := by
 obtain ⟨s, t, _, _, _, h4, h5⟩ := h w (Agree.refl _ _)
 exact ⟨h4, h5⟩
theorem den_len {a : Rat} {k : Nat} (hk : 1 ≤ k) (h : len (qd a) ≤ k) : len (a.den : Int) ≤ k := by
 unfold qd at h
 split at h
 ·rename_i e
  rw [e]
  exact Nat.le_trans len_one hk
 ·exact h
theorem qd_len {a : Rat} {k : Nat} (h : len (a.den : Int) ≤ k) : len (qd a) ≤ k := by
 unfold qd
 split
 ·show (dig 0).length ≤ k
  rw [dig_zero]
  exact Nat.zero_le _
 ·exact h
theorem is_rtle {a b : Rat} {k B : Nat} (e : a = b) (h1 : len b.num ≤ B) (h2 : len (b.den : Int) ≤ B) : ∀ L ρ w v, (RT a k).is L ρ w v → (RT b B).is L ρ w v := by
 subst e
 intro L ρ w v h w' hw
 obtain ⟨s, t, g1, g2, g3, _, _⟩ := h w' hw
 exact ⟨s, t, g1, g2, g3, h1, qd_len h2⟩
theorem whole_rt (c : Int) (k : Nat) : (RT (Rat.divInt c 1) k) = .d (Dm.rt c 0 k) := by
 have h := whole_parts c
 show SA.d (Dm.rt _ (qd _) k) = _
 unfold qd
 rw [h.1, if_pos (by have := h.2; omega)]
section
variable {cx : Cx Dm} {n : Nat} {σ : St Dm} {o : Oper} {d : Nat} {x : Operand}
theorem ok_buildW {p : Int} {k : Nat} (ho : o.op = .build 45 #[(0, x)]) (hd : o.dst = some d) (hn : d < n) (hx : opd σ x = .av (.one (.d (.int p k)))) : OpOk Tryz.prog cx n σ o (opk x) [(.s d, .av (.one (RT (Rat.divInt p 1) k)))] := by
 rw [whole_rt]
 exact ok_build1 ho hd hn hx
end

/-! Plain. -/
theorem step_facts {a b c d : Int} (hb : 0 < b) (hd : 0 < d) (hle : a * d ≤ c * b) (h0 : a % b ≠ 0) (hk : ¬ a / b < c / d) : c / d = a / b ∧ 0 < c % d ∧ d * (a % b) ≤ b * (c % d) := by
 have ea := Int.mul_ediv_add_emod a b
 have r1 := Int.emod_nonneg a (Int.ne_of_gt hb)
 have r2 := Int.emod_lt_of_pos a hb
 have ec := Int.mul_ediv_add_emod c d
 have s1 := Int.emod_nonneg c (Int.ne_of_gt hd)
 have s2 := Int.emod_lt_of_pos c hd
 generalize a / b = m at *
 generalize a % b = r at *
 generalize c / d = k at *
 generalize c % d = s at *
 have hr : 0 < r := by omega
 have hmk : k = m := by
  refine Int.le_antisymm (by omega) ?_
  rcases Int.lt_or_le k m with h | h
  ·exfalso
   have h1 : d * (k + 1) ≤ d * m := Int.mul_le_mul_of_nonneg_left (by omega) (by omega)
   have h2 : c < d * m := by rw [Int.mul_add] at h1; omega
   have h3 : c * b < d * m * b := Int.mul_lt_mul_of_pos_right h2 hb
   have h4 : d * (b * m) < d * a := Int.mul_lt_mul_of_pos_left (by omega) hd
   grind
  ·exact h
 subst hmk
 have hrs : d * r ≤ b * s := by
  have e1 : a * d = b * k * d + r * d := by rw [← ea]; grind
  have e2 : c * b = d * k * b + s * b := by rw [← ec]; grind
  grind
 refine ⟨rfl, ?_, hrs⟩
 rcases Int.lt_or_le 0 s with h | h
 ·exact h
 ·exfalso
  have : s = 0 := by omega
  subst this
  have := Int.mul_pos hd hr
  omega
theorem den_pos (a : Rat) : 0 < (a.den : Int) := by have := a.den_nz; omega
theorem frac_inv (y : Rat) (n : Int) (hn : n = y.num / y.den) (hs : 0 < y.num % y.den) : ((y - Rat.divInt n 1)⁻¹).num = y.den ∧ (((y - Rat.divInt n 1)⁻¹).den : Int) = y.num % y.den := by
 have e : (y - Rat.divInt n 1)⁻¹ = Rat.divInt y.den (y.num % y.den) := by
  have e1 : y - Rat.divInt n 1 = Rat.divInt (y.num % y.den) y.den := by
   conv => lhs; lhs; rw [← Rat.num_divInt_den y]
   rw [Rat.divInt_sub_divInt _ _ (Int.ne_of_gt (den_pos y)) (by decide)]
   have := Int.mul_ediv_add_emod y.num y.den
   rw [← hn] at this
   congr 1
   ·rw [Int.mul_comm n]; omega
   ·omega
  rw [e1, Rat.inv_divInt]
 rw [e]
 refine dv_num ?_ hs
 rw [Int.gcd_comm, Int.emod_def, Int.gcd_sub_mul_left_left]
 exact y.reduced
theorem ceil_whole {a b : Int} (h : a % b = 0) : -(-a / b) = a / b := by
 rw [Int.neg_ediv_of_dvd (Int.dvd_of_emod_eq_zero h), Int.neg_neg]
theorem ceil_frac {a b : Int} (hb : 0 < b) (h : a % b ≠ 0) : -(-a / b) = a / b + 1 := by
 have ea := Int.mul_ediv_add_emod a b
 have r1 := Int.emod_nonneg a (Int.ne_of_gt hb)
 have r2 := Int.emod_lt_of_pos a hb
 have e2 := Int.mul_ediv_add_emod (-a) b
 have r3 := Int.emod_nonneg (-a) (Int.ne_of_gt hb)
 have r4 := Int.emod_lt_of_pos (-a) hb
 generalize a / b = m at *
 generalize -a / b = k at *
 generalize a % b = r at *
 generalize -a % b = s at *
 have : b * (m + k) = -(r + s) := by rw [Int.mul_add]; omega
 have h1 : b * (m + k) < 0 := by omega
 have h2 : b * (-2) < b * (m + k) := by omega
 have h3 := Int.lt_of_mul_lt_mul_left h2 (by omega)
 have h4 := Int.lt_of_mul_lt_mul_left (show b * (m + k) < b * 0 by omega) (by omega)
 omega
theorem cmp_whole_le {c : Int} {y : Rat} : cmpR (Rat.divInt c 1) y ≤ 0 ↔ c * y.den ≤ y.num := by
 rw [cmpR_whole]
 unfold cmpI
 constructor
 ·intro h
  split at h
  ·omega
  ·split at h
   ·omega
   ·omega
 ·intro h
  split
  ·decide
  ·split
   ·omega
   ·decide

/-! The reference's least. -/
theorem rfInv_con (a : Rat) (k : Nat) (hk : k ≤ 1000000) : Con Tryz.prog 147 [RT a k] (.one (RT (a⁻¹) (2 * k + 3))) := by
 refine Con.of (n := 8) Tryz.func147 rfl rfl rfl rfl rfl fun cx hfr => ?_
 refine sr rfl ?_
 refine p2 (ok_box (i := 0) rfl rfl bd rfl rfl rfl rfl rfl) ?_
 refine p2 (ok_alloc (i := 1) rfl rfl bd zero_rat rfl rfl rfl rfl) ?_
 refine RV.done ?_
 refine CV.seq ?_
 refine CV.region rfl (fun _ => by kernel_rfl) ?_
 refine p1 (ok_load rfl rfl bd rfl rfl rfl ty_rat) ?_
 refine p1 (ok_call (rDen_con' _ _) rfl rfl bd Tryz.func28 rfl rfl (.cons rfl Conv.any .nil) rfl hfr rfl) ?_
 refine p1 (ok_fieldAddr fa_rat0 rfl rfl bd rfl) ?_
 refine p1 (ok_loadf 0 fld_num rfl rfl bd rfl rfl rfl rfl ty_int) ?_
 refine p1 (ok_call (rMake_con _ _ _ _ (by omega) (by omega)) rfl rfl bd Tryz.func25 rfl rfl (.cons rfl Conv.any (.cons rfl Conv.any .nil)) rfl hfr rfl) ?_
 refine p1 (ok_store rfl rfl rfl rfl rfl rfl rfl (ty_rat).2 rfl rfl rfl rfl) ?_
 refine RV.drawn (by kernel_rfl) ?_
 refine CV.ret ?_
 exact fin1 rfl (.inr rfl) ⟨_, _, _, _, _, rfl, rfl, rfl, ty_rat⟩ (is_rt (by rw [inv_eq]) (by rw [inv_eq]) (by omega))
section
variable (x y : Rat) (K : Nat) (hK : K ≤ 1000) (c : Int)
include hK
theorem rfleast_ceil (hc0 : -(-x.num / x.den) = c) (h : c * y.den ≤ y.num) : Con Tryz.prog 118 [RT x K, RT y K] (.one (RT (Rat.divInt c 1) K)) := by
 refine Con.of (n := 30) Tryz.func118 rfl rfl rfl rfl rfl fun cx hfr => ?_
 refine sr rfl ?_
 refine p2 (ok_box (i := 0) rfl rfl bd rfl rfl rfl rfl rfl) ?_
 refine p2 (ok_box (i := 1) rfl rfl bd rfl rfl rfl rfl rfl) ?_
 refine p2 (ok_alloc (i := 2) rfl rfl bd zero_rat rfl rfl rfl rfl) ?_
 refine RV.done (sr rfl ?_)
 refine p1 (ok_load rfl rfl bd rfl rfl rfl ty_rat) ?_
 refine p1 (ok_call (hc0 ▸ rfCeil_con x K (by omega)) rfl rfl bd Tryz.func61 rfl rfl (.cons rfl Conv.any .nil) rfl hfr rfl) ?_
 refine p1 (ok_buildW rfl rfl bd rfl) ?_
 refine p2 (ok_alloc (i := 3) rfl rfl bd zero_rat rfl rfl rfl rfl) ?_
 refine p1 (ok_store rfl rfl rfl rfl rfl rfl rfl (ty_rat).2 rfl rfl rfl rfl) ?_
 refine RV.done ?_
 refine CV.seq ?_
 refine sr rfl ?_
 refine p1 (ok_load rfl rfl bd rfl rfl rfl ty_rat) ?_
 refine p1 (ok_load rfl rfl bd rfl rfl rfl ty_rat) ?_
 refine p1 (ok_call (rfCompare_con _ _ _ _ (by omega) (by omega)) rfl rfl bd Tryz.func51 rfl rfl (.cons rfl Conv.any (.cons rfl Conv.any .nil)) rfl hfr rfl) ?_
 refine p1 (ok_leq rfl rfl bd rfl rfl) ?_
 refine RV.done ?_
 refine CV.cond rfl (fun hc => ?_) (fun hc => False.elim (by have := cmp_whole_le.2 h; simp at hc; omega))
 refine sr rfl ?_
 refine p1 (ok_load rfl rfl bd rfl rfl rfl ty_rat) ?_
 refine p1 (ok_store rfl rfl rfl rfl rfl rfl rfl (ty_rat).2 rfl rfl rfl rfl) ?_
 refine RV.done ?_
 refine CV.ret ?_
 exact fin1 rfl (.inr rfl) ⟨_, _, _, _, _, rfl, rfl, rfl, ty_rat⟩ is_rfl
theorem rfleast_step (w z : Rat) (hc0 : -(-x.num / x.den) = c) (h : ¬ c * y.den ≤ y.num) (g1 : len ((y - Rat.divInt (x.num / x.den) 1)⁻¹).num ≤ K ∧ len (((y - Rat.divInt (x.num / x.den) 1)⁻¹).den : Int) ≤ K) (g2 : len ((x - Rat.divInt (x.num / x.den) 1)⁻¹).num ≤ K ∧ len (((x - Rat.divInt (x.num / x.den) 1)⁻¹).den : Int) ≤ K)
  (hrec : Con Tryz.prog 118 [RT ((y - Rat.divInt (x.num / x.den) 1)⁻¹) K, RT ((x - Rat.divInt (x.num / x.den) 1)⁻¹) K] (.one (RT w K))) (hz : Rat.divInt (x.num / x.den) 1 + w⁻¹ = z) (l1 : len z.num ≤ K) (l2 : len (z.den : Int) ≤ K) : Con Tryz.prog 118 [RT x K, RT y K] (.one (RT z K)) := by
 refine Con.of (n := 30) Tryz.func118 rfl rfl rfl rfl rfl fun cx hfr => ?_
 refine sr rfl ?_
 refine p2 (ok_box (i := 0) rfl rfl bd rfl rfl rfl rfl rfl) ?_
 refine p2 (ok_box (i := 1) rfl rfl bd rfl rfl rfl rfl rfl) ?_
 refine p2 (ok_alloc (i := 2) rfl rfl bd zero_rat rfl rfl rfl rfl) ?_
 refine RV.done (sr rfl ?_)
 refine p1 (ok_load rfl rfl bd rfl rfl rfl ty_rat) ?_
 refine p1 (ok_call (hc0 ▸ rfCeil_con x K (by omega)) rfl rfl bd Tryz.func61 rfl rfl (.cons rfl Conv.any .nil) rfl hfr rfl) ?_
 refine p1 (ok_buildW rfl rfl bd rfl) ?_
 refine p2 (ok_alloc (i := 3) rfl rfl bd zero_rat rfl rfl rfl rfl) ?_
 refine p1 (ok_store rfl rfl rfl rfl rfl rfl rfl (ty_rat).2 rfl rfl rfl rfl) ?_
 refine RV.done ?_
 refine CV.seq ?_
 refine sr rfl ?_
 refine p1 (ok_load rfl rfl bd rfl rfl rfl ty_rat) ?_
 refine p1 (ok_load rfl rfl bd rfl rfl rfl ty_rat) ?_
 refine p1 (ok_call (rfCompare_con _ _ _ _ (by omega) (by omega)) rfl rfl bd Tryz.func51 rfl rfl (.cons rfl Conv.any (.cons rfl Conv.any .nil)) rfl hfr rfl) ?_
 refine p1 (ok_leq rfl rfl bd rfl rfl) ?_
 refine RV.done ?_
 refine CV.cond rfl (fun hc => False.elim (by have := mt cmp_whole_le.1 h; simp at hc; omega)) (fun hc => ?_)
 refine CV.skip ?_
 refine sr rfl ?_
 refine p1 (ok_load rfl rfl bd rfl rfl rfl ty_rat) ?_
 refine p1 (ok_call (rfFloor_con _ _ (by omega)) rfl rfl bd Tryz.func59 rfl rfl (.cons rfl Conv.any .nil) rfl hfr rfl) ?_
 refine p1 (ok_buildW rfl rfl bd rfl) ?_
 refine p2 (ok_alloc (i := 4) rfl rfl bd zero_rat rfl rfl rfl rfl) ?_
 refine p1 (ok_store rfl rfl rfl rfl rfl rfl rfl (ty_rat).2 rfl rfl rfl rfl) ?_
 refine RV.done ?_
 refine CV.seq ?_
 refine CV.region rfl (fun _ => by kernel_rfl) ?_
 refine p1 (ok_load rfl rfl bd rfl rfl rfl ty_rat) ?_
 refine p1 (ok_load rfl rfl bd rfl rfl rfl ty_rat) ?_
 refine p1 (ok_load rfl rfl bd rfl rfl rfl ty_rat) ?_
 refine p1 (ok_call (rfSub_con _ _ _ _ (by omega) (by omega)) rfl rfl bd Tryz.func43 rfl rfl (.cons rfl Conv.any (.cons rfl Conv.any .nil)) rfl hfr rfl) ?_
 refine p1 (ok_call (rfInv_con _ _ (by omega)) rfl rfl bd Tryz.func147 rfl rfl (.cons rfl Conv.any .nil) rfl hfr rfl) ?_
 refine p1 (ok_load rfl rfl bd rfl rfl rfl ty_rat) ?_
 refine p1 (ok_load rfl rfl bd rfl rfl rfl ty_rat) ?_
 refine p1 (ok_call (rfSub_con _ _ _ _ (by omega) (by omega)) rfl rfl bd Tryz.func43 rfl rfl (.cons rfl Conv.any (.cons rfl Conv.any .nil)) rfl hfr rfl) ?_
 refine p1 (ok_call (rfInv_con _ _ (by omega)) rfl rfl bd Tryz.func147 rfl rfl (.cons rfl Conv.any .nil) rfl hfr rfl) ?_
 refine p1 (ok_call hrec rfl rfl bd Tryz.func118 rfl rfl (.cons rfl ⟨rfl, is_rtle rfl g1.1 g1.2⟩ (.cons rfl ⟨rfl, is_rtle rfl g2.1 g2.2⟩ .nil)) rfl hfr rfl) ?_
 refine p1 (ok_call (rfInv_con _ _ (by omega)) rfl rfl bd Tryz.func147 rfl rfl (.cons rfl Conv.any .nil) rfl hfr rfl) ?_
 refine p1 (ok_call (rfAdd_con _ _ _ _ (by omega) (by omega)) rfl rfl bd Tryz.func41 rfl rfl (.cons rfl Conv.any (.cons rfl Conv.any .nil)) rfl hfr rfl) ?_
 refine p1 (ok_store rfl rfl rfl rfl rfl rfl rfl (ty_rat).2 rfl rfl rfl rfl) ?_
 refine RV.drawn (by kernel_rfl) ?_
 refine CV.ret ?_
 exact fin1 rfl (.inr rfl) ⟨_, _, _, _, _, rfl, rfl, rfl, ty_rat⟩ (is_rtle hz l1 l2)
end
end Vc
end Go.Proofs.YtpgiebimhnhbiaaGreatDoor

namespace Go.Proofs.YtpgiebimhnhbiaaGreatDoor
open Go.RowKit
open Go.Lib (hid)
open Dg Zn Tx
namespace Vc
set_option maxRecDepth 100000
set_option linter.unusedSectionVars false

theorem rfLeast_con {K : Nat} (hK1 : 1 ≤ K) (hK : K ≤ 1000) {a b c d q p : Int} (h : FindOk K a b c d q p) : ∀ x y : Rat, x.num = a → (x.den : Int) = b → y.num = c → (y.den : Int) = d → 0 < a → a * d ≤ c * b → len b ≤ K → len d ≤ K →
  Con Tryz.prog 118 [RT x K, RT y K] (.one (RT (Rat.divInt q p) K)) ∧ 0 < q ∧ 0 < p ∧ Int.gcd q p = 1 := by
 induction h with
 | @whole a b c d h1 h2 h3 =>
  intro x y e1 e2 e3 e4 ha hle hb hd
  have hb0 : 0 < b := by rw [← e2]; exact den_pos x
  have ea := Int.mul_ediv_add_emod a b
  rw [h1, Int.add_zero] at ea
  refine ⟨rfleast_ceil x y K hK _ (by rw [e1, e2]; exact ceil_whole h1) ?_, ?_, by decide, Int.gcd_one_right _⟩
  ·rw [e3, e4]
   refine Int.le_of_mul_le_mul_left (a := b) ?_ hb0
   rw [← ea] at hle
   grind
  ·rw [← ea] at ha
   exact Int.pos_of_mul_pos_right ha hb0
 | @next a b c d h1 h2 h3 h4 h5 =>
  intro x y e1 e2 e3 e4 ha hle hb hd
  have hb0 : 0 < b := by rw [← e2]; exact den_pos x
  have hd0 : 0 < d := by rw [← e4]; exact den_pos y
  have n0 : 0 ≤ a / b := Int.ediv_nonneg (by omega) (by omega)
  refine ⟨rfleast_ceil x y K hK _ (by rw [e1, e2]; exact ceil_frac hb0 h1) ?_, by omega, by decide, Int.gcd_one_right _⟩
  rw [e3, e4]
  have ec := Int.mul_ediv_add_emod c d
  have s1 := Int.emod_nonneg c (Int.ne_of_gt hd0)
  have : d * (a / b + 1) ≤ d * (c / d) := Int.mul_le_mul_of_nonneg_left (by omega) (by omega)
  rw [Int.mul_comm]
  omega
 | @step a b c d q p h1 h2 h3 h4 hf h6 h7 ih =>
  intro x y e1 e2 e3 e4 ha hle hb hd
  have hb0 : 0 < b := by rw [← e2]; exact den_pos x
  have hd0 : 0 < d := by rw [← e4]; exact den_pos y
  have n0 : 0 ≤ a / b := Int.ediv_nonneg (by omega) (by omega)
  obtain ⟨f1, f2, f3⟩ := step_facts hb0 hd0 hle h1 h4
  have r1 := Int.emod_nonneg a (Int.ne_of_gt hb0)
  have r2 := Int.emod_lt_of_pos a hb0
  have s2 := Int.emod_lt_of_pos c hd0
  have X := frac_inv y (x.num / x.den) (by rw [e1, e2, e3, e4]; exact f1.symm) (by rw [e3, e4]; exact f2)
  have Y := frac_inv x (x.num / x.den) rfl (by rw [e1, e2]; omega)
  have lx : len (c % d) ≤ K := Nat.le_trans (len_mono (by omega)) hd
  have ly : len (a % b) ≤ K := Nat.le_trans (len_mono (by omega)) hb
  obtain ⟨hrec, k1, k2, k3⟩ := ih _ _ (by rw [X.1, e4]) (by rw [X.2, e3, e4]) (by rw [Y.1, e2]) (by rw [Y.2, e1, e2]) hd0 f3 lx ly
  have hz : Rat.divInt (x.num / x.den) 1 + (Rat.divInt q p)⁻¹ = Rat.divInt (a / b * q + p) q := by
   rw [Rat.inv_divInt, Rat.divInt_add_divInt _ _ (by decide) (Int.ne_of_gt k1), e1, e2]
   congr 1
   ·omega
   ·omega
  have hg : Int.gcd (a / b * q + p) q = 1 := by
   rw [Int.add_comm, Int.gcd_add_mul_right_left, Int.gcd_comm]
   exact k3
  have hn := dv_num hg k1
  refine ⟨rfleast_step x y K hK (a / b + 1) _ _ (by rw [e1, e2]; exact ceil_frac hb0 h1) ?_ ⟨by rw [X.1, e4]; exact hd, by rw [X.2, e3, e4]; exact lx⟩ ⟨by rw [Y.1, e2]; exact hb, by rw [Y.2, e1, e2]; exact ly⟩ hrec hz (by rw [hn.1]; exact h6) (by rw [hn.2]; exact h7), ?_, k1, hg⟩
  ·rw [e3, e4]
   have ec := Int.mul_ediv_add_emod c d
   rw [← f1, Int.add_mul, Int.mul_comm (c / d) d]
   omega
  ·have := Int.mul_nonneg n0 (Int.le_of_lt k1)
   omega

def SimpR (x y z : Rat) : Prop := Simp x.num x.den y.num y.den z.num z.den
theorem simp_ex {x y : Rat} (h0 : 0 < x.num) (hle : x ≤ y) : ∃ z, SimpR x y z := by
 rw [Rat.le_iff] at hle
 obtain ⟨q, p, hS, _⟩ := find_ex _ x.num x.den y.num y.den h0 (den_pos x) (den_pos y) hle (Int.le_of_eq (Int.toNat_of_nonneg (by have := den_pos x; have := den_pos y; omega)).symm)
 have hn := dv_num hS.coprime hS.hp
 exact ⟨Rat.divInt q p, by unfold SimpR; rw [hn.1, hn.2]; exact hS⟩
theorem both_least {x y z : Rat} {K : Nat} (hK1 : 1 ≤ K) (hK : K ≤ 1000) (h0 : 0 < x.num) (hle : x ≤ y) (hz : SimpR x y z) :
  Con Tryz.prog 117 [RT x K, RT y K] (.one (RT z K)) ∧ Con Tryz.prog 118 [RT x K, RT y K] (.one (RT z K)) := by
 rw [Rat.le_iff] at hle
 obtain ⟨q, p, hS, hF⟩ := find_ex _ x.num x.den y.num y.den h0 (den_pos x) (den_pos y) hle (Int.le_of_eq (Int.toNat_of_nonneg (by have := den_pos x; have := den_pos y; omega)).symm)
 obtain ⟨e1, e2⟩ := Simp.uniq hz hS
 have hm := hS.min x.num x.den (den_pos x) (Int.le_refl _) hle
 have e : z = Rat.divInt q p := by rw [← e1, ← e2, Rat.num_divInt_den]
 have key : len x.num ≤ K → len (qd x) ≤ K → FindOk K x.num x.den y.num y.den q p := fun k1 k2 =>
  hF K hK1 (Nat.le_trans (len_mono (by have := hS.hq; omega)) k1) (Nat.le_trans (len_mono (by have := hS.hp; omega)) (den_len hK1 k2))
 have know : ∀ L ρ w vs, isAll L ρ w [RT x K, RT y K] vs → (len x.num ≤ K ∧ len (qd x) ≤ K) ∧ len y.num ≤ K ∧ len (qd y) ≤ K := by
  intro L ρ w vs h
  match vs, h with
  | [u, v], ⟨g1, g2, _⟩ => exact ⟨rt_len g1, rt_len g2⟩
 subst e
 refine ⟨Con.know know fun k => ?_, Con.know know fun k => ?_⟩
 ·exact least_con x y K K K q p (by omega) (by omega) hK1 (by omega) (key k.1.1 k.1.2) (fun _ => hS.coprime)
 ·exact (rfLeast_con hK1 hK (key k.1.1 k.1.2) x y rfl rfl rfl rfl h0 hle (den_len hK1 k.1.2) (den_len hK1 k.2.2)).1

structure BetR (x y z : Rat) : Prop where
 le : x ≤ y
 pos : 0 < x.num → SimpR x y z
 neg : ¬ 0 < x.num → y.num < 0 → SimpR (-y) (-x) (-z)
 zero : ¬ 0 < x.num → ¬ y.num < 0 → z = 0
theorem bet_ex {x y : Rat} (h : x ≤ y) : ∃ z, BetR x y z := by
 by_cases h1 : 0 < x.num
 ·obtain ⟨z, hz⟩ := simp_ex h1 h
  exact ⟨z, h, fun _ => hz, fun k => absurd h1 k, fun k => absurd h1 k⟩
 ·by_cases h2 : y.num < 0
  ·obtain ⟨z, hz⟩ := simp_ex (x := -y) (y := -x) (by rw [Rat.neg_num]; omega) (Rat.neg_le_neg h)
   exact ⟨-z, h, fun k => absurd k h1, fun _ _ => by rw [Rat.neg_neg]; exact hz, fun _ k => absurd h2 k⟩
  ·exact ⟨0, h, fun k => absurd k h1, fun _ k => absurd k h2, fun _ _ => rfl⟩
theorem rfBetween_err (a b : Rat) (j k : Nat) (hj : j ≤ 100000) (hk : k ≤ 100000) (h : 0 < cmpR a b) : Con Tryz.prog 65 [RT a j, RT b k] (.tup [.d (Dm.rt 0 0 0), .v (.int .i64 1)]) := by
 refine Con.of (n := 27) Tryz.func65 rfl rfl rfl rfl rfl fun cx hfr => ?_
 refine sr rfl ?_
 refine p2 (ok_box (i := 0) rfl rfl bd rfl rfl rfl rfl rfl) ?_
 refine p2 (ok_box (i := 1) rfl rfl bd rfl rfl rfl rfl rfl) ?_
 refine p2 (ok_alloc (i := 2) rfl rfl bd zero_rat rfl rfl rfl rfl) ?_
 refine mr rfl rfl bd rfl ?_
 refine RV.done ?_
 refine CV.seq ?_
 refine sr rfl ?_
 refine p1 (ok_load rfl rfl bd rfl rfl rfl ty_rat) ?_
 refine p1 (ok_load rfl rfl bd rfl rfl rfl ty_rat) ?_
 refine p1 (ok_call (rfCompare_con _ _ _ _ (by omega) (by omega)) rfl rfl bd Tryz.func51 rfl rfl (.cons rfl Conv.any (.cons rfl Conv.any .nil)) rfl hfr rfl) ?_
 refine p1 (ok_gtr rfl rfl bd rfl rfl) ?_
 refine RV.done ?_
 refine CV.cond rfl (fun hc => ?_) (fun hc => False.elim (by simp at hc; omega))
 refine sr rfl ?_
 refine p1 (ok_build0 rfl rfl bd) ?_
 refine p1 (ok_store rfl rfl rfl rfl rfl rfl rfl (ty_rat).2 rfl rfl rfl rfl) ?_
 refine mr rfl rfl bd rfl ?_
 refine RV.done ?_
 refine CV.ret ?_
 exact fin2 rfl (.inr rfl) ⟨_, _, _, _, _, rfl, rfl, rfl, ty_rat⟩ rfl is_rfl2
theorem rfBetween_zero (a b : Rat) (j k : Nat) (hj : j ≤ 100000) (hk : k ≤ 100000) (h : ¬ 0 < cmpR a b) (h2 : ¬ 0 < cmpI a.num 0) (h3 : ¬ cmpI b.num 0 < 0) : Con Tryz.prog 65 [RT a j, RT b k] (.tup [.d (Dm.rt 0 0 0), .v (.int .i64 0)]) := by
 refine Con.of (n := 27) Tryz.func65 rfl rfl rfl rfl rfl fun cx hfr => ?_
 refine sr rfl ?_
 refine p2 (ok_box (i := 0) rfl rfl bd rfl rfl rfl rfl rfl) ?_
 refine p2 (ok_box (i := 1) rfl rfl bd rfl rfl rfl rfl rfl) ?_
 refine p2 (ok_alloc (i := 2) rfl rfl bd zero_rat rfl rfl rfl rfl) ?_
 refine mr rfl rfl bd rfl ?_
 refine RV.done ?_
 refine CV.seq ?_
 refine sr rfl ?_
 refine p1 (ok_load rfl rfl bd rfl rfl rfl ty_rat) ?_
 refine p1 (ok_load rfl rfl bd rfl rfl rfl ty_rat) ?_
 refine p1 (ok_call (rfCompare_con _ _ _ _ (by omega) (by omega)) rfl rfl bd Tryz.func51 rfl rfl (.cons rfl Conv.any (.cons rfl Conv.any .nil)) rfl hfr rfl) ?_
 refine p1 (ok_gtr rfl rfl bd rfl rfl) ?_
 refine RV.done ?_
 refine CV.cond rfl (fun hc => False.elim (by simp at hc; omega)) (fun hc => ?_)
 refine CV.skip ?_
 refine CV.seq ?_
 refine sr rfl ?_
 refine p1 (ok_load rfl rfl bd rfl rfl rfl ty_rat) ?_
 refine p1 (ok_call (rfSign_con _ _) rfl rfl bd Tryz.func53 rfl rfl (.cons rfl Conv.any .nil) rfl hfr rfl) ?_
 refine p1 (ok_gtr rfl rfl bd rfl rfl) ?_
 refine RV.done ?_
 refine CV.cond rfl (fun hc => False.elim (by simp at hc; omega)) (fun hc => ?_)
 refine CV.skip ?_
 refine CV.seq ?_
 refine sr rfl ?_
 refine p1 (ok_load rfl rfl bd rfl rfl rfl ty_rat) ?_
 refine p1 (ok_call (rfSign_con _ _) rfl rfl bd Tryz.func53 rfl rfl (.cons rfl Conv.any .nil) rfl hfr rfl) ?_
 refine p1 (ok_lss rfl rfl bd rfl rfl) ?_
 refine RV.done ?_
 refine CV.cond rfl (fun hc => False.elim (by simp at hc; omega)) (fun hc => ?_)
 refine CV.skip ?_
 refine sr rfl ?_
 refine p1 (ok_build0 rfl rfl bd) ?_
 refine p1 (ok_store rfl rfl rfl rfl rfl rfl rfl (ty_rat).2 rfl rfl rfl rfl) ?_
 refine mr rfl rfl bd rfl ?_
 refine RV.done ?_
 refine CV.ret ?_
 exact fin2 rfl (.inr rfl) ⟨_, _, _, _, _, rfl, rfl, rfl, ty_rat⟩ rfl is_rfl2
theorem rfBetween_pos (a b z : Rat) (j k m : Nat) (hj : j ≤ 100000) (hk : k ≤ 100000) (h : ¬ 0 < cmpR a b) (h2 : 0 < cmpI a.num 0) (hl : Con Tryz.prog 118 [RT a j, RT b k] (.one (RT z m))) : Con Tryz.prog 65 [RT a j, RT b k] (.tup [RT z m, .v (.int .i64 0)]) := by
 refine Con.of (n := 27) Tryz.func65 rfl rfl rfl rfl rfl fun cx hfr => ?_
 refine sr rfl ?_
 refine p2 (ok_box (i := 0) rfl rfl bd rfl rfl rfl rfl rfl) ?_
 refine p2 (ok_box (i := 1) rfl rfl bd rfl rfl rfl rfl rfl) ?_
 refine p2 (ok_alloc (i := 2) rfl rfl bd zero_rat rfl rfl rfl rfl) ?_
 refine mr rfl rfl bd rfl ?_
 refine RV.done ?_
 refine CV.seq ?_
 refine sr rfl ?_
 refine p1 (ok_load rfl rfl bd rfl rfl rfl ty_rat) ?_
 refine p1 (ok_load rfl rfl bd rfl rfl rfl ty_rat) ?_
 refine p1 (ok_call (rfCompare_con _ _ _ _ (by omega) (by omega)) rfl rfl bd Tryz.func51 rfl rfl (.cons rfl Conv.any (.cons rfl Conv.any .nil)) rfl hfr rfl) ?_
 refine p1 (ok_gtr rfl rfl bd rfl rfl) ?_
 refine RV.done ?_
 refine CV.cond rfl (fun hc => False.elim (by simp at hc; omega)) (fun hc => ?_)
 refine CV.skip ?_
 refine CV.seq ?_
 refine sr rfl ?_
 refine p1 (ok_load rfl rfl bd rfl rfl rfl ty_rat) ?_
 refine p1 (ok_call (rfSign_con _ _) rfl rfl bd Tryz.func53 rfl rfl (.cons rfl Conv.any .nil) rfl hfr rfl) ?_
 refine p1 (ok_gtr rfl rfl bd rfl rfl) ?_
 refine RV.done ?_
 refine CV.cond rfl (fun hc => ?_) (fun hc => False.elim (by simp at hc; omega))
 refine sr rfl ?_
 refine p1 (ok_load rfl rfl bd rfl rfl rfl ty_rat) ?_
 refine p1 (ok_load rfl rfl bd rfl rfl rfl ty_rat) ?_
 refine p1 (ok_call (hl) rfl rfl bd Tryz.func118 rfl rfl (.cons rfl Conv.any (.cons rfl Conv.any .nil)) rfl hfr rfl) ?_
 refine p1 (ok_store rfl rfl rfl rfl rfl rfl rfl (ty_rat).2 rfl rfl rfl rfl) ?_
 refine mr rfl rfl bd rfl ?_
 refine RV.done ?_
 refine CV.ret ?_
 exact fin2 rfl (.inr rfl) ⟨_, _, _, _, _, rfl, rfl, rfl, ty_rat⟩ rfl is_rfl2
theorem rfBetween_neg (a b z : Rat) (j k m : Nat) (hj : j ≤ 100000) (hk : k ≤ 100000) (h : ¬ 0 < cmpR a b) (h2 : ¬ 0 < cmpI a.num 0) (h3 : cmpI b.num 0 < 0) (hl : Con Tryz.prog 118 [RT (-b) k, RT (-a) j] (.one (RT z m))) : Con Tryz.prog 65 [RT a j, RT b k] (.tup [RT (-z) m, .v (.int .i64 0)]) := by
 refine Con.of (n := 27) Tryz.func65 rfl rfl rfl rfl rfl fun cx hfr => ?_
 refine sr rfl ?_
 refine p2 (ok_box (i := 0) rfl rfl bd rfl rfl rfl rfl rfl) ?_
 refine p2 (ok_box (i := 1) rfl rfl bd rfl rfl rfl rfl rfl) ?_
 refine p2 (ok_alloc (i := 2) rfl rfl bd zero_rat rfl rfl rfl rfl) ?_
 refine mr rfl rfl bd rfl ?_
 refine RV.done ?_
 refine CV.seq ?_
 refine sr rfl ?_
 refine p1 (ok_load rfl rfl bd rfl rfl rfl ty_rat) ?_
 refine p1 (ok_load rfl rfl bd rfl rfl rfl ty_rat) ?_
 refine p1 (ok_call (rfCompare_con _ _ _ _ (by omega) (by omega)) rfl rfl bd Tryz.func51 rfl rfl (.cons rfl Conv.any (.cons rfl Conv.any .nil)) rfl hfr rfl) ?_
 refine p1 (ok_gtr rfl rfl bd rfl rfl) ?_
 refine RV.done ?_
 refine CV.cond rfl (fun hc => False.elim (by simp at hc; omega)) (fun hc => ?_)
 refine CV.skip ?_
 refine CV.seq ?_
 refine sr rfl ?_
 refine p1 (ok_load rfl rfl bd rfl rfl rfl ty_rat) ?_
 refine p1 (ok_call (rfSign_con _ _) rfl rfl bd Tryz.func53 rfl rfl (.cons rfl Conv.any .nil) rfl hfr rfl) ?_
 refine p1 (ok_gtr rfl rfl bd rfl rfl) ?_
 refine RV.done ?_
 refine CV.cond rfl (fun hc => False.elim (by simp at hc; omega)) (fun hc => ?_)
 refine CV.skip ?_
 refine CV.seq ?_
 refine sr rfl ?_
 refine p1 (ok_load rfl rfl bd rfl rfl rfl ty_rat) ?_
 refine p1 (ok_call (rfSign_con _ _) rfl rfl bd Tryz.func53 rfl rfl (.cons rfl Conv.any .nil) rfl hfr rfl) ?_
 refine p1 (ok_lss rfl rfl bd rfl rfl) ?_
 refine RV.done ?_
 refine CV.cond rfl (fun hc => ?_) (fun hc => False.elim (by simp at hc; omega))
 refine CV.seq ?_
 refine CV.region rfl (fun _ => by kernel_rfl) ?_
 refine p1 (ok_load rfl rfl bd rfl rfl rfl ty_rat) ?_
 refine p1 (ok_call (rfNeg_con _ _) rfl rfl bd Tryz.func49 rfl rfl (.cons rfl Conv.any .nil) rfl hfr rfl) ?_
 refine p1 (ok_load rfl rfl bd rfl rfl rfl ty_rat) ?_
 refine p1 (ok_call (rfNeg_con _ _) rfl rfl bd Tryz.func49 rfl rfl (.cons rfl Conv.any .nil) rfl hfr rfl) ?_
 refine p1 (ok_call (hl) rfl rfl bd Tryz.func118 rfl rfl (.cons rfl Conv.any (.cons rfl Conv.any .nil)) rfl hfr rfl) ?_
 refine p1 (ok_call (rfNeg_con _ _) rfl rfl bd Tryz.func49 rfl rfl (.cons rfl Conv.any .nil) rfl hfr rfl) ?_
 refine p1 (ok_store rfl rfl rfl rfl rfl rfl rfl (ty_rat).2 rfl rfl rfl rfl) ?_
 refine mr rfl rfl bd rfl ?_
 refine RV.drawn (by kernel_rfl) ?_
 refine CV.ret ?_
 exact fin2 rfl (.inr rfl) ⟨_, _, _, _, _, rfl, rfl, rfl, ty_rat⟩ rfl is_rfl2
theorem cmp_le {x y : Rat} (h : x ≤ y) : ¬ 0 < cmpR x y := by
 rw [Rat.le_iff] at h
 unfold cmpR cmpI
 split
 ·decide
 ·split
  ·omega
  ·decide
theorem cmp_gt {x y : Rat} (h : ¬ x ≤ y) : 0 < cmpR x y := by
 rw [Rat.le_iff] at h
 unfold cmpR cmpI
 split
 ·omega
 ·split
  ·decide
  ·omega
theorem sgn_pos {n : Int} : 0 < cmpI n 0 ↔ 0 < n := by
 unfold cmpI
 split
 ·constructor <;> intro h <;> omega
 ·split
  ·constructor <;> intro h <;> omega
  ·constructor <;> intro h <;> omega
theorem sgn_neg {n : Int} : cmpI n 0 < 0 ↔ n < 0 := by
 unfold cmpI
 split
 ·constructor <;> intro h <;> omega
 ·split
  ·constructor <;> intro h <;> omega
  ·constructor <;> intro h <;> omega
theorem zero_up {f : FuncId} {args : List (SA Dm)} {K : Nat} (h : Con Tryz.prog f args (.tup [.d (Dm.rt 0 0 0), .v (.int .i64 0)])) : Con Tryz.prog f args (.tup [RT 0 K, .v (.int .i64 0)]) :=
 h.mono (fun _ _ _ _ k => k) (is_pair (is_rt rfl rfl (Nat.zero_le _)) fun _ _ _ _ k => k)
theorem Bet_con {x y z : Rat} {K : Nat} (hK1 : 1 ≤ K) (hK : K ≤ 1000) (h : BetR x y z) :
  Con Tryz.prog 64 [RT x K, RT y K] (.tup [RT z K, .v (.int .i64 0)]) ∧ Con Tryz.prog 65 [RT x K, RT y K] (.tup [RT z K, .v (.int .i64 0)]) := by
 have hc := cmp_le h.le
 by_cases h1 : 0 < x.num
 ·have q := both_least hK1 hK h1 h.le (h.pos h1)
  exact ⟨Between_pos x y z K K K (by omega) (by omega) hc (sgn_pos.2 h1) q.1, rfBetween_pos x y z K K K (by omega) (by omega) hc (sgn_pos.2 h1) q.2⟩
 ·have g1 := mt sgn_pos.1 h1
  by_cases h2 : y.num < 0
  ·have q := both_least hK1 hK (x := -y) (y := -x) (by rw [Rat.neg_num]; omega) (Rat.neg_le_neg h.le) (h.neg h1 h2)
   have q1 := Between_neg x y (-z) K K K (by omega) (by omega) hc g1 (sgn_neg.2 h2) q.1
   have q2 := rfBetween_neg x y (-z) K K K (by omega) (by omega) hc g1 (sgn_neg.2 h2) q.2
   rw [Rat.neg_neg] at q1 q2
   exact ⟨q1, q2⟩
  ·have g2 := mt sgn_neg.1 h2
   obtain rfl := h.zero h1 h2
   exact ⟨zero_up (Between_zero x y K K (by omega) (by omega) hc g1 g2), zero_up (rfBetween_zero x y K K (by omega) (by omega) hc g1 g2)⟩
end Vc
end Go.Proofs.YtpgiebimhnhbiaaGreatDoor

namespace Go.Proofs.YtpgiebimhnhbiaaGreatDoor
open Go.RowKit
open Go.Lib (hid)
open Dg Zn Tx
namespace Vc
set_option maxRecDepth 100000

theorem divInt_le {a b c d : Int} (hb : 0 < b) (hd : 0 < d) : Rat.divInt a b ≤ Rat.divInt c d ↔ a * d ≤ c * b := by
 rw [Rat.le_iff_sub_nonneg, Rat.divInt_sub_divInt _ _ (Int.ne_of_gt hd) (Int.ne_of_gt hb), Rat.divInt_nonneg_iff_of_pos_right (Int.mul_pos hd hb)]
 omega
theorem le_of_cmp {x y : Rat} (h : cmpR x y ≤ 0) : x ≤ y := by
 refine Classical.byContradiction fun k => ?_
 have := cmp_gt k
 omega
theorem SimpR.lo' {x y z : Rat} (h : SimpR x y z) : x ≤ z := (Rat.le_iff _ _).2 h.lo
theorem SimpR.hi' {x y z : Rat} (h : SimpR x y z) : z ≤ y := (Rat.le_iff _ _).2 h.hi
theorem le_cross {x y : Rat} {u v : Int} (hxy : x ≤ y) (hv : 0 < v) (h : u * x.den ≤ x.num * v) : u * y.den ≤ y.num * v := by
 have h1 : Rat.divInt u v ≤ Rat.divInt x.num x.den := (divInt_le hv (den_pos x)).2 h
 rw [Rat.num_divInt_den] at h1
 have h2 := Rat.le_trans h1 hxy
 rw [← Rat.num_divInt_den y] at h2
 exact (divInt_le hv (den_pos y)).1 h2
theorem le_cross' {x y : Rat} {u v : Int} (hxy : x ≤ y) (hv : 0 < v) (h : y.num * v ≤ u * y.den) : x.num * v ≤ u * x.den := by
 have h1 : Rat.divInt y.num y.den ≤ Rat.divInt u v := (divInt_le (den_pos y) hv).2 h
 rw [Rat.num_divInt_den] at h1
 have h2 := Rat.le_trans hxy h1
 rw [← Rat.num_divInt_den x] at h2
 exact (divInt_le (den_pos x) hv).1 h2
theorem SimpR.left {x y z : Rat} (h : SimpR x y z) : SimpR x z z :=
 ⟨h.hq, h.hp, h.lo, Int.le_refl _, fun u v hv h1 h2 => h.min u v hv h1 (le_cross h.hi' hv h2)⟩
theorem SimpR.right {x y z : Rat} (h : SimpR x y z) : SimpR z y z :=
 ⟨h.hq, h.hp, Int.le_refl _, h.hi, fun u v hv h1 h2 => h.min u v hv (le_cross' h.lo' hv h1) h2⟩
theorem cop_dvd {a b c : Int} (h : a ∣ b * c) (hg : Int.gcd a b = 1) : a ∣ c := by
 rw [← Int.natAbs_dvd_natAbs] at h ⊢
 rw [Int.natAbs_mul] at h
 exact Nat.Coprime.dvd_of_dvd_mul_left hg h
theorem SimpR.self {x : Rat} (h : 0 < x.num) : SimpR x x x := by
 refine ⟨h, den_pos x, Int.le_refl _, Int.le_refl _, fun u v hv h1 h2 => ?_⟩
 have e : x.num * v = u * x.den := Int.le_antisymm h1 h2
 have hd := den_pos x
 have hg : Int.gcd x.num x.den = 1 := x.reduced
 have d1 : (x.den : Int) ∣ v := by
  have : (x.den : Int) ∣ x.num * v := ⟨u, by rw [e, Int.mul_comm]⟩
  exact cop_dvd this (by rw [Int.gcd_comm]; exact hg)
 have d2 : x.num ∣ u := by
  have : x.num ∣ x.den * u := ⟨v, by rw [e, Int.mul_comm]⟩
  exact cop_dvd this hg
 have hu : 0 < u := by
  have : 0 < u * x.den := by rw [← e]; exact Int.mul_pos h hv
  exact Int.pos_of_mul_pos_left this hd
 exact ⟨Int.le_of_dvd hu d2, Int.le_of_dvd hv d1⟩
theorem BetR.inside {x y z : Rat} (h : BetR x y z) : x ≤ z ∧ z ≤ y := by
 by_cases h1 : 0 < x.num
 ·exact ⟨(h.pos h1).lo', (h.pos h1).hi'⟩
 ·by_cases h2 : y.num < 0
  ·have k := h.neg h1 h2
   have k1 := Rat.neg_le_neg k.lo'
   have k2 := Rat.neg_le_neg k.hi'
   simp only [Rat.neg_neg] at k1 k2
   exact ⟨k2, k1⟩
  ·rw [h.zero h1 h2]
   constructor
   ·rw [Rat.le_iff]
    show x.num * 1 ≤ 0 * _
    omega
   ·rw [Rat.le_iff]
    show 0 * _ ≤ y.num * 1
    omega
theorem num_pos_le {x y : Rat} (h : x ≤ y) (h1 : 0 < x.num) : 0 < y.num := by
 rw [Rat.le_iff] at h
 have := Int.mul_pos h1 (den_pos y)
 exact Int.pos_of_mul_pos_left (show 0 < y.num * x.den by omega) (den_pos x)
theorem num_neg_le {x y : Rat} (h : x ≤ y) (h1 : y.num < 0) : x.num < 0 := by
 have := num_pos_le (Rat.neg_le_neg h) (by rw [Rat.neg_num]; omega)
 rw [Rat.neg_num] at this
 omega
theorem BetR.left {x y z : Rat} (h : BetR x y z) : BetR x z z := by
 refine ⟨h.inside.1, fun h1 => (h.pos h1).left, fun h1 h2 => ?_, fun h1 h2 => ?_⟩
 ·by_cases h3 : y.num < 0
  ·exact (h.neg h1 h3).right
  ·have := h.zero h1 h3
   subst this
   exact absurd h2 (by decide)
 ·by_cases h3 : y.num < 0
  ·exact absurd (num_neg_le h.inside.2 h3) h2
  ·exact h.zero h1 h3
theorem BetR.right {x y z : Rat} (h : BetR x y z) : BetR z y z := by
 refine ⟨h.inside.2, fun h1 => ?_, fun h1 h2 => ?_, fun h1 h2 => ?_⟩
 ·by_cases h3 : 0 < x.num
  ·exact (h.pos h3).right
  ·by_cases h4 : y.num < 0
   ·have := num_neg_le h.inside.2 h4
    omega
   ·have := h.zero h3 h4
    subst this
    exact absurd h1 (by decide)
 ·by_cases h3 : 0 < x.num
  ·exact absurd (num_pos_le h.inside.1 h3) h1
  ·exact (h.neg h3 h2).left
 ·by_cases h3 : 0 < x.num
  ·exact absurd (num_pos_le h.inside.1 h3) h1
  ·exact h.zero h3 h2
theorem BetR.self (x : Rat) : BetR x x x := by
 refine ⟨Rat.le_refl, fun h => SimpR.self h, fun _ h => SimpR.self (by rw [Rat.neg_num]; omega), fun h1 h2 => ?_⟩
 have : x.num = 0 := by omega
 rw [← Rat.num_divInt_den x, this, Rat.zero_divInt]
theorem BetR.den {x y z : Rat} (h : BetR x y z) {u v : Int} (hv : 0 < v) (h1 : x.num * v ≤ u * x.den) (h2 : u * y.den ≤ y.num * v) : (z.den : Int) ≤ v := by
 by_cases k1 : 0 < x.num
 ·exact ((h.pos k1).min u v hv h1 h2).2
 ·by_cases k2 : y.num < 0
  ·have := ((h.neg k1 k2).min (-u) v hv (by rw [Rat.neg_num, Rat.neg_den, Int.neg_mul, Int.neg_mul]; omega) (by rw [Rat.neg_num, Rat.neg_den, Int.neg_mul, Int.neg_mul]; omega)).2
   rwa [Rat.neg_den] at this
  ·rw [h.zero k1 k2]
   show (1 : Int) ≤ v
   omega
theorem cmp_neg {a b : Int} (h : cmpI a b < 0) : a < b := by
 unfold cmpI at h
 split at h
 ·assumption
 ·split at h <;> omega
theorem bet_step {x y z : Rat} (h : BetR x y z) {n : Int} (hn : 0 < n) (hlt : n < z.den) (hc : cmpR (Rat.divInt (-(-(x * Rat.divInt n 1).num / (x * Rat.divInt n 1).den)) n) y ≤ 0) : False := by
 obtain ⟨u, hu⟩ : ∃ u, u = -(-(x * Rat.divInt n 1).num / (x * Rat.divInt n 1).den) := ⟨_, rfl⟩
 rw [← hu] at hc
 have h1 := (round_facts (x * Rat.divInt n 1) _ u rfl hu).2.2.2
 have h2 : x * Rat.divInt n 1 ≤ Rat.divInt u 1 := le_of_cmp (by rw [cmpR_swap]; omega)
 have e : x * Rat.divInt n 1 = Rat.divInt (x.num * n) (x.den * 1) := by
  conv => lhs; lhs; rw [← Rat.num_divInt_den x]
  rw [Rat.divInt_mul_divInt]
 rw [e, divInt_le (by have := den_pos x; omega) (by decide)] at h2
 simp only [Int.mul_one] at h2
 have h3 := le_of_cmp hc
 rw [← Rat.num_divInt_den y, divInt_le hn (den_pos y)] at h3
 have := h.den hn (u := u) (by omega) h3
 omega

section
variable (l m : List Int)
theorem betweenA_con (h : ¬ numR l ≤ numR m) : Con Tryz.prog 7 [.d (Dm.ints l), .d (Dm.ints m)] (.one (.v (.bool true))) := by
 refine Con.of (n := 127) Tryz.func7 rfl rfl rfl rfl rfl fun cx hfr => ?_
 refine sr rfl ?_
 refine mr rfl rfl bd rfl ?_
 refine RV.done (sr rfl ?_)
 refine ml rfl rfl bd rfl ?_
 refine p1 (ok_call (NumberR_con _) rfl rfl bd Tryz.func39 rfl rfl (.cons rfl Conv.any (.cons rfl Conv.any .nil)) rfl hfr rfl) ?_
 refine p2 (ok_alloc (i := 0) rfl rfl bd zero_rat rfl rfl rfl rfl) ?_
 refine p1 (ok_store rfl rfl rfl rfl rfl rfl rfl (ty_rat).2 rfl rfl rfl rfl) ?_
 refine RV.done (sr rfl ?_)
 refine ml rfl rfl bd rfl ?_
 refine p1 (ok_call (NumberR_con _) rfl rfl bd Tryz.func39 rfl rfl (.cons rfl Conv.any (.cons rfl Conv.any .nil)) rfl hfr rfl) ?_
 refine p2 (ok_alloc (i := 1) rfl rfl bd zero_rat rfl rfl rfl rfl) ?_
 refine p1 (ok_store rfl rfl rfl rfl rfl rfl rfl (ty_rat).2 rfl rfl rfl rfl) ?_
 refine RV.done (sr rfl ?_)
 refine p1 (ok_load rfl rfl bd rfl rfl rfl ty_rat) ?_
 refine p1 (ok_load rfl rfl bd rfl rfl rfl ty_rat) ?_
 refine p1 (ok_call (Between_err _ _ _ _ (by decide) (by decide) (cmp_gt h)) rfl rfl bd Tryz.func64 rfl rfl (.cons rfl Conv.any (.cons rfl Conv.any .nil)) rfl hfr rfl) ?_
 refine ml rfl rfl bd rfl ?_
 refine p1 (ok_extract rfl rfl bd rfl rfl) ?_
 refine p1 (ok_extract rfl rfl bd rfl rfl) ?_
 refine p2 (ok_alloc (i := 2) rfl rfl bd zero_rat rfl rfl rfl rfl) ?_
 refine p1 (ok_store rfl rfl rfl rfl rfl rfl rfl (ty_rat).2 rfl rfl rfl rfl) ?_
 refine mr rfl rfl bd rfl ?_
 refine RV.done (sr rfl ?_)
 refine p1 (ok_load rfl rfl bd rfl rfl rfl ty_rat) ?_
 refine p1 (ok_load rfl rfl bd rfl rfl rfl ty_rat) ?_
 refine p1 (ok_call (rfBetween_err _ _ _ _ (by decide) (by decide) (cmp_gt h)) rfl rfl bd Tryz.func65 rfl rfl (.cons rfl Conv.any (.cons rfl Conv.any .nil)) rfl hfr rfl) ?_
 refine ml rfl rfl bd rfl ?_
 refine p1 (ok_extract rfl rfl bd rfl rfl) ?_
 refine p1 (ok_extract rfl rfl bd rfl rfl) ?_
 refine p2 (ok_alloc (i := 3) rfl rfl bd zero_rat rfl rfl rfl rfl) ?_
 refine p1 (ok_store rfl rfl rfl rfl rfl rfl rfl (ty_rat).2 rfl rfl rfl rfl) ?_
 refine mr rfl rfl bd rfl ?_
 refine RV.done ?_
 refine CV.seq ?_
 refine sr rfl ?_
 refine ml rfl rfl bd rfl ?_
 refine ml rfl rfl bd rfl ?_
 refine p1 (ok_neqF rfl rfl rfl bd rfl rfl) ?_
 refine ml rfl rfl bd rfl ?_
 refine RV.step1 (OpOk.yes (ok_load rfl rfl bd rfl rfl rfl ty_rat) rfl rfl rfl) ?_
 refine RV.step1 (OpOk.yes (ok_load rfl rfl bd rfl rfl rfl ty_rat) rfl rfl rfl) ?_
 refine RV.step1 (OpOk.yes (ok_call (same5T_con (a := 0) (b := 0) rfl) rfl rfl bd Tryz.func32 rfl rfl (.cons rfl Conv.any (.cons rfl Conv.any .nil)) rfl hfr rfl) rfl rfl rfl) ?_
 refine RV.step1 (OpOk.yes (ok_not rfl rfl bd rfl) rfl rfl rfl) ?_
 refine p1 (ok_pickF rfl rfl bd rfl rfl rfl) ?_
 refine RV.done ?_
 refine CV.no rfl ?_
 refine CV.skip ?_
 refine CV.seq ?_
 refine sr rfl ?_
 refine ml rfl rfl bd rfl ?_
 refine p1 (ok_neq rfl rfl bd rfl rfl) ?_
 refine RV.done ?_
 refine CV.cond rfl (fun hc => ?_) (fun hc => False.elim (by simp at hc))
 refine sr rfl ?_
 refine p1 (ok_call (lives5_con) rfl rfl bd Tryz.func38 rfl rfl .nil rfl hfr rfl) ?_
 refine mr rfl rfl bd rfl ?_
 refine RV.done ?_
 refine CV.ret ?_
 exact fin1 rfl (.inr rfl) rfl is_rfl
theorem betweenB_con (z : Rat) (h : BetR (numR l) (numR m) z) : Con Tryz.prog 7 [.d (Dm.ints l), .d (Dm.ints m)] (.one (.v (.bool true))) := by
 refine Con.of (n := 127) Tryz.func7 rfl rfl rfl rfl rfl fun cx hfr => ?_
 refine sr rfl ?_
 refine mr rfl rfl bd rfl ?_
 refine RV.done (sr rfl ?_)
 refine ml rfl rfl bd rfl ?_
 refine p1 (ok_call (NumberR_con _) rfl rfl bd Tryz.func39 rfl rfl (.cons rfl Conv.any (.cons rfl Conv.any .nil)) rfl hfr rfl) ?_
 refine p2 (ok_alloc (i := 0) rfl rfl bd zero_rat rfl rfl rfl rfl) ?_
 refine p1 (ok_store rfl rfl rfl rfl rfl rfl rfl (ty_rat).2 rfl rfl rfl rfl) ?_
 refine RV.done (sr rfl ?_)
 refine ml rfl rfl bd rfl ?_
 refine p1 (ok_call (NumberR_con _) rfl rfl bd Tryz.func39 rfl rfl (.cons rfl Conv.any (.cons rfl Conv.any .nil)) rfl hfr rfl) ?_
 refine p2 (ok_alloc (i := 1) rfl rfl bd zero_rat rfl rfl rfl rfl) ?_
 refine p1 (ok_store rfl rfl rfl rfl rfl rfl rfl (ty_rat).2 rfl rfl rfl rfl) ?_
 refine RV.done (sr rfl ?_)
 refine p1 (ok_load rfl rfl bd rfl rfl rfl ty_rat) ?_
 refine p1 (ok_load rfl rfl bd rfl rfl rfl ty_rat) ?_
 refine p1 (ok_call ((Bet_con (by decide) (by decide) h).1) rfl rfl bd Tryz.func64 rfl rfl (.cons rfl Conv.any (.cons rfl Conv.any .nil)) rfl hfr rfl) ?_
 refine ml rfl rfl bd rfl ?_
 refine p1 (ok_extract rfl rfl bd rfl rfl) ?_
 refine p1 (ok_extract rfl rfl bd rfl rfl) ?_
 refine p2 (ok_alloc (i := 2) rfl rfl bd zero_rat rfl rfl rfl rfl) ?_
 refine p1 (ok_store rfl rfl rfl rfl rfl rfl rfl (ty_rat).2 rfl rfl rfl rfl) ?_
 refine mr rfl rfl bd rfl ?_
 refine RV.done (sr rfl ?_)
 refine p1 (ok_load rfl rfl bd rfl rfl rfl ty_rat) ?_
 refine p1 (ok_load rfl rfl bd rfl rfl rfl ty_rat) ?_
 refine p1 (ok_call ((Bet_con (by decide) (by decide) h).2) rfl rfl bd Tryz.func65 rfl rfl (.cons rfl Conv.any (.cons rfl Conv.any .nil)) rfl hfr rfl) ?_
 refine ml rfl rfl bd rfl ?_
 refine p1 (ok_extract rfl rfl bd rfl rfl) ?_
 refine p1 (ok_extract rfl rfl bd rfl rfl) ?_
 refine p2 (ok_alloc (i := 3) rfl rfl bd zero_rat rfl rfl rfl rfl) ?_
 refine p1 (ok_store rfl rfl rfl rfl rfl rfl rfl (ty_rat).2 rfl rfl rfl rfl) ?_
 refine mr rfl rfl bd rfl ?_
 refine RV.done ?_
 refine CV.seq ?_
 refine sr rfl ?_
 refine ml rfl rfl bd rfl ?_
 refine ml rfl rfl bd rfl ?_
 refine p1 (ok_neqF rfl rfl rfl bd rfl rfl) ?_
 refine ml rfl rfl bd rfl ?_
 refine RV.step1 (OpOk.yes (ok_load rfl rfl bd rfl rfl rfl ty_rat) rfl rfl rfl) ?_
 refine RV.step1 (OpOk.yes (ok_load rfl rfl bd rfl rfl rfl ty_rat) rfl rfl rfl) ?_
 refine RV.step1 (OpOk.yes (ok_call (same5T_con rfl) rfl rfl bd Tryz.func32 rfl rfl (.cons rfl Conv.any (.cons rfl Conv.any .nil)) rfl hfr rfl) rfl rfl rfl) ?_
 refine RV.step1 (OpOk.yes (ok_not rfl rfl bd rfl) rfl rfl rfl) ?_
 refine p1 (ok_pickF rfl rfl bd rfl rfl rfl) ?_
 refine RV.done ?_
 refine CV.no rfl ?_
 refine CV.skip ?_
 refine CV.seq ?_
 refine sr rfl ?_
 refine ml rfl rfl bd rfl ?_
 refine p1 (ok_neq rfl rfl bd rfl rfl) ?_
 refine RV.done ?_
 refine CV.cond rfl (fun hc => False.elim (by simp at hc)) (fun hc => ?_)
 refine CV.skip ?_
 refine CV.seq ?_
 refine sr rfl ?_
 refine mr rfl rfl bd rfl ?_
 refine RV.done ?_
 refine CV.block ?_
 refine CV.loop (X := {n : Nat // 1 ≤ n ∧ n ≤ 60}) (fun n => [(.s 11, .av (.one (.v (.int .i64 (n.1 : Int))))), (.s 5, .av (.one (.ptr 0 0))), (.s 6, .av (.one (.ptr 1 0))), (.s 7, .av (.one (.ptr 2 0))), (.b 0, .blk 45 [(some 4, RT (numR l) 14)]), (.b 1, .blk 45 [(some 4, RT (numR m) 14)]), (.b 2, .blk 45 [(some 4, RT z 14)])]) (fun n => 60 - n.1) ⟨1, by decide, by decide⟩ (Sub.mk ⟨XV.le_rfl _, XV.le_rfl _, XV.le_rfl _, XV.le_rfl _, XV.le_rfl _, XV.le_rfl _, XV.le_rfl _, trivial⟩ rfl rfl) (fun n => ?_)
 obtain ⟨n, hn1, hn2⟩ := n
 simp only
 refine CV.seq ?_
 refine sr rfl ?_
 refine ml rfl rfl bd rfl ?_
 refine p1 (ok_lss rfl rfl bd rfl rfl) ?_
 refine RV.done ?_
 refine CV.cond rfl (fun h1 => ?_) (fun h1 => ?_)
 ·refine CV.skip ?_
  refine CV.seq ?_
  refine CV.block ?_
  refine CV.seq ?_
  refine CV.seq ?_
  refine CV.region rfl (fun _ => by kernel_rfl) ?_
  refine ml rfl rfl bd rfl ?_
  refine p1 (ok_call (rOf_con _ (by omega) (by omega)) rfl rfl bd Tryz.func29 rfl rfl (.cons rfl Conv.any .nil) rfl hfr rfl) ?_
  refine p1 (ok_load rfl rfl bd rfl rfl rfl ty_rat) ?_
  refine p1 (ok_call (rDen_con' _ _) rfl rfl bd Tryz.func28 rfl rfl (.cons rfl Conv.any .nil) rfl hfr rfl) ?_
  refine p1 (ok_call (rCompare_con _ _) rfl rfl bd Tryz.func66 rfl rfl (.cons rfl Conv.any (.cons rfl Conv.any .nil)) rfl hfr rfl) ?_
  refine p1 (ok_geq rfl rfl bd rfl rfl) ?_
  refine RV.drawn (by kernel_rfl) ?_
  refine CV.cond rfl (fun h2 => ?_) (fun h2 => ?_)
  ·refine CV.exit ?_
   refine sr rfl ?_
   refine p1 (ok_load rfl rfl bd rfl rfl rfl ty_rat) ?_
   refine p1 (ok_load rfl rfl bd rfl rfl rfl ty_rat) ?_
   refine p1 (ok_call ((Bet_con (by decide) (by decide) h.left).1) rfl rfl bd Tryz.func64 rfl rfl (.cons rfl Conv.any (.cons rfl Conv.any .nil)) rfl hfr rfl) ?_
   refine ml rfl rfl bd rfl ?_
   refine p1 (ok_extract rfl rfl bd rfl rfl) ?_
   refine p1 (ok_extract rfl rfl bd rfl rfl) ?_
   refine p2 (ok_alloc (i := 4) rfl rfl bd zero_rat rfl rfl rfl rfl) ?_
   refine p1 (ok_store rfl rfl rfl rfl rfl rfl rfl (ty_rat).2 rfl rfl rfl rfl) ?_
   refine mr rfl rfl bd rfl ?_
   refine RV.done (sr rfl ?_)
   refine p1 (ok_load rfl rfl bd rfl rfl rfl ty_rat) ?_
   refine p1 (ok_load rfl rfl bd rfl rfl rfl ty_rat) ?_
   refine p1 (ok_call ((Bet_con (by decide) (by decide) h.right).1) rfl rfl bd Tryz.func64 rfl rfl (.cons rfl Conv.any (.cons rfl Conv.any .nil)) rfl hfr rfl) ?_
   refine ml rfl rfl bd rfl ?_
   refine p1 (ok_extract rfl rfl bd rfl rfl) ?_
   refine p1 (ok_extract rfl rfl bd rfl rfl) ?_
   refine p2 (ok_alloc (i := 5) rfl rfl bd zero_rat rfl rfl rfl rfl) ?_
   refine p1 (ok_store rfl rfl rfl rfl rfl rfl rfl (ty_rat).2 rfl rfl rfl rfl) ?_
   refine mr rfl rfl bd rfl ?_
   refine RV.done (sr rfl ?_)
   refine p1 (ok_load rfl rfl bd rfl rfl rfl ty_rat) ?_
   refine p1 (ok_load rfl rfl bd rfl rfl rfl ty_rat) ?_
   refine p1 (ok_call ((Bet_con (by decide) (by decide) (BetR.self _)).1) rfl rfl bd Tryz.func64 rfl rfl (.cons rfl Conv.any (.cons rfl Conv.any .nil)) rfl hfr rfl) ?_
   refine ml rfl rfl bd rfl ?_
   refine p1 (ok_extract rfl rfl bd rfl rfl) ?_
   refine p1 (ok_extract rfl rfl bd rfl rfl) ?_
   refine p2 (ok_alloc (i := 6) rfl rfl bd zero_rat rfl rfl rfl rfl) ?_
   refine p1 (ok_store rfl rfl rfl rfl rfl rfl rfl (ty_rat).2 rfl rfl rfl rfl) ?_
   refine mr rfl rfl bd rfl ?_
   refine RV.done (sr rfl ?_)
   refine ml rfl rfl bd rfl ?_
   refine p1 (ok_eqlT rfl rfl rfl bd rfl rfl) ?_
   refine ml rfl rfl bd rfl ?_
   refine RV.step1 (OpOk.yes (ok_move (.inl rfl) rfl bd rfl) rfl rfl rfl) ?_
   refine RV.step1 (OpOk.yes (ok_eqlT rfl rfl rfl bd rfl rfl) rfl rfl rfl) ?_
   refine p1 (ok_pickT rfl rfl bd rfl rfl rfl) ?_
   refine ml rfl rfl bd rfl ?_
   refine RV.step1 (OpOk.yes (ok_move (.inl rfl) rfl bd rfl) rfl rfl rfl) ?_
   refine RV.step1 (OpOk.yes (ok_eqlT rfl rfl rfl bd rfl rfl) rfl rfl rfl) ?_
   refine p1 (ok_pickT rfl rfl bd rfl rfl rfl) ?_
   refine ml rfl rfl bd rfl ?_
   refine RV.step1 (OpOk.yes (ok_load rfl rfl bd rfl rfl rfl ty_rat) rfl rfl rfl) ?_
   refine RV.step1 (OpOk.yes (ok_load rfl rfl bd rfl rfl rfl ty_rat) rfl rfl rfl) ?_
   refine RV.step1 (OpOk.yes (ok_call (same5T_con rfl) rfl rfl bd Tryz.func32 rfl rfl (.cons rfl Conv.any (.cons rfl Conv.any .nil)) rfl hfr rfl) rfl rfl rfl) ?_
   refine p1 (ok_pickT rfl rfl bd rfl rfl rfl) ?_
   refine ml rfl rfl bd rfl ?_
   refine RV.step1 (OpOk.yes (ok_load rfl rfl bd rfl rfl rfl ty_rat) rfl rfl rfl) ?_
   refine RV.step1 (OpOk.yes (ok_load rfl rfl bd rfl rfl rfl ty_rat) rfl rfl rfl) ?_
   refine RV.step1 (OpOk.yes (ok_call (same5T_con rfl) rfl rfl bd Tryz.func32 rfl rfl (.cons rfl Conv.any (.cons rfl Conv.any .nil)) rfl hfr rfl) rfl rfl rfl) ?_
   refine p1 (ok_pickT rfl rfl bd rfl rfl rfl) ?_
   refine ml rfl rfl bd rfl ?_
   refine RV.step1 (OpOk.yes (ok_load rfl rfl bd rfl rfl rfl ty_rat) rfl rfl rfl) ?_
   refine RV.step1 (OpOk.yes (ok_load rfl rfl bd rfl rfl rfl ty_rat) rfl rfl rfl) ?_
   refine RV.step1 (OpOk.yes (ok_call (same5T_con rfl) rfl rfl bd Tryz.func32 rfl rfl (.cons rfl Conv.any (.cons rfl Conv.any .nil)) rfl hfr rfl) rfl rfl rfl) ?_
   refine p1 (ok_pickT rfl rfl bd rfl rfl rfl) ?_
   refine ml rfl rfl bd rfl ?_
   refine RV.step1 (OpOk.yes (ok_load rfl rfl bd rfl rfl rfl ty_rat) rfl rfl rfl) ?_
   refine RV.step1 (OpOk.yes (ok_load rfl rfl bd rfl rfl rfl ty_rat) rfl rfl rfl) ?_
   refine RV.step1 (OpOk.yes (ok_call (RCompare_con _ _ _ _ (by decide) (by decide)) rfl rfl bd Tryz.func50 rfl rfl (.cons rfl Conv.any (.cons rfl Conv.any .nil)) rfl hfr rfl) rfl rfl rfl) ?_
   refine RV.step1 (OpOk.yes (ok_leqT (by have := cmp_le h.inside.1; omega) rfl rfl bd rfl rfl) rfl rfl rfl) ?_
   refine p1 (ok_pickT rfl rfl bd rfl rfl rfl) ?_
   refine ml rfl rfl bd rfl ?_
   refine RV.step1 (OpOk.yes (ok_load rfl rfl bd rfl rfl rfl ty_rat) rfl rfl rfl) ?_
   refine RV.step1 (OpOk.yes (ok_load rfl rfl bd rfl rfl rfl ty_rat) rfl rfl rfl) ?_
   refine RV.step1 (OpOk.yes (ok_call (RCompare_con _ _ _ _ (by decide) (by decide)) rfl rfl bd Tryz.func50 rfl rfl (.cons rfl Conv.any (.cons rfl Conv.any .nil)) rfl hfr rfl) rfl rfl rfl) ?_
   refine RV.step1 (OpOk.yes (ok_leqT (by have := cmp_le h.inside.2; omega) rfl rfl bd rfl rfl) rfl rfl rfl) ?_
   refine p1 (ok_pickT rfl rfl bd rfl rfl rfl) ?_
   refine ml rfl rfl bd rfl ?_
   refine RV.step1 (OpOk.yes (ok_call (lives5_con) rfl rfl bd Tryz.func38 rfl rfl .nil rfl hfr rfl) rfl rfl rfl) ?_
   refine p1 (ok_pickT rfl rfl bd rfl rfl rfl) ?_
   refine mr rfl rfl bd rfl ?_
   refine RV.done ?_
   refine CV.ret ?_
   exact fin1 rfl (.inr rfl) rfl is_rfl
  ·refine CV.skip ?_
   refine CV.seq ?_
   refine CV.region rfl (fun _ => by kernel_rfl) ?_
   refine p1 (ok_load rfl rfl bd rfl rfl rfl ty_rat) ?_
   refine ml rfl rfl bd rfl ?_
   refine p1 (ok_call (rfOf_con _ _ (by omega) (by omega) (by decide) (by decide)) rfl rfl bd Tryz.func35 rfl rfl (.cons rfl Conv.any (.cons rfl Conv.any .nil)) rfl hfr rfl) ?_
   refine p1 (ok_call (rfMul_con _ _ _ _ (by decide) (by decide)) rfl rfl bd Tryz.func45 rfl rfl (.cons rfl Conv.any (.cons rfl Conv.any .nil)) rfl hfr rfl) ?_
   refine p1 (ok_call (rfCeil_con _ _ (by decide)) rfl rfl bd Tryz.func61 rfl rfl (.cons rfl Conv.any .nil) rfl hfr rfl) ?_
   refine p2 (ok_alloc (i := 4) rfl rfl bd zero_int rfl rfl rfl rfl) ?_
   refine p1 (ok_store rfl rfl rfl rfl rfl rfl rfl (ty_int).2 rfl rfl rfl rfl) ?_
   refine RV.drawn (by kernel_rfl) ?_
   refine CV.seq ?_
   refine CV.region rfl (fun _ => by kernel_rfl) ?_
   refine p1 (ok_load rfl rfl bd rfl rfl rfl ty_int) ?_
   refine ml rfl rfl bd rfl ?_
   refine p1 (ok_call (rOf_con _ (by omega) (by omega)) rfl rfl bd Tryz.func29 rfl rfl (.cons rfl Conv.any .nil) rfl hfr rfl) ?_
   refine p1 (ok_call (rMake_con _ _ _ _ (by decide) (by decide)) rfl rfl bd Tryz.func25 rfl rfl (.cons rfl Conv.any (.cons rfl Conv.any .nil)) rfl hfr rfl) ?_
   refine p1 (ok_load rfl rfl bd rfl rfl rfl ty_rat) ?_
   refine p1 (ok_call (rfCompare_con _ _ _ _ (by decide) (by decide)) rfl rfl bd Tryz.func51 rfl rfl (.cons rfl Conv.any (.cons rfl Conv.any .nil)) rfl hfr rfl) ?_
   refine p1 (ok_leq rfl rfl bd rfl rfl) ?_
   refine RV.drawn (by kernel_rfl) ?_
   refine CV.cond rfl (fun hc => False.elim (by exact bet_step (n := (n : Int)) h (by omega) (cmp_neg (by simpa using h2)) (by simpa using hc))) (fun hc => ?_)
   refine CV.skip ?_
   refine CV.region rfl (fun h => nomatch h) ?_
   refine ml rfl rfl bd rfl ?_
   refine p1 (ok_add (c := ((n + 1 : Nat) : Int)) (by rw [wrapI (by omega) (by omega)]; omega) rfl rfl bd rfl rfl) ?_
   refine mr rfl rfl bd rfl ?_
   refine RV.done ?_
   have hlt : n < 60 := (by have : (n : Int) < 60 := (by simpa using h1); omega)
   exact ⟨⟨n + 1, by omega, by omega⟩, Sub.mk ⟨XV.le_rfl _, XV.le_rfl _, XV.le_rfl _, XV.le_rfl _, XV.le_rfl _, XV.le_rfl _, XV.le_rfl _, trivial⟩ rfl rfl, by show 60 - (n + 1) < 60 - n; omega⟩
 ·refine CV.exit ?_
  refine sr rfl ?_
  refine p1 (ok_load rfl rfl bd rfl rfl rfl ty_rat) ?_
  refine p1 (ok_load rfl rfl bd rfl rfl rfl ty_rat) ?_
  refine p1 (ok_call ((Bet_con (by decide) (by decide) h.left).1) rfl rfl bd Tryz.func64 rfl rfl (.cons rfl Conv.any (.cons rfl Conv.any .nil)) rfl hfr rfl) ?_
  refine ml rfl rfl bd rfl ?_
  refine p1 (ok_extract rfl rfl bd rfl rfl) ?_
  refine p1 (ok_extract rfl rfl bd rfl rfl) ?_
  refine p2 (ok_alloc (i := 4) rfl rfl bd zero_rat rfl rfl rfl rfl) ?_
  refine p1 (ok_store rfl rfl rfl rfl rfl rfl rfl (ty_rat).2 rfl rfl rfl rfl) ?_
  refine mr rfl rfl bd rfl ?_
  refine RV.done (sr rfl ?_)
  refine p1 (ok_load rfl rfl bd rfl rfl rfl ty_rat) ?_
  refine p1 (ok_load rfl rfl bd rfl rfl rfl ty_rat) ?_
  refine p1 (ok_call ((Bet_con (by decide) (by decide) h.right).1) rfl rfl bd Tryz.func64 rfl rfl (.cons rfl Conv.any (.cons rfl Conv.any .nil)) rfl hfr rfl) ?_
  refine ml rfl rfl bd rfl ?_
  refine p1 (ok_extract rfl rfl bd rfl rfl) ?_
  refine p1 (ok_extract rfl rfl bd rfl rfl) ?_
  refine p2 (ok_alloc (i := 5) rfl rfl bd zero_rat rfl rfl rfl rfl) ?_
  refine p1 (ok_store rfl rfl rfl rfl rfl rfl rfl (ty_rat).2 rfl rfl rfl rfl) ?_
  refine mr rfl rfl bd rfl ?_
  refine RV.done (sr rfl ?_)
  refine p1 (ok_load rfl rfl bd rfl rfl rfl ty_rat) ?_
  refine p1 (ok_load rfl rfl bd rfl rfl rfl ty_rat) ?_
  refine p1 (ok_call ((Bet_con (by decide) (by decide) (BetR.self _)).1) rfl rfl bd Tryz.func64 rfl rfl (.cons rfl Conv.any (.cons rfl Conv.any .nil)) rfl hfr rfl) ?_
  refine ml rfl rfl bd rfl ?_
  refine p1 (ok_extract rfl rfl bd rfl rfl) ?_
  refine p1 (ok_extract rfl rfl bd rfl rfl) ?_
  refine p2 (ok_alloc (i := 6) rfl rfl bd zero_rat rfl rfl rfl rfl) ?_
  refine p1 (ok_store rfl rfl rfl rfl rfl rfl rfl (ty_rat).2 rfl rfl rfl rfl) ?_
  refine mr rfl rfl bd rfl ?_
  refine RV.done (sr rfl ?_)
  refine ml rfl rfl bd rfl ?_
  refine p1 (ok_eqlT rfl rfl rfl bd rfl rfl) ?_
  refine ml rfl rfl bd rfl ?_
  refine RV.step1 (OpOk.yes (ok_move (.inl rfl) rfl bd rfl) rfl rfl rfl) ?_
  refine RV.step1 (OpOk.yes (ok_eqlT rfl rfl rfl bd rfl rfl) rfl rfl rfl) ?_
  refine p1 (ok_pickT rfl rfl bd rfl rfl rfl) ?_
  refine ml rfl rfl bd rfl ?_
  refine RV.step1 (OpOk.yes (ok_move (.inl rfl) rfl bd rfl) rfl rfl rfl) ?_
  refine RV.step1 (OpOk.yes (ok_eqlT rfl rfl rfl bd rfl rfl) rfl rfl rfl) ?_
  refine p1 (ok_pickT rfl rfl bd rfl rfl rfl) ?_
  refine ml rfl rfl bd rfl ?_
  refine RV.step1 (OpOk.yes (ok_load rfl rfl bd rfl rfl rfl ty_rat) rfl rfl rfl) ?_
  refine RV.step1 (OpOk.yes (ok_load rfl rfl bd rfl rfl rfl ty_rat) rfl rfl rfl) ?_
  refine RV.step1 (OpOk.yes (ok_call (same5T_con rfl) rfl rfl bd Tryz.func32 rfl rfl (.cons rfl Conv.any (.cons rfl Conv.any .nil)) rfl hfr rfl) rfl rfl rfl) ?_
  refine p1 (ok_pickT rfl rfl bd rfl rfl rfl) ?_
  refine ml rfl rfl bd rfl ?_
  refine RV.step1 (OpOk.yes (ok_load rfl rfl bd rfl rfl rfl ty_rat) rfl rfl rfl) ?_
  refine RV.step1 (OpOk.yes (ok_load rfl rfl bd rfl rfl rfl ty_rat) rfl rfl rfl) ?_
  refine RV.step1 (OpOk.yes (ok_call (same5T_con rfl) rfl rfl bd Tryz.func32 rfl rfl (.cons rfl Conv.any (.cons rfl Conv.any .nil)) rfl hfr rfl) rfl rfl rfl) ?_
  refine p1 (ok_pickT rfl rfl bd rfl rfl rfl) ?_
  refine ml rfl rfl bd rfl ?_
  refine RV.step1 (OpOk.yes (ok_load rfl rfl bd rfl rfl rfl ty_rat) rfl rfl rfl) ?_
  refine RV.step1 (OpOk.yes (ok_load rfl rfl bd rfl rfl rfl ty_rat) rfl rfl rfl) ?_
  refine RV.step1 (OpOk.yes (ok_call (same5T_con rfl) rfl rfl bd Tryz.func32 rfl rfl (.cons rfl Conv.any (.cons rfl Conv.any .nil)) rfl hfr rfl) rfl rfl rfl) ?_
  refine p1 (ok_pickT rfl rfl bd rfl rfl rfl) ?_
  refine ml rfl rfl bd rfl ?_
  refine RV.step1 (OpOk.yes (ok_load rfl rfl bd rfl rfl rfl ty_rat) rfl rfl rfl) ?_
  refine RV.step1 (OpOk.yes (ok_load rfl rfl bd rfl rfl rfl ty_rat) rfl rfl rfl) ?_
  refine RV.step1 (OpOk.yes (ok_call (RCompare_con _ _ _ _ (by decide) (by decide)) rfl rfl bd Tryz.func50 rfl rfl (.cons rfl Conv.any (.cons rfl Conv.any .nil)) rfl hfr rfl) rfl rfl rfl) ?_
  refine RV.step1 (OpOk.yes (ok_leqT (by have := cmp_le h.inside.1; omega) rfl rfl bd rfl rfl) rfl rfl rfl) ?_
  refine p1 (ok_pickT rfl rfl bd rfl rfl rfl) ?_
  refine ml rfl rfl bd rfl ?_
  refine RV.step1 (OpOk.yes (ok_load rfl rfl bd rfl rfl rfl ty_rat) rfl rfl rfl) ?_
  refine RV.step1 (OpOk.yes (ok_load rfl rfl bd rfl rfl rfl ty_rat) rfl rfl rfl) ?_
  refine RV.step1 (OpOk.yes (ok_call (RCompare_con _ _ _ _ (by decide) (by decide)) rfl rfl bd Tryz.func50 rfl rfl (.cons rfl Conv.any (.cons rfl Conv.any .nil)) rfl hfr rfl) rfl rfl rfl) ?_
  refine RV.step1 (OpOk.yes (ok_leqT (by have := cmp_le h.inside.2; omega) rfl rfl bd rfl rfl) rfl rfl rfl) ?_
  refine p1 (ok_pickT rfl rfl bd rfl rfl rfl) ?_
  refine ml rfl rfl bd rfl ?_
  refine RV.step1 (OpOk.yes (ok_call (lives5_con) rfl rfl bd Tryz.func38 rfl rfl .nil rfl hfr rfl) rfl rfl rfl) ?_
  refine p1 (ok_pickT rfl rfl bd rfl rfl rfl) ?_
  refine mr rfl rfl bd rfl ?_
  refine RV.done ?_
  refine CV.ret ?_
  exact fin1 rfl (.inr rfl) rfl is_rfl
theorem between_law : Con Tryz.prog 7 [.d (Dm.ints l), .d (Dm.ints m)] (.one (.v (.bool true))) := by
 by_cases h : numR l ≤ numR m
 ·obtain ⟨z, hz⟩ := bet_ex h
  exact betweenB_con l m z hz
 ·exact betweenA_con l m h
end
end Vc
end Go.Proofs.YtpgiebimhnhbiaaGreatDoor
