/-
  gantrylaw01.WireIntRoundTrip answers yes.
-/
import Derived.Test.YtpdphbliaibkhaaWireS
import Derived.ArgAppend
namespace Go.Proofs.Ytpdphbliaibkhaa
open Go.RowKit
open Go.Lib (hid)
open W

theorem run_append_nothing (w : World) (ty : TypeId) (b : Addr) (n cap c : Nat) (ao : Option Addr) (hn : n ≤ cap) :
    (Builtin.append_ #[28, 28] ty #[.slice (some b) n cap, .slice ao 0 c]).run Try.prog w = .ok (.slice (some b) n cap) w := by
  obtain ⟨i0, hi, hz0, hz1, hz2⟩ := info_parts Try.info5
  cases ao with
  | none => simp [Builtin.append_, run_underlying Try.under28, sizeOf, typeInfo, hi, Builtin.lenOf, Builtin.firstCells, hn, storeCells]
  | some a => simp [Builtin.append_, run_underlying Try.under28, sizeOf, typeInfo, hi, Builtin.lenOf, Builtin.firstCells, hn, storeCells, loadCells, loadCellsFrom]

theorem wpList_append_nothing {w : World} {ops : Array Oper} {rest : List Oper} {o : Oper} {a : Act} {Q : Exit → Act → World → Prop} (hgd : o.guard = none) (s x : Operand)
    (ho : o.op = .call { callee := .builtin .append, args := #[s, x], argTypes := #[28, 28] })
    (b : Addr) (n cap c : Nat) (ao : Option Addr) (hn : n ≤ cap) (hs : a.eval s = .slice (some b) n cap) (hx : a.eval x = .slice ao 0 c)
    (h : wpList Try.prog ops Q rest (a.put o.dst (.slice (some b) n cap)) w) : wpList Try.prog ops Q (o :: rest) a w := by
  refine wpList_plain hgd fun K hK => ?_
  have hrun := run_append_nothing w o.type b n cap c ao hn
  unfold Oper.wp
  simp [execOp, ho, resolve, invoke, builtin, hs, hx, hrun, Result.andThen]
  exact hK _ _ h

theorem owned_slice {w : World} {base : Nat} {E : TypeId} {v : Value} {n : Nat} {xs : List Value} (h : w.ownsRow base E 1 v n xs) (hn : 0 < n) : ∃ g cap, v = .slice (some ⟨g, 0, none⟩) n cap ∧ n ≤ cap ∧ cap ≤ maxLen := by
  rcases h.2 with ⟨_, h0⟩ | ⟨g, cap, cur, rfl, _, _, h1, h2, _⟩
  · omega
  · exact ⟨g, cap, rfl, h1, h2⟩

theorem run_cut_hm (g len cap n : Nat) (hn : n ≤ cap) (h0 : 0 < n) (w : World) :
    (Instr.slice 28 (.slice (some ⟨g, 0, none⟩) len cap) none (some (.int .i64 n)) (some (.int .i64 n))).run Try.prog w = .ok (.slice (some ⟨g, 0, none⟩) n n) w := by
  rw [run_slice_hm w _ _ _ _ Try.under28e _ _ _ _ (by omega) (by omega) (by omega), Try.size5]
  simp only [Result.andThen, Int.toNat_natCast, sliced, Nat.sub_zero]
  rw [if_neg (by omega), Option.map_some, Addr.add_lit]

theorem View.recap {w : World} {ao : Option Addr} {n m c c' size : Nat} {cells : List Value} (h : View w (.slice ao n c) size n cells) (hm : m = n) (hc : n ≤ c' ∧ c' ≤ maxLen := by exact ⟨by omega, by assumption⟩) : View w (.slice ao m c') size n cells := by
  subst hm
  obtain ⟨hl, ao', cap, hsh, h1, h2, hcc⟩ := h
  simp only [Value.slice.injEq, true_and] at hsh
  obtain ⟨rfl, rfl⟩ := hsh
  exact ⟨hl, _, c', rfl, hc.1, hc.2, hcc⟩

theorem cells_at {w : World} {b off : Nat} {ts : List Int} (h : ∀ i, i < ts.length → w.cell? ⟨b, off + i, none⟩ = some (.int .u8 (ts.getD i 0))) : ∀ j u, (ts.map (Value.int .u8))[j]? = some u → w.cell? ((⟨b, off, none⟩ : Addr).add j) = some u := by
  intro j u hu
  rw [List.getElem?_map] at hu
  cases hi : ts[j]? with
  | none => rw [hi] at hu; simp at hu
  | some z =>
    rw [hi] at hu
    simp at hu
    subst hu
    rw [Addr.add_lit, h j (List.getElem?_eq_some_iff.1 hi).1, List.getD_eq_getElem?_getD, hi]
    rfl

set_option maxHeartbeats 800000 in
theorem roundTrip_any (n : Int) (tv : Value) (ts : List Int) (w : World) (h1 : n ≤ 9223372036854775807) (h2 : -9223372036854775808 ≤ n) (hv : ByteView w tv ts) :
    Calls Try.prog 6 #[.int .i64 n, tv] w fun e w' => e = .returned (.bool true) ∧ Below w.heap.size w w' := by
  have HV := hid hv
  have hle := hv.le
  obtain ⟨_, ao, cap, rfl, hlc, hcm, hcells⟩ := hv
  unfold maxLen at hcm
  by_cases hbig : 2000 < ts.length
  · go_enter Try.func6, Try.ntmps6
    go_wp2_with fail
    refine (sanity_yes w).mono ?_
    rintro e w1 ⟨rfl, hb⟩
    have HB := hid hb
    clear hb
    go_wp2
    go_ret
    exact ⟨rfl, HB.out⟩
  · go_enter Try.func6, Try.ntmps6
    go_wp2_with fail
    refine (Int_fresh n w h1 h2).mono ?_
    rintro e w1 ⟨v1, rfl, ho1, hb1⟩
    have hpos : 0 < (code n).length := by rw [code_length]; omega
    have hc9 := code_le n
    obtain ⟨g, c1, rfl, hgc, hcm1⟩ := owned_slice ho1 hpos
    unfold maxLen at hcm1
    have HO1 := hid ho1
    have HB1 := hid hb1
    have HDC := hid (dec_code n h2 h1 ts)
    clear ho1 hb1
    obtain ⟨L, hL⟩ : ∃ L, L = (code n).length := ⟨_, rfl⟩
    rw [← hL] at hpos hc9 hgc HDC ⊢
    have HL := hid hL
    clear hL
    have hcut := fun W => run_cut_hm g L c1 L hgc hpos W
    by_cases ht0 : ts.length = 0
    · have hts : ts = [] := List.length_eq_zero_iff.1 ht0
      have HTS := hid hts
      clear hts
      have HV2 := hid (show ByteView w1 (.slice (some ⟨g, 0, none⟩) L L) (code n ++ ts) by
        rw [HTS.out, List.append_nil]
        exact ((View.of_owns HO1.out).recap HL.out ⟨by rw [← HL.out]; omega, by unfold maxLen; omega⟩).bytes (code_bs n))
      rw [ht0] at hle hbig ⊢
      clear ht0 hle
      go_wp2_with (at_builtin; go_must (refine wpList_append_nothing rfl (.tmp 21) (.tmp 22) rfl ⟨g, 0, none⟩ L L cap ao (Nat.le_refl _) rfl rfl ?_))
      have HB2 := hid (show Below w.heap.size w w1 from HB1.out)
      go_wp2_with fail
      refine (GetInt_any _ (code n ++ ts) _ HV2.out).mono ?_
      rw [HDC.out]
      rintro e w3 ⟨rfl, rfl⟩
      go_wp2_with fail
      refine (sanity_yes _).mono ?_
      rintro e w4 ⟨rfl, hb4⟩
      have HB4 := hid (further HB2.out hb4)
      clear hb4
      go_wp2
      go_ret
      refine ⟨?_, HB4.out⟩
      simp
      omega
    · obtain ⟨i0, hi, hz0, hz1, hz2⟩ := info_parts Try.info5
      obtain ⟨b, off, rfl, hcell⟩ := hcells (by rintro rfl; simp at ht0)
      have HCE := hid (fun i hi => below_keep HB1.out (hcell i hi))
      clear hcell
      go_wp2_with (at_builtin; go_must (refine wpList_append_grows _ rfl (.tmp 21) (.tmp 22) 28 rfl 5 i0 (.int .u8 0) 1 1 Try.under28 hi hz0 hz1 hz2 rfl (by decide) (some ⟨g, 0, none⟩) L L ((code n).map (Value.int .u8)) rfl (by simp) (by simp [HL.out]) ?ca ⟨b, off, none⟩ ts.length cap (ts.map (Value.int .u8)) rfl (by simp) ?cb (bytes_oneCell _) ?c1 ?c2 ?c3 ?_))
      case ca => intro b hb j u hu; cases hb; exact HO1.out.cells rfl j u hu
      case cb => exact cells_at HCE.out
      case c1 => omega
      case c2 => unfold maxLen; omega
      case c3 => omega
      intro v2 w2 ho2 hg2
      have HO2 := hid ho2
      have HG2 := hid hg2
      clear ho2 hg2
      have HV2 := hid (show ByteView w2 v2 (code n ++ ts) by
        have := View.of_owns HO2.out
        rw [← List.map_append, HL.out, ← List.length_append] at this
        exact this.bytes ((code_bs n).append HV.out.bytes))
      have HB2 := hid (show Below w.heap.size w w2 from further HB1.out ((Below.refl _ _).grown HG2.out (Nat.le_refl _) (by simp)))
      go_wp2_with fail
      refine (GetInt_any _ (code n ++ ts) _ HV2.out).mono ?_
      rw [HDC.out]
      rintro e w3 ⟨rfl, rfl⟩
      go_wp2_with fail
      refine (sanity_yes _).mono ?_
      rintro e w4 ⟨rfl, hb4⟩
      have HB4 := hid (further HB2.out hb4)
      clear hb4
      go_wp2
      go_ret
      refine ⟨?_, HB4.out⟩
      simp
      omega

end Go.Proofs.Ytpdphbliaibkhaa
