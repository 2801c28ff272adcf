/-
  gantry/wire.Bytes, as gantry/hash.Of calls it.
-/
import Derived.Test.YthadfilandmhiaaDoorSR19
import Derived.Test.YthadfilandmhiaaDoorSR3
import Derived.Lib.AppendStr
set_option linter.unusedVariables false
set_option linter.unusedSimpArgs false
set_option linter.unusedSectionVars false
namespace Go.Proofs.YthadfilandmhiaaDoor
open Go.RowKit
open Go.Lib (hid)
open S
open W
set_option maxHeartbeats 400000 in
theorem wireInt_any (base : Nat) (n : Int) (w : World) (h1 : n ≤ 9223372036854775807) (h2 : -9223372036854775808 ≤ n) (hb : base ≤ w.heap.size) :
    Calls Tryd.prog 26 #[.int .i64 n] w (Grew w base (.slice none 0 0) (code n)) := by
  go_enter Tryd.func26, Tryd.ntmps26
  go_wp2_with fail
  refine (appendInt_any base _ [] n _ h1 h2 (World.ownsRow_nil _ _ _ _) hb (by simp)).mono ?_
  rintro e w' ⟨v', rfl, h⟩
  have H := hid h
  clear h
  go_wp2
  go_ret
  exact ⟨v', rfl, by simpa using H.out.1, H.out.2⟩

/-- The encoding of a text, as numbers. -/
def encN (l : List Nat) : List Nat := (code (l.length : Int)).map Int.toNat ++ l
theorem code_cells (n : Int) : (code n).map (Value.int .u8) = bc ((code n).map Int.toNat) := by
  unfold bc
  rw [List.map_map]
  apply List.map_congr_left
  intro x hx
  have := (code_bs n) x hx
  simp [Function.comp]
  omega
theorem str_cells (s : ByteArray) : Lib.strCells s = bc (tx s) := by simp [tx, Lib.strCells, bc, Function.comp]
theorem encN_length (l : List Nat) : (encN l).length = (code (l.length : Int)).length + l.length := by simp [encN]
theorem encN_bn {l : List Nat} (h : Bn l) : Bn (encN l) := by
  intro x hx
  rcases List.mem_append.1 hx with hx | hx
  · obtain ⟨y, hy, rfl⟩ := List.mem_map.1 hx
    have := (code_bs (l.length : Int)) y hy
    omega
  · exact h x hx

theorem owned_text {w : World} {base : Nat} {v : Value} {n : Nat} {l : List Nat} (h : w.ownsRow base 5 1 v n (bc l)) (hl : l.length = n) (hn : 0 < n) : TextOf w v l := by
  intro w' hb
  obtain ⟨g, cap, rfl, _, _⟩ := owned_slice h hn
  have hc := owned_cells h hl
  have hg : g < w.heap.size := by
    rcases h.2 with ⟨h0, _⟩ | ⟨g', cap', cur, hv, _, hg, _⟩
    · cases h0
    · simp only [Value.slice.injEq, Option.some.injEq, Addr.mk.injEq] at hv
      obtain ⟨⟨rfl, _, _⟩, _, _⟩ := hv
      exact lt_of_heap hg
  exact conv_row w' g 0 n cap l hl fun i hi => (hb.cell (p := ⟨g, 0 + i, none⟩) hg).trans (hc i hi)

set_option maxHeartbeats 400000 in
theorem wireBytes_any (s : ByteArray) (w : World) (hs : s.size ≤ 1099511627776) :
    Calls Tryd.prog 54 #[.string s] w fun e w' => ∃ v, e = .returned v ∧ Below w.heap.size w w' ∧ TextOf w' v (encN (tx s)) := by
  obtain ⟨i0, hi, hz0, hz1, hz2⟩ := info_parts Tryd.info_u8
  have HC := hid (wireInt_any w.heap.size (s.size : Int) w (by omega) (by omega) (Nat.le_refl _))
  have hcl := code_le (s.size : Int)
  have HT := hid (tx_length s)
  go_enter Tryd.func54, Tryd.ntmps54
  go_wp2_with fail
  refine HC.out.mono ?_
  rintro e w1 ⟨v1, rfl, hown, hgr⟩
  have HO := hid hown
  have HB := hid ((Below.refl w.heap.size w).grown hgr (Nat.le_refl _) (by simp [Value.ownBlock]))
  have hsz := HB.out.size
  clear hown hgr
  go_wp2_with (at_builtin; go_must (refine Lib.wpList_append_own_string _ rfl (.tmp 5) (.tmp 6) 51 9 rfl w.heap.size 5 i0 Tryd.under_bs Tryd.under_str hi hz0 hz1 hz2 _ (code (s.size : Int)).length ((code (s.size : Int)).map (Value.int .u8)) rfl HO.out s rfl ?c1 ?c2 ?c3 ?_))
  case c1 => unfold maxLen; omega
  case c2 => omega
  case c3 => omega
  intro v2 w2 hown2 hgrow2 _
  have HO2 := hid hown2
  have HB2 := hid (below_owned HB.out HO.out hgrow2)
  clear hown2 hgrow2
  go_wp2
  go_ret
  refine ⟨v2, rfl, HB2.out, ?_⟩
  have h := HO2.out
  have e : (code (s.size : Int)).map (Value.int .u8) ++ Lib.strCells s = bc (encN (tx s)) := by
    rw [code_cells, str_cells, encN, HT.out]
    simp [bc]
  rw [e] at h
  have hn : (code (s.size : Int)).length + s.size = (encN (tx s)).length := by rw [encN_length, HT.out]
  exact owned_text h hn.symm (by have := code_length (s.size : Int); omega)
end Go.Proofs.YthadfilandmhiaaDoor
