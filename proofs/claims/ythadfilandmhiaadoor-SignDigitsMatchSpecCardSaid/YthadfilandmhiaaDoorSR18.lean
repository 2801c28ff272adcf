/-
  gantry/hash.padding; byte slices as strings.
  Contracts of gantry/gantryref02: padded.
-/
import Derived.Test.YthadfilandmhiaaDoorSR17
import Derived.Laws.AppendOwn
import Derived.OwnWalk
import Derived.Laws.BytesArg
import Derived.Test.YthadfilandmhiaaDoorSR15
set_option linter.unusedVariables false
set_option linter.unusedSimpArgs false
set_option linter.unusedSectionVars false
namespace Go.Proofs.YthadfilandmhiaaDoor
open Go.RowKit
open Go.Lib (hid)
open S
/-- The string of bytes. -/
def strN (l : List Nat) : ByteArray := strOfNums (l.map Int.ofNat)
theorem strN_size (l : List Nat) : (strN l).size = l.length := by rw [strN, strOfNums_size, List.length_map]
theorem tx_strN (l : List Nat) (h : Bn l) : tx (strN l) = l := by
  simp only [tx, strN, strOfNums_data, List.map_map]
  conv => rhs; rw [← List.map_id l]
  apply List.map_congr_left
  intro x hx
  have := h x hx
  simp [Function.comp]
  omega
theorem strN_tx (s : ByteArray) : strN (tx s) = s := by
  have h : (strN (tx s)).data = s.data := by
    apply Array.ext'
    rw [strN, strOfNums_data, tx, List.map_map, List.map_map]
    conv => rhs; rw [← List.map_id s.data.toList]
    apply List.map_congr_left
    intro x _
    simp
  cases s
  exact congrArg ByteArray.mk h

theorem Tryd.under_str : Tryd.prog.underlying 9 = some .string := by kernel_rfl
theorem Tryd.info_u8 : (Tryd.prog.info? 5).map (fun i => (i.zero, i.size, i.bytes)) = some (some (.int .u8 0), 1, 1) := by kernel_rfl

theorem getD_cast (l : List Nat) (i : Nat) : (l.map Int.ofNat).getD i 0 = ((l.getD i 0 : Nat) : Int) := by
  simp only [List.getD_eq_getElem?_getD, List.getElem?_map]
  cases l[i]? <;> rfl
/-- 'string(b)' of bytes that lie in a block. -/
theorem conv_row (w : World) (b off n cap : Nat) (l : List Nat) (hl : l.length = n) (hc : ∀ i, i < n → w.cell? ⟨b, off + i, none⟩ = some (.int .u8 (l.getD i 0 : Nat))) :
    (convert 51 9 (.slice (some ⟨b, off, none⟩) n cap)).run Tryd.prog w = .ok (.string (strN l)) w :=
  run_convert_bytes_arg w _ _ Tryd.under_bs Tryd.under_u8 b off n cap (l.map Int.ofNat) (by rw [List.length_map, hl]) (fun i hi => by rw [getD_cast]; exact hc i hi) _ Tryd.under_str

theorem owned_slice {w : World} {base : Nat} {E : TypeId} {v : Value} {n : Nat} {xs : List Value} (h : w.ownsRow base E 1 v n xs) (hn : 0 < n) : ∃ g cap, v = .slice (some ⟨g, 0, none⟩) n cap ∧ n ≤ cap ∧ cap ≤ maxLen := by
  rcases h.2 with ⟨_, h0⟩ | ⟨g, cap, cur, rfl, _, _, h1, h2, _⟩
  · omega
  · exact ⟨g, cap, rfl, h1, h2⟩
theorem owned_cells {w : World} {base : Nat} {E : TypeId} {g n cap : Nat} {l : List Nat} (h : w.ownsRow base E 1 (.slice (some ⟨g, 0, none⟩) n cap) n (bc l)) (hl : l.length = n) : ∀ i, i < n → w.cell? ⟨g, 0 + i, none⟩ = some (.int .u8 (l.getD i 0 : Nat)) := by
  intro i hi
  rcases h.2 with ⟨h0, _⟩ | ⟨g', cap', cur, hv, _, hg, _, _, _, ht⟩
  · cases h0
  · simp only [Value.slice.injEq, Option.some.injEq, Addr.mk.injEq] at hv
    obtain ⟨⟨rfl, _, _⟩, _, rfl⟩ := hv
    rw [Nat.zero_add, cell_of_row _ _ _ _ _ _ hg]
    have h1 : (bc l)[i]? = some (.int .u8 (l.getD i 0 : Nat)) := by simp [bc, hl, hi]
    rw [← ht, Nat.mul_one, List.getElem?_take] at h1
    simpa [hi] using h1
theorem below_owned {w w1 w2 : World} {E : TypeId} {v : Value} {size n : Nat} {xs : List Value} (h1 : Below w.heap.size w w1) (ho : w1.ownsRow w.heap.size E size v n xs) (hg : w1.grownBy w2 v.ownBlock) : Below w.heap.size w w2 :=
  h1.grown hg h1.size (fun k hk => (ho.lt k hk).1)
theorem cell_new1 (w : World) (x : Value) (E : TypeId) : ∀ j u, [x][j]? = some u → (w.alloc (.cells #[x] E)).cell? ((⟨w.heap.size, 0, none⟩ : Addr).add j) = some u := by
  intro j u hj
  match j, hj with
  | 0, hj =>
    simp at hj
    subst hj
    simp [Addr.add]

theorem bytes8_at (N k : Nat) (hk : k < 8) : (bytes8 N).take (k + 1) = (bytes8 N).take k ++ [N / 2 ^ (56 - 8 * k) % 256] := by
  rcases (show k = 0 ∨ k = 1 ∨ k = 2 ∨ k = 3 ∨ k = 4 ∨ k = 5 ∨ k = 6 ∨ k = 7 by omega) with rfl | rfl | rfl | rfl | rfl | rfl | rfl | rfl <;> simp [bytes8]

/-- The bytes so far. -/
def PadIn (w : World) (L : List Nat) (v : Value) (wr : World) : Prop :=
  wr.ownsRow w.heap.size 5 1 v L.length (bc L) ∧ Below w.heap.size w wr

theorem PadIn.start (w : World) : PadIn w [128] (.slice (some ⟨w.heap.size, 0, none⟩) 1 1) (w.alloc (.cells #[.int .u8 128] 5)) :=
  ⟨⟨rfl, .inr ⟨w.heap.size, 1, #[.int .u8 128], rfl, Nat.le_refl _, heap_alloc_new w _, Nat.le_refl _, by unfold maxLen; omega, rfl, rfl⟩⟩, (Below.refl _ _).alloc (Nat.le_refl _) _⟩

set_option maxRecDepth 100000 in
set_option maxHeartbeats 1600000 in
theorem padding_any (n : Nat) (w : World) (hn : n ≤ 1152921504606846976) :
    Calls Tryd.prog 68 #[.int .u64 (n : Int)] w fun e w' => e = .returned (.string (strN (pad n))) ∧ Below w.heap.size w w' := by
  obtain ⟨i0, hi, hz0, hz1, hz2⟩ := info_parts Tryd.info_u8
  have HI := hid (PadIn.start w)
  obtain ⟨z, hz⟩ : ∃ z, z = (119 - n % 64) % 64 := ⟨_, rfl⟩
  have hz64 : z < 64 := by omega
  have hz1' : ∀ j, j < z → (n + (j + 1)) % 64 ≠ 56 := by intro j hj; omega
  have hz2' : (n + (z + 1)) % 64 = 56 := by omega
  have HZ := hid hz
  have HZ1 := hid hz1'
  have HZ2 := hid hz2'
  clear hz hz1' hz2'
  go_enter Tryd.func68, Tryd.ntmps68
  go_wp2
  go_loopw [3] (fun v wr => ∃ j : Nat, j ≤ z ∧ PadIn w (128 :: List.replicate j 0) v wr) (fun v _ => 64 - (match v with | .slice _ l _ => l | _ => 0))
  case atStart => exact ⟨0, by omega, HI.out⟩
  case round =>
    obtain ⟨j, hj, hown, hbel⟩ := hrel
    have hL : (128 :: List.replicate j 0).length = j + 1 := by simp
    rw [hL] at hown
    obtain ⟨g, c, rfl, hc1, hc2⟩ := owned_slice hown (by omega)
    unfold maxLen at hc2
    have HO := hid hown
    have HB := hid hbel
    clear hown hbel hL
    by_cases hjz : j < z
    · have hne : (((n : Int) + ((j : Int) + 1)) % 64 != 56) = true := by
        have := HZ1.out j hjz
        simp; omega
      go_wp2_with (at_builtin; go_must (refine wpList_append_own _ rfl (.tmp 14) (.tmp 15) 51 rfl w.heap.size 5 i0 (.int .u8 0) 1 1 Tryd.under_bs hi hz0 hz1 hz2 rfl (by decide) _ (j + 1) (bc (128 :: List.replicate j 0)) rfl (HO.out.alloc _) ⟨wr.heap.size, 0, none⟩ 1 1 [.int .u8 0] rfl rfl ?c1 ?c2 ?c3 ?c4 ?c5 ?_))
      case c1 => exact cell_new1 _ _ _
      case c2 => intro v hv; rw [List.mem_singleton.1 hv]; rfl
      case c3 => unfold maxLen; omega
      case c4 => omega
      case c5 => have := HB.out.size; simp; omega
      intro v' w1 hown' hgrow _
      have HO2 := hid hown'
      have HB2 := hid (below_owned (HB.out.alloc HB.out.size _) (HO.out.alloc _) hgrow)
      clear hown' hgrow
      obtain ⟨g2, c2, rfl, _⟩ := owned_slice HO2.out (by omega)
      go_wp2
      go_roundw
      case rel =>
        refine ⟨j + 1, by omega, ?_, HB2.out⟩
        have h := HO2.out
        have e : bc (128 :: List.replicate j 0) ++ [Value.int .u8 0] = bc (128 :: List.replicate (j + 1) 0) := by
          simp [bc, List.replicate_succ']
        rw [e] at h
        simpa using h
      case measure => simp; omega
    · obtain rfl : j = z := by omega
      have hne : (((n : Int) + ((j : Int) + 1)) % 64 != 56) = false := by
        have := HZ2.out
        simp; omega
      have HNe := hid hne
      clear hne
      have hne := HNe.out
      obtain ⟨N, hN⟩ : ∃ N : Nat, N = 8 * n := ⟨_, rfl⟩
      have hN2 : 8 * (n : Int) = (N : Int) := by omega
      have hN3 : N ≤ 9223372036854775808 := by omega
      have HN := hid hN
      clear hN
      go_wp2
      go_loopw [3, 5] (fun v i wr' => ∃ k : Nat, ∃ t : Int, k ≤ 8 ∧ t = 56 - 8 * (k : Int) ∧ i = .int .i64 t ∧ PadIn w ((128 :: List.replicate j 0) ++ (bytes8 N).take k) v wr') (fun _ i _ => (intOf i + 8).toNat)
      case atStart => exact ⟨0, 56, by omega, by omega, rfl, by simpa using HO.out, HB.out⟩
      case round =>
        obtain ⟨k, t, hk, ht, rfl, hown2, hbel2⟩ := hrel
        obtain ⟨L, hL⟩ : ∃ L, L = (128 :: List.replicate j 0) ++ (bytes8 N).take k := ⟨_, rfl⟩
        have hLl : L.length = j + 1 + k := by rw [hL]; simp [bytes8]; omega
        rw [← hL, hLl] at hown2
        obtain ⟨g2, c2, rfl, hc3, hc4⟩ := owned_slice hown2 (by omega)
        unfold maxLen at hc4
        have HO2 := hid hown2
        have HB2 := hid hbel2
        have HL := hid hL
        have HT := hid ht
        clear hown2 hbel2 hL ht hne HO HB
        by_cases hk8 : k < 8
        · obtain ⟨sh, rfl⟩ : ∃ sh : Nat, t = sh := ⟨t.toNat, by have := HT.out; omega⟩
          have hsh : sh ≤ 56 := by have := HT.out; omega
          have hq : (N : Int) / 2 ^ sh = ((N / 2 ^ sh : Nat) : Int) := by rw [Int.natCast_ediv, Int.natCast_pow]; rfl
          obtain ⟨q, hqq⟩ : ∃ q, q = N / 2 ^ sh := ⟨_, rfl⟩
          rw [← hqq] at hq
          have HQ := hid hqq
          clear hqq
          go_wp2_with (at_builtin; go_must (refine wpList_append_own _ rfl (.tmp 23) (.tmp 28) 51 rfl w.heap.size 5 i0 (.int .u8 0) 1 1 Tryd.under_bs hi hz0 hz1 hz2 rfl (by decide) _ (j + 1 + k) (bc L) rfl (HO2.out.alloc _) ⟨wr.heap.size, 0, none⟩ 1 1 [.int .u8 ((q : Int) % 256)] rfl rfl ?c1 ?c2 ?c3 ?c4 ?c5 ?_))
          case c1 => exact cell_new1 _ _ _
          case c2 => intro v hv; rw [List.mem_singleton.1 hv]; rfl
          case c3 => unfold maxLen; omega
          case c4 => omega
          case c5 => have := HB2.out.size; simp; omega
          intro v' w1 hown' hgrow _
          have HO3 := hid hown'
          have HB3 := hid (below_owned (HB2.out.alloc HB2.out.size _) (HO2.out.alloc _) hgrow)
          clear hown' hgrow
          obtain ⟨g3, c3, rfl, _⟩ := owned_slice HO3.out (by omega)
          go_wp2
          go_roundw
          case rel =>
            have ht := HT.out
            refine ⟨k + 1, (sh : Int) - 8, by omega, by omega, by go_num, ?_, HB3.out⟩
            have h := HO3.out
            have e : bc L ++ [Value.int .u8 ((q : Int) % 256)] = bc ((128 :: List.replicate j 0) ++ (bytes8 N).take (k + 1)) := by
              rw [bytes8_at N k hk8, ← List.append_assoc, ← HL.out, HQ.out, show 56 - 8 * k = sh by omega]
              simp [bc]
            rw [e] at h
            have e2 : ((128 :: List.replicate j 0) ++ (bytes8 N).take (k + 1)).length = j + 1 + k + 1 := by simp [bytes8]; omega
            rw [e2]
            exact h
          case measure => simp [intOf]; omega
        · obtain rfl : k = 8 := by omega
          obtain rfl : t = -8 := by have := HT.out; omega
          have hcv := conv_row wr g2 0 (j + 1 + 8) c2 L hLl (owned_cells HO2.out hLl)
          have HLl := hid hLl
          clear hLl
          go_wp2
          go_ret
          refine ⟨?_, HB2.out⟩
          have e : L = pad n := by
            rw [HL.out, HN.out, List.take_of_length_le (by simp [bytes8]), HZ.out]
            rfl
          rw [← e]
          rfl
/-- Bytes that lie in memory. -/
def Lie (w : World) (bk off : Nat) (m : List Nat) : Prop := bk < w.heap.size ∧ ∀ i, i < m.length → w.cell? ⟨bk, off + i, none⟩ = some (.int .u8 (m.getD i 0 : Nat))
theorem Lie.below {w w' : World} {bk off : Nat} {m : List Nat} (h : Lie w bk off m) (hb : Below w.heap.size w w') : Lie w' bk off m :=
  ⟨Nat.lt_of_lt_of_le h.1 hb.size, fun i hi => (hb.cell (p := ⟨bk, off + i, none⟩) h.1).trans (h.2 i hi)⟩
theorem Lie.news {w : World} {bk off : Nat} {m : List Nat} (h : Lie w bk off m) : ∀ j u, (bc m)[j]? = some u → w.cell? ((⟨bk, off, none⟩ : Addr).add j) = some u := by
  intro j u hj
  have hlt : j < m.length := by
    have := (List.getElem?_eq_some_iff.1 hj).1
    simpa [bc] using this
  have := h.2 j hlt
  rw [Addr.add_lit, this]
  simp only [bc, List.getElem?_map, List.getElem?_eq_getElem hlt, Option.map_some, Option.some.injEq] at hj
  rw [← hj]
  simp [List.getD_eq_getElem?_getD, hlt]
end Go.Proofs.YthadfilandmhiaaDoor
