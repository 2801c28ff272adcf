/-
  Contracts of gantry/wire: Bytes, Ints, Strings, Digests.
-/
import Derived.Test.YtpdphbliaibkhaaWireF
import Derived.Lib.AppendStr
namespace Go.Proofs.Ytpdphbliaibkhaa
open Go.RowKit
open Go.Lib (hid)
open W

/-- The value v is a slice of n elements of so many cells each, which are these. -/
structure View (w : World) (v : Value) (size n : Nat) (cells : List Value) : Prop where
  len : cells.length = n * size
  shape : ∃ ao cap, v = .slice ao n cap ∧ n ≤ cap ∧ cap ≤ maxLen ∧ (0 < n → ∃ b off, ao = some ⟨b, off, none⟩ ∧ ∀ i x, cells[i]? = some x → w.cell? ⟨b, off + i, none⟩ = some x)

theorem View.below {w w' : World} {v : Value} {size n : Nat} {cells : List Value} (h : View w v size n cells) (hb : Below w.heap.size w w') : View w' v size n cells := by
  obtain ⟨hl, ao, cap, hsh, h1, h2, hc⟩ := h
  refine ⟨hl, ao, cap, hsh, h1, h2, fun hne => ?_⟩
  obtain ⟨b, off, he, hcell⟩ := hc hne
  exact ⟨b, off, he, fun i x hi => below_keep hb (hcell i x hi)⟩

theorem View.of_owns {w : World} {base : Nat} {E : TypeId} {v : Value} {size n : Nat} {cells : List Value} (h : w.ownsRow base E size v n cells) : View w v size n cells := by
  refine ⟨h.1, ?_⟩
  rcases h.2 with ⟨rfl, rfl⟩ | ⟨g, cap, cur, rfl, hg, hh, hn, hm, hs, ht⟩
  · exact ⟨none, 0, rfl, Nat.le_refl _, by unfold maxLen; omega, fun h => absurd h (by omega)⟩
  · refine ⟨_, cap, rfl, hn, hm, fun _ => ⟨g, 0, rfl, fun i x hi => ?_⟩⟩
    have := h.cells (g := g) rfl i x hi
    rwa [Addr.add_lit] at this

theorem View.bytes {w : World} {v : Value} {bs : List Int} (h : View w v 1 bs.length (bs.map (Value.int .u8))) (hB : Bs bs) : ByteView w v bs := by
  obtain ⟨hl, ao, cap, hsh, h1, h2, hc⟩ := h
  refine ⟨hB, ao, cap, hsh, h1, h2, fun hne => ?_⟩
  obtain ⟨b, off, he, hcell⟩ := hc (List.length_pos_iff.2 hne)
  refine ⟨b, off, he, fun i hi => hcell i _ ?_⟩
  rw [List.getElem?_map, List.getElem?_eq_getElem hi, List.getD_eq_getElem?_getD, List.getElem?_eq_getElem hi]
  rfl

/-- The bytes of a string as numbers. -/
def txt (s : ByteArray) : List Int := s.data.toList.map fun b => (b.toNat : Int)

theorem txt_length (s : ByteArray) : (txt s).length = s.size := by simp [txt]
theorem txt_cells (s : ByteArray) : Lib.strCells s = (txt s).map (Value.int .u8) := by simp [txt, Lib.strCells]
theorem txt_bs (s : ByteArray) : Bs (txt s) := by
  intro x hx
  obtain ⟨b, _, rfl⟩ := List.mem_map.1 hx
  have := b.toNat_lt
  omega
theorem strOfNums_txt (s : ByteArray) : strOfNums (txt s) = s := by
  cases s with
  | mk d =>
    simp [strOfNums, txt, Function.comp_def]

/-- Behind a function that makes bytes: they lie in new memory. -/
def Fresh (w : World) (bs : List Int) (e : Ending) (w' : World) : Prop :=
  ∃ v, e = .returned v ∧ w'.ownsRow w.heap.size 5 1 v bs.length (bs.map (Value.int .u8)) ∧ Below w.heap.size w w'

theorem Grew.fresh {w w' : World} {xs : List Int} {e : Ending} (h : Grew w w.heap.size (.slice none 0 0) xs e w') : Fresh w xs e w' := by
  obtain ⟨v, he, ho, hg⟩ := h
  exact ⟨v, he, ho, (Below.refl _ _).grown hg (Nat.le_refl _) (by simp [Value.ownBlock])⟩

theorem Int_fresh (n : Int) (w : World) (h1 : n ≤ 9223372036854775807) (h2 : -9223372036854775808 ≤ n) :
    Calls Try.prog 14 #[.int .i64 n] w (Fresh w (code n)) :=
  (Int_any w.heap.size n w h1 h2 (Nat.le_refl _)).mono fun _ _ h => h.fresh

theorem below_owned {w w1 w2 : World} {E : TypeId} {v : Value} {size n : Nat} {xs : List Value} (h1 : Below w.heap.size w w1) (ho : w1.ownsRow w.heap.size E size v n xs) (hg : w1.grownBy w2 v.ownBlock) : Below w.heap.size w w2 :=
  h1.grown hg h1.size (fun k hk => (ho.lt k hk).1)

set_option maxHeartbeats 400000 in
theorem Bytes_any (s : ByteArray) (w : World) (hs : s.size ≤ 1099511627776) :
    Calls Try.prog 16 #[.string s] w (Fresh w (encBytes (txt s))) := by
  obtain ⟨i0, hi, hz0, hz1, hz2⟩ := info_parts Try.info5
  have HC := hid (Int_fresh (s.size : Int) w (by omega) (by omega))
  have hcl := code_le (s.size : Int)
  go_enter Try.func16, Try.ntmps16
  go_wp2_with fail
  refine HC.out.mono ?_
  rintro e w1 ⟨v1, rfl, hown, hbel⟩
  have HO := hid hown
  have HB := hid hbel
  have hsz := hbel.size
  clear hown hbel
  go_wp2_with (at_builtin; go_must (refine Lib.wpList_append_own_string _ rfl (.tmp 5) (.tmp 6) 28 9 rfl w.heap.size 5 i0 Try.under28 Try.under9 hi hz0 hz1 hz2 _ (code (s.size : Int)).length ((code (s.size : Int)).map (Value.int .u8)) rfl HO.out s rfl ?c1 ?c2 ?c3 ?_))
  case c1 => unfold maxLen; omega
  case c2 => omega
  case c3 => omega
  intro v2 w2 hown2 hgrow2 _
  have HO2 := hid hown2
  have HB2 := hid (below_owned HB.out HO.out hgrow2)
  clear hown2 hgrow2
  go_wp2
  go_ret
  refine ⟨v2, rfl, ?_, HB2.out⟩
  have := HO2.out
  rw [txt_cells, ← List.map_append] at this
  simpa [encBytes, txt_length] using this

set_option maxHeartbeats 400000 in
theorem Ints_any (v : Value) (zs : List Int) (w : World) (hv : View w v 1 zs.length (zs.map (Value.int .i64))) (hz : ∀ z ∈ zs, -9223372036854775808 ≤ z ∧ z ≤ 9223372036854775807) (hl : zs.length ≤ 1099511627776) :
    Calls Try.prog 18 #[v] w (Fresh w (encInts zs)) := by
  have HC := hid (Int_fresh (zs.length : Int) w (by omega) (by omega))
  obtain ⟨_, ao, cap, rfl, hlc, hcm, hcells⟩ := hv
  have HCE := hid hcells
  have HZ := hid hz
  clear hcells hz
  unfold maxLen at hcm
  go_enter Try.func18, Try.ntmps18
  go_wp2_with fail
  refine HC.out.mono ?_
  rintro e w1 ⟨v1, rfl, hown, hbel⟩
  have HO := hid hown
  have HB := hid hbel
  clear hown hbel
  go_wp2
  go_loopw [3, 11] (fun out i wr => ∃ k : Nat, k ≤ zs.length ∧ i = .int .i64 k ∧ wr.ownsRow w.heap.size 5 1 out (code (zs.length : Int) ++ (zs.take k).flatMap code).length ((code (zs.length : Int) ++ (zs.take k).flatMap code).map (Value.int .u8)) ∧ Below w.heap.size w wr) (fun _ i _ => zs.length - (intOf i).toNat)
  case atStart => exact ⟨0, by omega, rfl, by simpa using HO.out, HB.out⟩
  case round =>
    obtain ⟨k, hk, rfl, hown, hbel⟩ := hrel
    have HO2 := hid hown
    have HB2 := hid hbel
    clear hown hbel
    by_cases hkn : k < zs.length
    · obtain ⟨b, off, rfl, hc⟩ := HCE.out (by omega)
      obtain ⟨z, hzz⟩ : ∃ z, z = zs[k] := ⟨_, rfl⟩
      have hcz : wr.cell? ⟨b, off + k, none⟩ = some (.int .i64 z) := below_keep HB2.out (hc k _ (by rw [List.getElem?_map, List.getElem?_eq_getElem hkn, hzz]; rfl))
      have hzb := HZ.out z (by rw [hzz]; exact List.getElem_mem hkn)
      have hlen := codes_le (zs.take k)
      have hcl := code_le (zs.length : Int)
      have hlt : (zs.take k).length ≤ k := List.length_take_le _ _
      have HN := hid (appendInt_any w.heap.size _ _ z wr hzb.2 hzb.1 HO2.out HB2.out.size (by rw [List.length_append]; omega))
      have HZZ := hid hzz
      clear hzz hc hlen hcl hlt hzb
      go_wp2_with (go_at_call 38; refine HN.out.mono ?_; rintro e w2 ⟨v2, rfl, hown2, hgrow2⟩)
      have HO3 := hid hown2
      have HB3 := hid (below_owned HB2.out HO2.out hgrow2)
      go_roundw
      case rel =>
        refine ⟨k + 1, by omega, by go_num, ?_, HB3.out⟩
        rw [List.take_succ_eq_append_getElem hkn, List.flatMap_append, ← List.append_assoc, ← HZZ.out]
        simpa using HO3.out
      case measure => simp [intOf]; omega
    · obtain rfl : k = zs.length := by omega
      go_wp2
      go_ret
      refine ⟨_, rfl, ?_, HB2.out⟩
      have := HO2.out
      rw [List.take_length] at this
      exact this

/-- How long all the texts together are. -/
def total (ss : List ByteArray) : Nat := (ss.map ByteArray.size).sum

theorem total_take (ss : List ByteArray) (k : Nat) : total (ss.take k) ≤ total ss := by
  induction ss generalizing k with
  | nil => simp [total]
  | cons s ss ih =>
    cases k with
    | zero => simp [total]
    | succ k => have := ih k; simp [total] at this ⊢; omega

theorem total_at (ss : List ByteArray) (k : Nat) (h : k < ss.length) : total (ss.take k) + ss[k].size ≤ total ss := by
  have h1 := total_take ss (k + 1)
  rw [List.take_succ_eq_append_getElem h] at h1
  simp only [total, List.map_append, List.sum_append, List.map_cons, List.map_nil, List.sum_cons, List.sum_nil] at h1 ⊢
  omega

theorem texts_le (ss : List ByteArray) : ((ss.map txt).flatMap encBytes).length ≤ 9 * ss.length + total ss := by
  induction ss with
  | nil => simp
  | cons s ss ih =>
    have := encBytes_le (txt s)
    rw [txt_length] at this
    rw [List.map_cons, List.flatMap_cons, List.length_append, List.length_cons]
    simp only [total, List.map_cons, List.sum_cons] at ih ⊢
    omega

set_option maxHeartbeats 400000 in
theorem Strings_any (v : Value) (ss : List ByteArray) (w : World) (hv : View w v 1 ss.length (ss.map Value.string)) (hl : ss.length ≤ 1099511627776) (ht : total ss ≤ 1099511627776) :
    Calls Try.prog 20 #[v] w (Fresh w (encTexts (ss.map txt))) := by
  obtain ⟨i0, hi, hz0, hz1, hz2⟩ := info_parts Try.info5
  have HC := hid (Int_fresh (ss.length : Int) w (by omega) (by omega))
  obtain ⟨_, ao, cap, rfl, hlc, hcm, hcells⟩ := hv
  have HCE := hid hcells
  clear hcells
  unfold maxLen at hcm
  go_enter Try.func20, Try.ntmps20
  go_wp2_with fail
  refine HC.out.mono ?_
  rintro e w1 ⟨v1, rfl, hown, hbel⟩
  have HO := hid hown
  have HB := hid hbel
  clear hown hbel
  go_wp2
  go_loopw [3, 11] (fun out i wr => ∃ k : Nat, k ≤ ss.length ∧ i = .int .i64 k ∧ wr.ownsRow w.heap.size 5 1 out (code (ss.length : Int) ++ ((ss.take k).map txt).flatMap encBytes).length ((code (ss.length : Int) ++ ((ss.take k).map txt).flatMap encBytes).map (Value.int .u8)) ∧ Below w.heap.size w wr) (fun _ i _ => ss.length - (intOf i).toNat)
  case atStart => exact ⟨0, by omega, rfl, by simpa using HO.out, HB.out⟩
  case round =>
    obtain ⟨k, hk, rfl, hown, hbel⟩ := hrel
    have HO2 := hid hown
    have HB2 := hid hbel
    clear hown hbel
    by_cases hkn : k < ss.length
    · obtain ⟨b, off, rfl, hc⟩ := HCE.out (by omega)
      obtain ⟨s, hss⟩ : ∃ s, s = ss[k] := ⟨_, rfl⟩
      have hcz : wr.cell? ⟨b, off + k, none⟩ = some (.string s) := below_keep HB2.out (hc k _ (by rw [List.getElem?_map, List.getElem?_eq_getElem hkn, hss]; rfl))
      have htot := total_at ss k hkn
      rw [← hss] at htot
      have hlen := texts_le (ss.take k)
      have hcl := code_le (ss.length : Int)
      have hcs := code_le (s.size : Int)
      have hlt : (ss.take k).length ≤ k := List.length_take_le _ _
      have hbig : (code (ss.length : Int) ++ ((ss.take k).map txt).flatMap encBytes).length + s.size + 9 ≤ 20000000000000 := by rw [List.length_append]; omega
      have HN := hid (appendInt_any w.heap.size _ _ (s.size : Int) wr (by omega) (by omega) HO2.out HB2.out.size (by omega))
      have HSS := hid hss
      have hsb : s.size ≤ 1099511627776 := by omega
      obtain ⟨X, hX⟩ : ∃ X, X = code (ss.length : Int) ++ ((ss.take k).map txt).flatMap encBytes := ⟨_, rfl⟩
      rw [← hX] at HN HO2 hbig
      have HX := hid hX
      clear hss hc hlen hcl hlt htot hX
      go_wp2_with fail
      refine HN.out.mono ?_
      rintro e w2 ⟨v2, rfl, hown2, hgrow2⟩
      have HO3 := hid hown2
      have HB3 := hid (below_owned HB2.out HO2.out hgrow2)
      clear hown2 hgrow2
      go_wp2_with (at_builtin; go_must (refine Lib.wpList_append_own_string _ rfl (.tmp 18) (.tmp 19) 28 9 rfl w.heap.size 5 i0 Try.under28 Try.under9 hi hz0 hz1 hz2 _ (X ++ code (s.size : Int)).length ((X ++ code (s.size : Int)).map (Value.int .u8)) rfl HO3.out s rfl ?c1 ?c2 ?c3 ?_))
      case c1 => unfold maxLen; rw [List.length_append]; omega
      case c2 => rw [List.length_append]; omega
      case c3 => exact HB3.out.size
      intro v3 w3 hown3 hgrow3 _
      have HO4 := hid hown3
      have HB4 := hid (below_owned HB3.out HO3.out hgrow3)
      clear hown3 hgrow3
      go_wp2
      go_roundw
      case rel =>
        refine ⟨k + 1, by omega, by go_num, ?_, HB4.out⟩
        have := HO4.out
        rw [txt_cells, ← List.map_append] at this
        rw [List.take_succ_eq_append_getElem hkn, List.map_append, List.flatMap_append, ← List.append_assoc, ← HX.out, ← HSS.out]
        simpa [encBytes, txt_length, Nat.add_assoc] using this
      case measure => simp [intOf]; omega
    · obtain rfl : k = ss.length := by omega
      go_wp2
      go_ret
      refine ⟨_, rfl, ?_, HB2.out⟩
      have := HO2.out
      rw [List.take_length] at this
      simpa [encTexts] using this

theorem Try.under57a : Try.prog.underlying 57 = some (.array (Try.prog.arrayLen 57) (Try.prog.elem 57)) := by kernel_rfl
theorem Try.len57 : Try.prog.arrayLen 57 = 16 := by kernel_rfl
theorem Try.sizeE57 (w : World) : (sizeOf (Try.prog.elem 57)).run Try.prog w = .ok 1 w := by kernel_rfl

theorem slice_digest (w : World) (B : Nat) : (Instr.sliceAt 57 (.pointer (some ⟨B, 0, none⟩)) none none none).run Try.prog w = .ok (.slice (some ⟨B, 0, none⟩) 16 16) w := by
  rw [run_sliceAt_array_all w _ _ Try.under57a, Try.sizeE57, Try.len57]
  simp only [Result.andThen, slicedAt]
  rw [if_neg (by omega), Nat.zero_mul, Addr.add_lit]

/-- The cells of digests. -/
def digCells (ds : List (List Int)) : List Value := ds.flatMap fun d => d.map (Value.int .u8)

theorem digCells_at {ds : List (List Int)} (h : ∀ d ∈ ds, d.length = 16) (k : Nat) (hk : k < ds.length) (j : Nat) (x : Value) (hx : (ds[k].map (Value.int .u8))[j]? = some x) : (digCells ds)[k * 16 + j]? = some x := by
  induction ds generalizing k with
  | nil => simp at hk
  | cons d ds ih =>
    have hd := h d (List.mem_cons_self ..)
    cases k with
    | zero =>
      simp only [List.getElem_cons_zero] at hx
      have hj : j < (d.map (Value.int .u8)).length := (List.getElem?_eq_some_iff.1 hx).1
      simp only [digCells, List.flatMap_cons, Nat.zero_mul, Nat.zero_add]
      rw [List.getElem?_append_left hj]
      exact hx
    | succ k =>
      simp only [List.getElem_cons_succ] at hx
      have := ih (fun d hd => h d (List.mem_cons_of_mem _ hd)) k (by simpa using hk) hx
      simp only [digCells, List.flatMap_cons] at this ⊢
      rw [List.getElem?_append_right (by simp [hd]; omega)]
      simpa [hd, show (k + 1) * 16 + j - 16 = k * 16 + j by omega] using this

theorem digs_length {ds : List (List Int)} (h : ∀ d ∈ ds, d.length = 16) : (ds.flatMap id).length = 16 * ds.length := by
  induction ds with
  | nil => rfl
  | cons d ds ih => rw [List.flatMap_cons, List.length_append, ih (fun x hx => h x (List.mem_cons_of_mem _ hx)), id, h d (List.mem_cons_self ..), List.length_cons]; omega

set_option maxHeartbeats 800000 in
theorem Digests_any (v : Value) (ds : List (List Int)) (w : World) (hv : View w v 16 ds.length (digCells ds)) (hd : ∀ d ∈ ds, d.length = 16) (hl : ds.length ≤ 1099511627776) :
    Calls Try.prog 22 #[v] w (Fresh w (encDigs ds)) := by
  obtain ⟨i0, hi, hz0, hz1, hz2⟩ := info_parts Try.info5
  have HC := hid (Int_fresh (ds.length : Int) w (by omega) (by omega))
  obtain ⟨_, ao, cap, rfl, hlc, hcm, hcells⟩ := hv
  have HCE := hid hcells
  have HDL := hid hd
  clear hcells hd
  unfold maxLen at hcm
  go_enter Try.func22, Try.ntmps22
  go_wp2_with fail
  refine HC.out.mono ?_
  rintro e w1 ⟨v1, rfl, hown, hbel⟩
  have HO := hid hown
  have HB := hid hbel
  clear hown hbel
  go_wp2
  go_loopw [3, 11] (fun out i wr => ∃ k : Nat, k ≤ ds.length ∧ i = .int .i64 k ∧ wr.ownsRow w.heap.size 5 1 out (code (ds.length : Int) ++ (ds.take k).flatMap id).length ((code (ds.length : Int) ++ (ds.take k).flatMap id).map (Value.int .u8)) ∧ Below w.heap.size w wr) (fun _ i _ => ds.length - (intOf i).toNat)
  case atStart => exact ⟨0, by omega, rfl, by simpa using HO.out, HB.out⟩
  case round =>
    obtain ⟨k, hk, rfl, hown, hbel⟩ := hrel
    have HO2 := hid hown
    have HB2 := hid hbel
    clear hown hbel
    by_cases hkn : k < ds.length
    · obtain ⟨b, off, rfl, hc⟩ := HCE.out (by omega)
      obtain ⟨cs, hcs⟩ : ∃ cs, cs = ds[k].map (Value.int .u8) := ⟨_, rfl⟩
      have hc16 : cs.length = 16 := by rw [hcs, List.length_map]; exact HDL.out _ (List.getElem_mem hkn)
      have h1c : ∀ v ∈ cs, v.oneCell' = true := by rw [hcs]; exact bytes_oneCell _
      have hra : wr.rangeAt b (off + k * 16) cs := by
        intro j x hx
        rw [hcs] at hx
        have := hc _ _ (digCells_at HDL.out k hkn j x hx)
        rw [Nat.add_assoc]
        exact below_keep HB2.out this
      have hst : ∀ W : World, (storeCells ⟨W.heap.size, 0, none⟩ cs).run Try.prog (W.alloc (.cells #[.int .u8 0, .int .u8 0, .int .u8 0, .int .u8 0, .int .u8 0, .int .u8 0, .int .u8 0, .int .u8 0, .int .u8 0, .int .u8 0, .int .u8 0, .int .u8 0, .int .u8 0, .int .u8 0, .int .u8 0, .int .u8 0] 57)) = .ok () (W.alloc (.cells cs.toArray 57)) := fun W => by
        have := run_storeCells_new (P := Try.prog) W 57 #[.int .u8 0, .int .u8 0, .int .u8 0, .int .u8 0, .int .u8 0, .int .u8 0, .int .u8 0, .int .u8 0, .int .u8 0, .int .u8 0, .int .u8 0, .int .u8 0, .int .u8 0, .int .u8 0, .int .u8 0, .int .u8 0] cs.toArray (by simpa [hc16] using Try.info57) (by simp [hc16]) (all_oneCell_toArray h1c)
        simpa using this
      have HIN := hid (show (Try.prog.info? 57).map (·.size) = some cs.length by rw [hc16]; exact Try.info57)
      have hsl := fun W => slice_digest W wr.heap.size
      have hlen : (code (ds.length : Int) ++ (ds.take k).flatMap id).length ≤ 20000000000000 := by
        have := code_le (ds.length : Int)
        have h2 := digs_length (ds := ds.take k) (fun d hd => HDL.out d (List.mem_of_mem_take hd))
        have h3 : (ds.take k).length ≤ k := List.length_take_le _ _
        rw [List.length_append]; omega
      obtain ⟨X, hX⟩ : ∃ X, X = code (ds.length : Int) ++ (ds.take k).flatMap id := ⟨_, rfl⟩
      rw [← hX] at HO2 hlen
      have HX := hid hX
      have HCS := hid hcs
      have H16 := hid hc16
      have H1 := hid h1c
      have HRA := hid hra
      have HLE := hid hlen
      clear hcs hc16 h1c hra hc hlen hX
      go_wp2_with (first | (with_reducible refine wpList_load_mid rfl 57 (.tmp 13) rfl b (off + k * 16) rfl cs _ HRA.out Try.under57 rfl HIN.out ?_) | (at_builtin; go_must (refine wpList_append_own _ rfl (.tmp 15) (.tmp 16) 28 rfl w.heap.size 5 i0 (.int .u8 0) 1 1 Try.under28 hi hz0 hz1 hz2 rfl (by decide) _ X.length (X.map (Value.int .u8)) rfl (HO2.out.alloc _) ⟨wr.heap.size, 0, none⟩ 16 16 cs rfl (by rw [H16.out]) ?c1 ?c2 ?c3 ?c4 ?c5 ?_)))
      case c1 => exact news_new _ _ _ _ rfl
      case c2 => exact H1.out
      case c3 => unfold maxLen; have := HLE.out; omega
      case c4 => have := HLE.out; omega
      case c5 => have := HB2.out.size; simp; omega
      intro v3 w3 hown3 hgrow3 _
      have HO4 := hid hown3
      have HB4 := hid (below_owned (HB2.out.alloc HB2.out.size _) (HO2.out.alloc _) hgrow3)
      clear hown3 hgrow3
      go_wp2
      go_roundw
      case rel =>
        refine ⟨k + 1, by omega, by go_num, ?_, HB4.out⟩
        have := HO4.out
        have hd16 := HDL.out _ (List.getElem_mem hkn)
        rw [HCS.out, ← List.map_append] at this
        rw [List.take_succ_eq_append_getElem hkn, List.flatMap_append, ← List.append_assoc, ← HX.out]
        have e : (X ++ [ds[k]].flatMap id).length = X.length + 16 := by simp [hd16]
        rw [e]
        simpa using this
      case measure => simp [intOf]; omega
    · obtain rfl : k = ds.length := by omega
      go_wp2
      go_ret
      refine ⟨_, rfl, ?_, HB2.out⟩
      have := HO2.out
      rw [List.take_length] at this
      simpa [encDigs] using this

end Go.Proofs.Ytpdphbliaibkhaa
