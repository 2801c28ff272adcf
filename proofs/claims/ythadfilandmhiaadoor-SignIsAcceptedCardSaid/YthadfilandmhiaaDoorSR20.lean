/-
  gantry/hash.keyed.
  gantry/hash.Mac.
-/
import Derived.Test.YthadfilandmhiaaDoorSR19
import Derived.Deep.CutBlock
set_option linter.unusedVariables false
set_option linter.unusedSimpArgs false
set_option linter.unusedSectionVars false
namespace Go.Proofs.YthadfilandmhiaaDoor
open Go.RowKit
open Go.Lib (hid)
open S
/-- A key, made as long as a block; with each byte combined with a mask. -/
def kblk (l : List Nat) : List Nat := splice (List.replicate 64 0) 0 (l.take (Nat.min l.length 64))
def kmask (mask : Nat) (l : List Nat) : List Nat := (kblk l).map fun x => x ^^^ mask
theorem kblk_length (l : List Nat) : (kblk l).length = 64 := by
  unfold kblk
  rw [length_splice _ _ _ (Nat.le_trans (by rw [Nat.zero_add]; exact List.length_take_le _ _) (by rw [List.length_replicate]; exact Nat.min_le_right _ _))]
  simp
theorem kmask_length (mask : Nat) (l : List Nat) : (kmask mask l).length = 64 := by rw [kmask, List.length_map, kblk_length]
theorem kblk_bn {l : List Nat} (h : Bn l) : Bn (kblk l) := by
  intro x hx
  simp only [kblk, splice, List.mem_append] at hx
  rcases hx with hx | hx | hx
  · rw [(List.mem_replicate.1 (List.mem_of_mem_take hx)).2]; decide
  · exact h x (List.mem_of_mem_take hx)
  · rw [(List.mem_replicate.1 (List.mem_of_mem_drop hx)).2]; decide
theorem kmask_bn {l : List Nat} {mask : Nat} (h : Bn l) (hm : mask < 256) : Bn (kmask mask l) := by
  intro x hx
  obtain ⟨y, hy, rfl⟩ := List.mem_map.1 hx
  exact Nat.xor_lt_two_pow (n := 8) (kblk_bn h y hy) hm
theorem bc_kblk (l : List Nat) (n : Nat) (hn : n = Nat.min l.length 64) : splice (List.replicate 64 (Value.int .u8 0)) 0 (bc (l.take n)) = bc (kblk l) := by
  subst hn
  have e : List.replicate 64 (Value.int .u8 0) = bc (List.replicate 64 0) := by simp [bc]
  rw [e]
  unfold kblk splice bc
  simp [List.map_take, List.map_drop]
theorem kmask_at (mask : Nat) (l : List Nat) (p : Nat) (hp : p < 64) : (kmask mask l).getD p 0 = (kblk l).getD p 0 ^^^ mask := by
  have := kblk_length l
  simp [kmask, List.getD_eq_getElem?_getD, this, hp]

theorem new_second {w : World} {o : Obj} {Z Z' : Array Value} {T : TypeId} (h : Z = Z') : ((w.alloc o).alloc (.cells Z T)).heap[w.heap.size + 1]? = some (.cells Z' T (0, 0)) := by
  subst h
  have := heap_alloc_new (w.alloc o) (.cells Z T)
  simpa using this

/-- While the key's block is made. -/
def KIn (w : World) (l : List Nat) (wr : World) : Prop :=
  Below w.heap.size w wr ∧ StreamAt wr w.heap.size ∧ wr.heap[w.heap.size + 1]? = some (.cells (bc (kblk l)).toArray 77 (0, 0))
def KRow (w : World) (l : List Nat) (mask k : Nat) (wr : World) : Prop :=
  Below w.heap.size w wr ∧ StreamAt wr w.heap.size ∧ wr.rowIs (w.heap.size + 1) 77 64 (fun p => if p < k then .int .u8 ((kmask mask l).getD p 0 : Nat) else .int .u8 ((kblk l).getD p 0 : Nat))
theorem KIn.row {w wr : World} {l : List Nat} {mask : Nat} (h : KIn w l wr) : KRow w l mask 0 wr := by
  obtain ⟨h1, h2, h3⟩ := h
  refine ⟨h1, h2, _, h3, by rw [List.size_toArray, bc_length, kblk_length], fun i hi => ?_⟩
  have := kblk_length l
  simp [bc, this, hi, List.getD_eq_getElem?_getD]
theorem kstep {mask : Nat} {l : List Nat} {k x : Nat} (hx : x = (kblk l).getD k 0) (hk : k < 64) (p : Nat) :
    (if p = k then Value.int .u8 ((x ^^^ mask : Nat) : Int) else (if p < k then .int .u8 ((kmask mask l).getD p 0 : Nat) else .int .u8 ((kblk l).getD p 0 : Nat))) = (if p < k + 1 then .int .u8 ((kmask mask l).getD p 0 : Nat) else .int .u8 ((kblk l).getD p 0 : Nat)) := by
  by_cases h : p = k
  · rw [if_pos h, if_pos (by omega), h, kmask_at _ _ _ hk, ← hx]
  · rw [if_neg h]
    by_cases h2 : p < k
    · rw [if_pos h2, if_pos (by omega)]
    · rw [if_neg h2, if_neg (by omega)]
theorem StreamAt.setCell {w : World} {g : Nat} (h : StreamAt w g) {a : Addr} (ha : g ≠ a.block) (v : Value) : StreamAt (w.setCell a v) g := by
  obtain ⟨Z, h1, h2⟩ := h
  exact ⟨Z, (heap_setCell_other _ _ _ _ ha).trans h1, h2⟩
def KDone (w : World) (l : List Nat) (mask : Nat) (wr : World) : Prop :=
  Below w.heap.size w wr ∧ StreamAt wr w.heap.size ∧ wr.heap[w.heap.size + 1]? = some (.cells (bytesV (kmask mask l)) 77 (0, 0))
theorem KRow.done {w wr : World} {l : List Nat} {mask : Nat} (h : KRow w l mask 64 wr) : KDone w l mask wr := by
  obtain ⟨h1, h2, c, h3, h4, h5⟩ := h
  have hl := kmask_length mask l
  have : c = bytesV (kmask mask l) := bytes_of (h4.trans hl.symm) (fun i hi => (h5 i (by omega)).trans (congrArg some (if_pos (by omega))))
  subst this
  exact ⟨h1, h2, h3⟩

theorem KDone.keep {w w' w'' : World} {l : List Nat} {mask : Nat} (h : KDone w l mask w') (hb : Below w'.heap.size w' w'') : KDone w l mask w'' := by
  obtain ⟨h1, h2, h3⟩ := h
  exact ⟨further h1 hb, h2.keep hb, stays hb h3⟩
/-- While the stream of the key is made. -/
def KInv (w : World) (s : ByteArray) (mask : Nat) (u6 u10 : Value) (L : Nat → Bool) (a : Act) (w' : World) : Prop :=
  ∃ u7 u8 u9 u11 u12 u13 u14 u15 u16 u17 u18 u19 x20 x21 x22 x23 : Value, a = ⟨#[.string s, .int .u8 (mask : Int), undef, undef, .pointer (some ⟨w.heap.size, 0, none⟩), .pointer (some ⟨w.heap.size + 1, 0, none⟩), u6, u7, u8, u9, u10, u11, u12, u13, u14, u15, u16, u17, u18, u19, x20, x21, x22, x23], []⟩ ∧ KDone w (tx s) mask w' ∧
    (L 0 = true → x20 = streamV []) ∧ (L 1 = true → x21 = .slice (some ⟨w.heap.size + 1, 0, none⟩) 64 64) ∧ (L 2 = true → x22 = .string (strN (kmask mask (tx s)))) ∧ (L 3 = true → x23 = streamV (kmask mask (tx s))) ∧
    (L 4 = true → w'.heap[w.heap.size]? = some (.cells (streamL (kmask mask (tx s))).toArray 80 (0, 0)))

set_option maxRecDepth 100000 in
set_option maxHeartbeats 3200000 in
theorem keyed_any (s : ByteArray) (mask : Nat) (w : World) (hm : mask < 256) (hK : KR w) :
    Calls Tryd.prog 62 #[.string s, .int .u8 (mask : Int)] w fun e w' => e = .returned (streamV (kmask mask (tx s))) ∧ Below w.heap.size w w' := by
  have HK := hid hK
  have hz := zero_stream
  obtain ⟨Z, hZ⟩ : ∃ Z, Z = (strL (List.replicate 8 0) (List.replicate 64 0) 0).toArray := ⟨_, rfl⟩
  have HZ := hid (show Z.size = 73 by rw [hZ, List.size_toArray]; exact strL_length _ _ _ rfl rfl)
  rw [← hZ] at hz
  obtain ⟨n, hn⟩ : ∃ n, n = Nat.min s.size 64 := ⟨_, rfl⟩
  have hn64 : n ≤ 64 := by rw [hn]; exact Nat.min_le_right _ _
  have HN := hid hn
  have HTx := hid (tx_length s)
  clear hZ hK hn
  go_enter Tryd.func62, Tryd.ntmps62
  go_upto_region 2 with fail
  go_cut [] (fun wx => KIn w (tx s) wx)
  case first =>
    go_wp2_with (with_reducible refine wpList_copy_str rfl (.tmp 7) (.tmp 8) 51 9 rfl 5 Tryd.under_bs Tryd.size_u8 (w.heap.size + 1) 0 64 64 s rfl rfl (List.replicate 64 (.int .u8 0)) 77 ?c0 n HN.out ?c1 ?_)
    case c0 => exact new_second (by kernel_rfl)
    case c1 => rw [List.length_replicate]; omega
    intro w1 G1 G2 G3 G4
    go_wp2
    go_meet
    refine ⟨?_, ?_, ?_⟩
    · exact below_same (((Below.refl _ _).alloc (Nat.le_refl _) _).alloc (by simp) _) (by omega) G2.out (G3.out.trans (by simp)) G4.out
    · refine ⟨Z, ?_, HZ.out⟩
      rw [G2.out _ (by omega), Below.heap_alloc _ _ _ (by simp)]
      exact heap_alloc_new w _
    · exact G1.out.trans (by rw [← bc_kblk _ n (by rw [HTx.out]; exact HN.out)]; rfl)
  case rest =>
    have HIn := hid hcut
    clear hcut
    go_upto_block 0 with fail
    go_cut [] (fun wx => KDone w (tx s) mask wx)
    case first =>
      go_wp2_with fail
      go_loopw [10] (fun i wr => ∃ k : Nat, k ≤ 64 ∧ i = .int .i64 k ∧ KRow w (tx s) mask k wr) (fun i _ => 64 - (intOf i).toNat)
      case atStart => exact ⟨0, by omega, rfl, HIn.out.row⟩
      case round =>
        obtain ⟨k, hk, rfl, hrel⟩ := hrel
        by_cases hk8 : k < 64
        · obtain ⟨hb, hst, hr⟩ := hrel
          have hc := hr.cell (i := k) (by omega)
          have hf := hr.frozen k
          rw [if_neg (by omega)] at hc
          obtain ⟨x, hx⟩ : ∃ x, x = (kblk (tx s)).getD k 0 := ⟨_, rfl⟩
          have hxl : x < 256 := by
            rw [hx]
            have := kblk_length (tx s)
            rw [List.getD_eq_getElem?_getD, List.getElem?_eq_getElem (by omega)]
            exact kblk_bn (tx_bn s) _ (List.getElem_mem _)
          rw [← hx] at hc
          have e := u8_xor_nat x mask hxl hm
          have HX := hid hx
          have HB := hid hb
          have HSt := hid hst
          have HR := hid hr
          clear hx hb hst hr
          go_wp2
          go_roundw
          case rel =>
            refine ⟨k + 1, by omega, by go_num, HB.out.setCell (by show _ ≤ w.heap.size + 1; omega) _, HSt.out.setCell (by show w.heap.size ≠ w.heap.size + 1; omega) _, ?_⟩
            exact (HR.out.set k _).congr fun p hp => kstep HX.out hk8 p
          case measure => simp [intOf]; omega
        · obtain rfl : k = 64 := by omega
          have HRr := hid hrel
          clear hrel
          go_wp2
          go_meet
          exact HRr.out.done
    case rest =>
      have HD := hid hcut
      clear hcut HIn
      go_upto_region 8 with fail
      go_cut [] (fun wx => Below w.heap.size w wx ∧ wx.heap[w.heap.size]? = some (.cells (streamL (kmask mask (tx s))).toArray 80 (0, 0)))
      case first =>
        rename_i hJ hM
        obtain ⟨d, hd1, hd2⟩ := Tryd.under_s
        have hMl := kmask_length mask (tx s)
        have hMB := kmask_bn (tx_bn s) hm
        refine wp_region_inv (by kernel_rfl) (KInv w s mask u6 u10) (by kernel_rfl) ?_ ?_ ?_
        · intro L hL
          refine ⟨u7, u8, u9, u11, u12, u13, u14, u15, u16, u17, u18, u19, u20, u21, u22, u23, rfl, HD.out.keep (Below.drew (Below.refl _ _)), ?_⟩
          refine ⟨?_, ?_, ?_, ?_, ?_⟩ <;> (intro h; rw [hL] at h; cases h)
        · intro L a w' i o ho hLi hdep hI
          obtain ⟨u7, u8, u9, u11, u12, u13, u14, u15, u16, u17, u18, u19, x20, x21, x22, x23, rfl, hD, f0, f1, f2, f3, f4⟩ := hI
          have hi : i < 5 := (Array.getElem?_eq_some_iff.1 ho).1
          rcases (show i = 0 ∨ i = 1 ∨ i = 2 ∨ i = 3 ∨ i = 4 by omega) with rfl | rfl | rfl | rfl | rfl
          · cases (Option.some.inj (show some _ = some o from ho))
            refine ⟨rfl, ?_⟩
            generalize hKK : (fun (a' : Act) (w' : World) => ∀ L', More L 0 L' → KInv w s mask u6 u10 L' a' w') = KK
            go_simp
            refine (Begin_any w').mono ?_
            rintro e w'' ⟨rfl, hb2⟩
            go_simp
            rw [← hKK]
            intro L' hL'
            exact ⟨u7, u8, u9, u11, u12, u13, u14, u15, u16, u17, u18, u19, _, x21, x22, x23, rfl, hD.keep hb2, fun _ => rfl, fun h => f1 (hL'.old (by decide) h), fun h => f2 (hL'.old (by decide) h), fun h => f3 (hL'.old (by decide) h), fun h => stays hb2 (f4 (hL'.old (by decide) h))⟩
          · cases (Option.some.inj (show some _ = some o from ho))
            refine ⟨rfl, ?_⟩
            generalize hKK : (fun (a' : Act) (w' : World) => ∀ L', More L 1 L' → KInv w s mask u6 u10 L' a' w') = KK
            go_simp
            rw [← hKK]
            intro L' hL'
            exact ⟨u7, u8, u9, u11, u12, u13, u14, u15, u16, u17, u18, u19, x20, _, x22, x23, rfl, hD, fun h => f0 (hL'.old (by decide) h), fun _ => rfl, fun h => f2 (hL'.old (by decide) h), fun h => f3 (hL'.old (by decide) h), fun h => f4 (hL'.old (by decide) h)⟩
          · cases (Option.some.inj (show some _ = some o from ho))
            refine ⟨rfl, ?_⟩
            generalize hKK : (fun (a' : Act) (w' : World) => ∀ L', More L 2 L' → KInv w s mask u6 u10 L' a' w') = KK
            obtain rfl := f1 (hdep { on := 1, ground := Ground.data } (by simp) (by rfl))
            have hcv := conv_row w' (w.heap.size + 1) 0 64 64 (kmask mask (tx s)) hMl (fun i hi => by rw [Nat.zero_add, cell_of_row _ _ _ _ _ _ hD.2.2]; exact bytesV_at _ i (by omega))
            go_simp
            rw [← hKK]
            intro L' hL'
            exact ⟨u7, u8, u9, u11, u12, u13, u14, u15, u16, u17, u18, u19, x20, _, _, x23, rfl, hD, fun h => f0 (hL'.old (by decide) h), fun _ => rfl, fun _ => rfl, fun h => f3 (hL'.old (by decide) h), fun h => f4 (hL'.old (by decide) h)⟩
          · cases (Option.some.inj (show some _ = some o from ho))
            refine ⟨rfl, ?_⟩
            generalize hKK : (fun (a' : Act) (w' : World) => ∀ L', More L 3 L' → KInv w s mask u6 u10 L' a' w') = KK
            obtain rfl := f0 (hdep { on := 0, ground := Ground.data } (by simp) (by rfl))
            obtain rfl := f2 (hdep { on := 2, ground := Ground.data } (by simp) (by rfl))
            have hAdd := Add_any [] (strN (kmask mask (tx s))) w' (fun x h => by cases h) (by rw [strN_size, hMl]; decide) (HK.out.below hD.1)
            rw [tx_strN _ hMB, List.nil_append] at hAdd
            go_simp
            refine hAdd.mono ?_
            rintro e w'' ⟨rfl, hb2⟩
            go_simp
            rw [← hKK]
            intro L' hL'
            exact ⟨u7, u8, u9, u11, u12, u13, u14, u15, u16, u17, u18, u19, _, x21, _, _, rfl, hD.keep hb2, fun _ => rfl, fun h => f1 (hL'.old (by decide) h), fun _ => rfl, fun _ => rfl, fun h => stays hb2 (f4 (hL'.old (by decide) h))⟩
          · cases (Option.some.inj (show some _ = some o from ho))
            refine ⟨rfl, ?_⟩
            obtain rfl := f3 (hdep { on := 3, ground := Ground.data } (by simp) (by rfl))
            obtain ⟨hb, ⟨Z2, z1, z2⟩, h3⟩ := hD
            have hS73 : (streamL (kmask mask (tx s))).toArray.size = 73 := by rw [List.size_toArray]; exact strL_length _ _ _ rfl (blkOf_length _)
            refine wp_store_row 80 (.tmp 4) (.tmp 23) rfl w.heap.size (streamL (kmask mask (tx s))).toArray rfl rfl 80 Z2 z1 (by rw [hS73]; exact Tryd.size_s73) (by rw [hS73, z2]) (strL_all _ _ _) ?_
            intro L' hL'
            have hrow := setRow_heap w' w.heap.size Z2 (streamL (kmask mask (tx s))).toArray _ _ z1
            exact ⟨u7, u8, u9, u11, u12, u13, u14, u15, u16, u17, u18, u19, x20, x21, x22, _, rfl, ⟨below_setRow hb (Nat.le_refl _) _, ⟨_, hrow, hS73⟩, (setRow_other _ _ _ _ (by omega)).trans h3⟩, fun h => f0 (hL'.old (by decide) h), fun h => f1 (hL'.old (by decide) h), fun h => f2 (hL'.old (by decide) h), fun _ => rfl, fun _ => hrow⟩
        · intro L a w' hall hI
          obtain ⟨u7, u8, u9, u11, u12, u13, u14, u15, u16, u17, u18, u19, x20, x21, x22, x23, rfl, hD, f0, f1, f2, f3, f4⟩ := hI
          refine hM _ _ (hJ _ _ ?_)
          (repeat apply Exists.intro)
          exact ⟨⟨hD.1, f4 (hall 4 (by decide))⟩, rfl⟩
      case rest =>
        obtain ⟨hb, hend⟩ := hcut
        obtain ⟨d, hd1, hd2⟩ := Tryd.under_s
        obtain ⟨L, hLL⟩ : ∃ L, L = (streamL (kmask mask (tx s))).toArray := ⟨_, rfl⟩
        rw [← hLL] at hend
        have hL73 : L.size = 73 := by rw [hLL, List.size_toArray]; exact strL_length _ _ _ rfl (blkOf_length _)
        have HL := hid hLL
        have HL73 := hid hL73
        have HB := hid hb
        have HD1 := hid hd1
        have HD2 := hid hd2
        clear hLL hL73 hb hd1 hd2
        go_wp2_with fail
        refine bodyPost_ret (results_cell_whole rfl _ _ w.heap.size 80 L (0, 0) d rfl hend HD1.out HD2.out (by rw [HL73.out]; exact Tryd.size_s73)) rfl ?_
        exact ⟨by rw [HL.out]; rfl, HB.out⟩
theorem bytes32_bn (s : St) : Bn (bytes32 s) := by
  intro x hx
  obtain ⟨y, _, hy⟩ := List.mem_flatMap.1 hx
  simp only [bytes4, List.mem_cons, List.not_mem_nil, or_false] at hy
  rcases hy with h | h | h | h <;> (rw [h]; exact Nat.mod_lt _ (by decide))
theorem sha_bn (m : List Nat) : Bn (sha m) := bytes32_bn _
theorem Bn.append {a b : List Nat} (ha : Bn a) (hb : Bn b) : Bn (a ++ b) := by
  intro x hx
  rcases List.mem_append.1 hx with h | h
  · exact ha x h
  · exact hb x h

/-- The key that counts, the inner hash, the code. -/
def shortN (key : List Nat) : List Nat := if 64 < key.length then sha key else key
def innN (k text : List Nat) : List Nat := sha (kmask 54 k ++ text)
def outN (k text : List Nat) : List Nat := sha (kmask 92 k ++ innN k text)
def macN (key text : List Nat) : List Nat := outN (shortN key) text

theorem splice_all {cur L : List Value} (h : cur.length = L.length) : splice cur 0 L = L := by
  unfold splice
  rw [List.take_zero, List.nil_append, Nat.zero_add, List.drop_eq_nil_of_le (by omega), List.append_nil]
theorem Bytes32At.cells {w : World} {g : Nat} {l : List Nat} (hl : l.length = 32) (h : w.heap[g]? = some (.cells (bytesV l) 84 (0, 0))) :
    (convert 51 9 (.slice (some ⟨g, 0, none⟩) 32 32)).run Tryd.prog w = .ok (.string (strN l)) w :=
  conv_row w g 0 32 32 l hl (fun i hi => by rw [Nat.zero_add, cell_of_row _ _ _ _ _ _ h]; exact bytesV_at _ i (by omega))

/-- While the outer hash is made. -/
def MacInv (w : World) (kk text : ByteArray) (g6 : Nat) (u5 u8 u9 u10 u11 u12 u13 u14 u15 u16 u17 u18 u19 u20 u21 u28 u29 : Value) (L : Nat → Bool) (a : Act) (w' : World) : Prop :=
  ∃ x7 x22 x23 x24 x25 x26 x27 : Value, a = ⟨#[.string kk, .string text, undef, undef, .string ⟨#[]⟩, u5, .pointer (some ⟨g6, 0, none⟩), x7, u8, u9, u10, u11, u12, u13, u14, u15, u16, u17, u18, u19, u20, u21, x22, x23, x24, x25, x26, x27, u28, u29], []⟩ ∧ Below w.heap.size w w' ∧ w'.heap[g6]? = some (.cells (bytesV (innN (tx kk) (tx text))) 84 (0, 0)) ∧
    (L 0 = true → x22 = .string kk) ∧ (L 1 = true → x23 = streamV (kmask 92 (tx kk))) ∧ (L 2 = true → x24 = .slice (some ⟨g6, 0, none⟩) 32 32) ∧ (L 3 = true → x25 = .string (strN (innN (tx kk) (tx text)))) ∧
    (L 4 = true → x26 = streamV (kmask 92 (tx kk) ++ innN (tx kk) (tx text))) ∧ (L 5 = true → x27 = .agg (bytesV (outN (tx kk) (tx text)))) ∧
    (L 6 = true → ∃ g Z, x7 = .pointer (some ⟨g, 0, none⟩) ∧ g6 < g ∧ w'.heap[g]? = some (.cells Z 84 (0, 0)) ∧ Z.size = 32) ∧ (L 7 = true → L 6 = true) ∧
    (L 7 = true → ∃ g, x7 = .pointer (some ⟨g, 0, none⟩) ∧ g6 < g ∧ w'.heap[g]? = some (.cells (bytesV (outN (tx kk) (tx text))) 84 (0, 0)))

set_option maxRecDepth 100000 in
set_option maxHeartbeats 3200000 in
theorem Mac_any (key text : ByteArray) (w : World) (hk : key.size ≤ 1000000) (ht : text.size ≤ 1000000) (hK : KR w) :
    Calls Tryd.prog 49 #[.string key, .string text] w fun e w' => e = .returned (.string (strN (macN (tx key) (tx text)))) ∧ Below w.heap.size w w' := by
  have HK := hid hK
  have HTk := hid (tx_length key)
  have HTt := hid (tx_length text)
  clear hK
  go_enter Tryd.func49, Tryd.ntmps49
  go_upto_if 10 with fail
  go_cut [0] (fun s0 wx => Below w.heap.size w wx ∧ ∃ kk : ByteArray, s0 = .string kk ∧ tx kk = shortN (tx key))
  case first =>
    by_cases hkey : 64 < key.size
    · go_wp2_with fail
      refine (Begin_any w).mono ?_
      rintro e w1 ⟨rfl, hb1⟩
      have HB1 := hid hb1
      clear hb1
      go_wp2_with fail
      have hAdd := Add_any [] key w1 (fun x h => by cases h) (by simp; omega) (HK.out.below HB1.out)
      rw [List.nil_append] at hAdd
      refine hAdd.mono ?_
      clear hAdd
      rintro e w2 ⟨rfl, hb2⟩
      have HB2 := hid (further HB1.out hb2)
      clear hb2
      go_wp2_with fail
      refine (StreamSum_any (tx key) w2 (tx_bn key) (by rw [HTk.out]; omega) (HK.out.below HB2.out)).mono ?_
      rintro e w3 ⟨rfl, hb3⟩
      have HB3 := hid (further HB2.out hb3)
      obtain ⟨L, hLL⟩ : ∃ L, L = bytesV (sha (tx key)) := ⟨_, rfl⟩
      rw [← hLL]
      have HL := hid hLL
      have HL32 := hid (show L.size = 32 by rw [hLL, bytesV_size]; rfl)
      clear hb3 hLL
      go_wp2_with (with_reducible refine wpList_store_at rfl 84 (.tmp 5) (.tmp 14) rfl w3.heap.size 0 L rfl rfl _ 84 (heap_alloc_new w3 _) ?s1 ?s2 ?s3 ?_)
      case s1 => rw [HL32.out]; exact Tryd.size_h32
      case s2 => rw [HL32.out]; exact Nat.le_refl _
      case s3 => rw [HL.out]; exact bytesV_one _
      intro w4 F1 F2 F3 F4
      have h4 : w4.heap[w3.heap.size]? = some (.cells (bytesV (sha (tx key))) 84 (0, 0)) := by
        rw [F1.out, splice_all (by show 32 = L.toList.length; rw [Array.length_toList, HL32.out]), HL.out]
      have hcv := Bytes32At.cells (sha_length _) h4
      have HB4 := hid (below_same (HB3.out.alloc HB3.out.size _) HB3.out.size F2.out (F3.out.trans (by simp)) F4.out)
      clear h4
      go_wp2_with fail
      go_meet
      refine ⟨HB4.out, _, rfl, ?_⟩
      rw [tx_strN _ (sha_bn _), shortN, if_pos (by rw [HTk.out]; omega)]
    · go_wp2_with fail
      go_meet
      refine ⟨Below.refl _ _, _, rfl, ?_⟩
      rw [shortN, if_neg (by rw [HTk.out]; omega)]
  case rest =>
    obtain ⟨hb, kk, rfl, hkk⟩ := hcut
    have HKk := hid hkk
    have HB := hid hb
    clear hkk hb
    go_upto_region 4 with fail
    go_cut [6] (fun s6 wx => Below w.heap.size w wx ∧ ∃ g, s6 = .pointer (some ⟨g, 0, none⟩) ∧ w.heap.size ≤ g ∧ wx.heap[g]? = some (.cells (bytesV (innN (tx kk) (tx text))) 84 (0, 0)))
    case first =>
      go_wp2_with fail
      refine (keyed_any kk 54 _ (by decide) (HK.out.below HB.out)).mono ?_
      rintro e w1 ⟨rfl, hb1⟩
      have HB1 := hid (further HB.out hb1)
      clear hb1
      obtain ⟨M1, hM1⟩ : ∃ M1, M1 = kmask 54 (tx kk) := ⟨_, rfl⟩
      rw [← hM1]
      have HM1 := hid hM1
      have hM1l : M1.length = 64 := by rw [hM1, kmask_length]
      have hM1B : Bn M1 := by rw [hM1]; exact kmask_bn (tx_bn kk) (by decide)
      have HM1l := hid hM1l
      have HM1B := hid hM1B
      clear hM1 hM1l hM1B
      go_wp2_with fail
      refine (Add_any M1 text w1 HM1B.out (by rw [HM1l.out]; omega) (HK.out.below HB1.out)).mono ?_
      rintro e w2 ⟨rfl, hb2⟩
      have HB2 := hid (further HB1.out hb2)
      clear hb2
      go_wp2_with fail
      refine (StreamSum_any (M1 ++ tx text) w2 (Bn.append HM1B.out (tx_bn text)) (by rw [List.length_append, HM1l.out, HTt.out]; omega) (HK.out.below HB2.out)).mono ?_
      rintro e w3 ⟨rfl, hb3⟩
      have HB3 := hid (further HB2.out hb3)
      obtain ⟨L, hLL⟩ : ∃ L, L = bytesV (sha (M1 ++ tx text)) := ⟨_, rfl⟩
      rw [← hLL]
      have HL := hid hLL
      have HL32 := hid (show L.size = 32 by rw [hLL, bytesV_size]; rfl)
      clear hb3 hLL
      go_wp2_with (with_reducible refine wpList_store_at rfl 84 (.tmp 6) (.tmp 21) rfl w3.heap.size 0 L rfl rfl _ 84 (heap_alloc_new w3 _) ?s1 ?s2 ?s3 ?_)
      case s1 => rw [HL32.out]; exact Tryd.size_h32
      case s2 => rw [HL32.out]; exact Nat.le_refl _
      case s3 => rw [HL.out]; exact bytesV_one _
      intro w4 F1 F2 F3 F4
      have HB4 := hid (below_same (HB3.out.alloc HB3.out.size _) HB3.out.size F2.out (F3.out.trans (by simp)) F4.out)
      go_wp2_with fail
      go_meet
      refine ⟨HB4.out, _, rfl, HB3.out.size, ?_⟩
      rw [F1.out, splice_all (by show 32 = L.toList.length; rw [Array.length_toList, HL32.out]), HL.out, HM1.out]
      rfl
    case rest =>
      obtain ⟨hb2, g6, rfl, hg6, h6⟩ := hcut
      have HB2 := hid hb2
      have H6 := hid h6
      have HI6 := hid (lt_of_heap h6)
      clear hb2 h6 HB
      go_upto_region 5 with fail
      go_cut [7] (fun s7 wx => Below w.heap.size w wx ∧ ∃ g, s7 = .pointer (some ⟨g, 0, none⟩) ∧ wx.heap[g]? = some (.cells (bytesV (outN (tx kk) (tx text))) 84 (0, 0)))
      case first =>
        rename_i hJ hM
        have hMl := kmask_length 92 (tx kk)
        have hMB := kmask_bn (mask := 92) (tx_bn kk) (by decide)
        have hIl : (innN (tx kk) (tx text)).length = 32 := rfl
        have hIB : Bn (innN (tx kk) (tx text)) := sha_bn _
        refine wp_region_inv (by kernel_rfl) (MacInv w kk text g6 u5 u8 u9 u10 u11 u12 u13 u14 u15 u16 u17 u18 u19 u20 u21 u28 u29) (by kernel_rfl) ?_ ?_ ?_
        · intro L hL
          refine ⟨undef, u22, u23, u24, u25, u26, u27, rfl, HB2.out.drew, stays (Below.drew (Below.refl _ _)) H6.out, ?_⟩
          refine ⟨?_, ?_, ?_, ?_, ?_, ?_, ?_, ?_, ?_⟩ <;> (intro h; rw [hL] at h; cases h)
        · intro L a w' i o ho hLi hdep hI
          obtain ⟨x7, x22, x23, x24, x25, x26, x27, rfl, hb, h6, f0, f1, f2, f3, f4, f5, f6, f76, f7⟩ := hI
          have hi : i < 8 := (Array.getElem?_eq_some_iff.1 ho).1
          rcases (show i = 0 ∨ i = 1 ∨ i = 2 ∨ i = 3 ∨ i = 4 ∨ i = 5 ∨ i = 6 ∨ i = 7 by omega) with rfl | rfl | rfl | rfl | rfl | rfl | rfl | rfl
          · cases (Option.some.inj (show some _ = some o from ho))
            refine ⟨rfl, ?_⟩
            generalize hKK : (fun (a' : Act) (w' : World) => ∀ L', More L 0 L' → MacInv w kk text g6 u5 u8 u9 u10 u11 u12 u13 u14 u15 u16 u17 u18 u19 u20 u21 u28 u29 L' a' w') = KK
            go_simp
            rw [← hKK]
            intro L' hL'
            exact ⟨x7, _, x23, x24, x25, x26, x27, rfl, hb, h6, fun _ => rfl, fun h => f1 (hL'.old (by decide) h), fun h => f2 (hL'.old (by decide) h), fun h => f3 (hL'.old (by decide) h), fun h => f4 (hL'.old (by decide) h), fun h => f5 (hL'.old (by decide) h), fun h => f6 (hL'.old (by decide) h), fun h => by rw [hL' 6]; simp [f76 (hL'.old (by decide) h)], fun h => f7 (hL'.old (by decide) h)⟩
          · cases (Option.some.inj (show some _ = some o from ho))
            refine ⟨rfl, ?_⟩
            generalize hKK : (fun (a' : Act) (w' : World) => ∀ L', More L 1 L' → MacInv w kk text g6 u5 u8 u9 u10 u11 u12 u13 u14 u15 u16 u17 u18 u19 u20 u21 u28 u29 L' a' w') = KK
            obtain rfl := f0 (hdep { on := 0, ground := Ground.data } (by simp) (by rfl))
            go_simp
            refine (keyed_any kk 92 w' (by decide) (HK.out.below hb)).mono ?_
            rintro e w'' ⟨rfl, hb2⟩
            go_simp
            rw [← hKK]
            intro L' hL'
            exact ⟨x7, _, _, x24, x25, x26, x27, rfl, further hb hb2, stays hb2 h6, fun _ => rfl, fun _ => rfl, fun h => f2 (hL'.old (by decide) h), fun h => f3 (hL'.old (by decide) h), fun h => f4 (hL'.old (by decide) h), fun h => f5 (hL'.old (by decide) h), fun h => (f6 (hL'.old (by decide) h)).imp fun g hg => hg.imp fun Z hz => ⟨hz.1, hz.2.1, stays hb2 hz.2.2.1, hz.2.2.2⟩, fun h => by rw [hL' 6]; simp [f76 (hL'.old (by decide) h)], fun h => (f7 (hL'.old (by decide) h)).imp fun g hg => ⟨hg.1, hg.2.1, stays hb2 hg.2.2⟩⟩
          · cases (Option.some.inj (show some _ = some o from ho))
            refine ⟨rfl, ?_⟩
            generalize hKK : (fun (a' : Act) (w' : World) => ∀ L', More L 2 L' → MacInv w kk text g6 u5 u8 u9 u10 u11 u12 u13 u14 u15 u16 u17 u18 u19 u20 u21 u28 u29 L' a' w') = KK
            go_simp
            rw [← hKK]
            intro L' hL'
            exact ⟨x7, x22, x23, _, x25, x26, x27, rfl, hb, h6, fun h => f0 (hL'.old (by decide) h), fun h => f1 (hL'.old (by decide) h), fun _ => rfl, fun h => f3 (hL'.old (by decide) h), fun h => f4 (hL'.old (by decide) h), fun h => f5 (hL'.old (by decide) h), fun h => f6 (hL'.old (by decide) h), fun h => by rw [hL' 6]; simp [f76 (hL'.old (by decide) h)], fun h => f7 (hL'.old (by decide) h)⟩
          · cases (Option.some.inj (show some _ = some o from ho))
            refine ⟨rfl, ?_⟩
            generalize hKK : (fun (a' : Act) (w' : World) => ∀ L', More L 3 L' → MacInv w kk text g6 u5 u8 u9 u10 u11 u12 u13 u14 u15 u16 u17 u18 u19 u20 u21 u28 u29 L' a' w') = KK
            obtain rfl := f2 (hdep { on := 2, ground := Ground.data } (by simp) (by rfl))
            have hcv := Bytes32At.cells hIl h6
            go_simp
            rw [← hKK]
            intro L' hL'
            exact ⟨x7, x22, x23, _, _, x26, x27, rfl, hb, h6, fun h => f0 (hL'.old (by decide) h), fun h => f1 (hL'.old (by decide) h), fun _ => rfl, fun _ => rfl, fun h => f4 (hL'.old (by decide) h), fun h => f5 (hL'.old (by decide) h), fun h => f6 (hL'.old (by decide) h), fun h => by rw [hL' 6]; simp [f76 (hL'.old (by decide) h)], fun h => f7 (hL'.old (by decide) h)⟩
          · cases (Option.some.inj (show some _ = some o from ho))
            refine ⟨rfl, ?_⟩
            generalize hKK : (fun (a' : Act) (w' : World) => ∀ L', More L 4 L' → MacInv w kk text g6 u5 u8 u9 u10 u11 u12 u13 u14 u15 u16 u17 u18 u19 u20 u21 u28 u29 L' a' w') = KK
            obtain rfl := f1 (hdep { on := 1, ground := Ground.data } (by simp) (by rfl))
            obtain rfl := f3 (hdep { on := 3, ground := Ground.data } (by simp) (by rfl))
            have hAdd := Add_any (kmask 92 (tx kk)) (strN (innN (tx kk) (tx text))) w' hMB (by rw [strN_size, hMl, hIl]; decide) (HK.out.below hb)
            rw [tx_strN _ hIB] at hAdd
            go_simp
            refine hAdd.mono ?_
            rintro e w'' ⟨rfl, hb2⟩
            go_simp
            rw [← hKK]
            intro L' hL'
            exact ⟨x7, x22, _, x24, _, _, x27, rfl, further hb hb2, stays hb2 h6, fun h => f0 (hL'.old (by decide) h), fun _ => rfl, fun h => f2 (hL'.old (by decide) h), fun _ => rfl, fun _ => rfl, fun h => f5 (hL'.old (by decide) h), fun h => (f6 (hL'.old (by decide) h)).imp fun g hg => hg.imp fun Z hz => ⟨hz.1, hz.2.1, stays hb2 hz.2.2.1, hz.2.2.2⟩, fun h => by rw [hL' 6]; simp [f76 (hL'.old (by decide) h)], fun h => (f7 (hL'.old (by decide) h)).imp fun g hg => ⟨hg.1, hg.2.1, stays hb2 hg.2.2⟩⟩
          · cases (Option.some.inj (show some _ = some o from ho))
            refine ⟨rfl, ?_⟩
            generalize hKK : (fun (a' : Act) (w' : World) => ∀ L', More L 5 L' → MacInv w kk text g6 u5 u8 u9 u10 u11 u12 u13 u14 u15 u16 u17 u18 u19 u20 u21 u28 u29 L' a' w') = KK
            obtain rfl := f4 (hdep { on := 4, ground := Ground.data } (by simp) (by rfl))
            go_simp
            refine (StreamSum_any (kmask 92 (tx kk) ++ innN (tx kk) (tx text)) w' (Bn.append hMB hIB) (by rw [List.length_append, hMl, hIl]; decide) (HK.out.below hb)).mono ?_
            rintro e w'' ⟨rfl, hb2⟩
            go_simp
            rw [← hKK]
            intro L' hL'
            exact ⟨x7, x22, x23, x24, x25, _, _, rfl, further hb hb2, stays hb2 h6, fun h => f0 (hL'.old (by decide) h), fun h => f1 (hL'.old (by decide) h), fun h => f2 (hL'.old (by decide) h), fun h => f3 (hL'.old (by decide) h), fun _ => rfl, fun _ => rfl, fun h => (f6 (hL'.old (by decide) h)).imp fun g hg => hg.imp fun Z hz => ⟨hz.1, hz.2.1, stays hb2 hz.2.2.1, hz.2.2.2⟩, fun h => by rw [hL' 6]; simp [f76 (hL'.old (by decide) h)], fun h => (f7 (hL'.old (by decide) h)).imp fun g hg => ⟨hg.1, hg.2.1, stays hb2 hg.2.2⟩⟩
          · cases (Option.some.inj (show some _ = some o from ho))
            refine ⟨rfl, ?_⟩
            generalize hKK : (fun (a' : Act) (w' : World) => ∀ L', More L 6 L' → MacInv w kk text g6 u5 u8 u9 u10 u11 u12 u13 u14 u15 u16 u17 u18 u19 u20 u21 u28 u29 L' a' w') = KK
            have hlt := lt_of_heap h6
            go_simp
            rw [← hKK]
            intro L' hL'
            refine ⟨_, x22, x23, x24, x25, x26, x27, rfl, hb.alloc hb.size _, stays ((Below.refl _ _).alloc (Nat.le_refl _) _) h6, fun h => f0 (hL'.old (by decide) h), fun h => f1 (hL'.old (by decide) h), fun h => f2 (hL'.old (by decide) h), fun h => f3 (hL'.old (by decide) h), fun h => f4 (hL'.old (by decide) h), fun h => f5 (hL'.old (by decide) h), fun _ => ⟨_, _, rfl, hlt, heap_alloc_new w' _, rfl⟩, fun _ => by rw [hL' 6]; simp, fun h => ?_⟩
            rw [f76 (hL'.old (by decide) h)] at hLi
            cases hLi
          · cases (Option.some.inj (show some _ = some o from ho))
            refine ⟨rfl, ?_⟩
            obtain rfl := f5 (hdep { on := 5, ground := Ground.data } (by simp) (by rfl))
            have h6L := hdep { on := 6, ground := Ground.data } (by simp) (by rfl)
            obtain ⟨g, Z2, rfl, hg, z1, z2⟩ := f6 h6L
            have h32 : (bytesV (outN (tx kk) (tx text))).size = 32 := by rw [bytesV_size]; rfl
            refine wp_store_row 84 (.tmp 7) (.tmp 27) rfl g (bytesV (outN (tx kk) (tx text))) rfl rfl 84 Z2 z1 (by rw [h32]; exact Tryd.size_h32) (by rw [h32, z2]) (bytesV_one _) ?_
            intro L' hL'
            have hrow := setRow_heap w' g Z2 (bytesV (outN (tx kk) (tx text))) _ _ z1
            exact ⟨_, x22, x23, x24, x25, x26, _, rfl, below_setRow hb (by omega) _, (setRow_other _ _ _ _ (by omega)).trans h6, fun h => f0 (hL'.old (by decide) h), fun h => f1 (hL'.old (by decide) h), fun h => f2 (hL'.old (by decide) h), fun h => f3 (hL'.old (by decide) h), fun h => f4 (hL'.old (by decide) h), fun _ => rfl, fun _ => ⟨g, _, rfl, hg, hrow, h32⟩, fun _ => by rw [hL' 6]; simp [h6L], fun _ => ⟨g, rfl, hg, hrow⟩⟩
        · intro L a w' hall hI
          obtain ⟨x7, x22, x23, x24, x25, x26, x27, rfl, hb, h6, f0, f1, f2, f3, f4, f5, f6, f76, f7⟩ := hI
          obtain ⟨g, rfl, hg, hend⟩ := f7 (hall 7 (by decide))
          refine hM _ _ (hJ _ _ ?_)
          (repeat apply Exists.intro)
          exact ⟨⟨hb, g, rfl, hend⟩, rfl⟩
      case rest =>
        obtain ⟨hb, g, rfl, hend⟩ := hcut
        have hcv := Bytes32At.cells (show (outN (tx kk) (tx text)).length = 32 from rfl) hend
        have HB := hid hb
        clear hb hend
        go_wp2_with fail
        go_ret
        refine ⟨?_, HB.out⟩
        rw [macN, ← HKk.out]
        rfl
end Go.Proofs.YthadfilandmhiaaDoor
