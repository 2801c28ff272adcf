/-
  gantry/hash.Of.
-/
import Derived.Test.YtihljbephlpgcaaDoorHashR
import Derived.Test.YtihljbephlpgcaaDoorHashN
import Derived.Test.YtihljbephlpgcaaDoorHashQ
namespace Go.Proofs.YtihljbephlpgcaaDoor
open Go.RowKit
open Go.Lib (hid)
open S
open W

theorem Tryd.under_d16 : Tryd.prog.underlying 44 = some (.array 16 5) := by kernel_rfl
theorem Tryd.size_d16 : (Tryd.prog.info? 44).map (·.size) = some 16 := by kernel_rfl
theorem arr16 (w : World) (g : Nat) : (Instr.arrayAt 44 (.slice (some ⟨g, 0, none⟩) 16 32)).run Tryd.prog w = .ok (.pointer (some ⟨g, 0, none⟩)) w := by
  simp [Instr.arrayAt, run_underlying Tryd.under_d16]
/-- The strings of a list of parts. -/
def Parts (w : World) (ao : Option Addr) (ss : List ByteArray) : Prop := 0 < ss.length → ∃ b off, ao = some ⟨b, off, none⟩ ∧ b < w.heap.size ∧ ∀ i s, ss[i]? = some s → w.cell? ⟨b, off + i, none⟩ = some (.string s)
theorem Parts.below {w w' : World} {ao : Option Addr} {ss : List ByteArray} (h : Parts w ao ss) (hb : Below w.heap.size w w') : Parts w' ao ss := by
  intro h0
  obtain ⟨b, off, rfl, hlt, hc⟩ := h h0
  exact ⟨b, off, rfl, Nat.lt_of_lt_of_le hlt hb.size, fun i s hs => (hb.cell (p := ⟨b, off + i, none⟩) hlt).trans (hc i s hs)⟩

def tagN (tag : Int) : Nat := (tag % 256).toNat
theorem tagN_lt (tag : Int) : tagN tag < 256 := by unfold tagN; omega
theorem tagN_cast (tag : Int) : IntKind.u8.wrap tag = (tagN tag : Int) := by rw [IntKind.wrap_u8', tagN]; omega
/-- What is hashed for a tag and the first k parts. -/
def ofIn (tag : Int) (ss : List ByteArray) : List Nat := tagN tag :: ss.flatMap fun s => encN (tx s)
def ofN (tag : Int) (ss : List ByteArray) : List Nat := (sha (ofIn tag ss)).take 16
theorem ofIn_bn (tag : Int) (ss : List ByteArray) : Bn (ofIn tag ss) := by
  intro x hx
  rcases List.mem_cons.1 hx with rfl | hx
  · exact tagN_lt tag
  · obtain ⟨s, _, hs⟩ := List.mem_flatMap.1 hx
    exact encN_bn (tx_bn s) x hs
theorem ofIn_le (tag : Int) : ∀ (ss : List ByteArray), (∀ s ∈ ss, s.size ≤ 1000) → (ofIn tag ss).length ≤ 1 + 1009 * ss.length
  | [], _ => by simp [ofIn]
  | s :: ss, h => by
    have ih := ofIn_le tag ss fun t ht => h t (List.mem_cons_of_mem _ ht)
    have h1 := h s (List.mem_cons_self ..)
    have h2 := code_le ((tx s).length : Int)
    simp only [ofIn, List.length_cons, List.flatMap_cons, List.length_append, encN_length, tx_length] at ih h2 ⊢
    omega

/-- The result's block in a call of Of; the stream's block. -/
def Res16 (w w' : World) : Prop := ∃ Z, w'.heap[w.heap.size]? = some (.cells Z 44 (0, 0)) ∧ Z.size = 16
theorem Res16.keep {w w' w'' : World} (h : Res16 w w') (hb : Below w'.heap.size w' w'') : Res16 w w'' := by
  obtain ⟨Z, h1, h2⟩ := h
  exact ⟨Z, stays hb h1, h2⟩
theorem Res16.row {w w' : World} (h : Res16 w w') {g : Nat} (hg : g ≠ w.heap.size) (cs : Array Value) : Res16 w (w'.setRow g cs) := by
  obtain ⟨Z, h1, h2⟩ := h
  exact ⟨Z, (setRow_other _ _ _ _ (by omega)).trans h1, h2⟩
theorem conv_one {w : World} {g x : Nat} (hg : w.heap[g]? = some (.cells #[.int .u8 (x : Int)] 5 (0, 0))) : (convert 22 9 (.slice (some ⟨g, 0, none⟩) 1 1)).run Tryd.prog w = .ok (.string (strN [x])) w :=
  conv_row w g 0 1 1 [x] rfl fun i hi => by
    have h0 : i = 0 := by omega
    subst h0
    rw [Nat.zero_add, cell_of_row _ _ _ _ _ _ hg]
    rfl
theorem tagB (tag : Int) : Bn [tagN tag] := by
  intro x hx
  rw [List.mem_singleton.1 hx]
  exact tagN_lt tag
def OfAt (w : World) (m : List Nat) (g : Nat) (w' : World) : Prop := Below w.heap.size w w' ∧ Res16 w w' ∧ w.heap.size < g ∧ w'.heap[g]? = some (.cells (streamL m).toArray 34 (0, 0))

/-- While the stream of the tag is made. -/
def OfInv (w : World) (tag : Int) (ao : Option Addr) (cap : Nat) (ss : List ByteArray) (L : Nat → Bool) (a : Act) (w' : World) : Prop :=
  ∃ x5 x9 x10 x11 x12 x13 x14 : Value, a = ⟨#[.int .i64 tag, .slice ao ss.length cap, undef, undef, .pointer (some ⟨w.heap.size, 0, none⟩), x5, undef, undef, undef, x9, x10, x11, x12, x13, x14, undef, undef, undef, undef, undef, undef, undef, undef, undef, undef, undef, undef, undef, undef, undef, undef, undef], []⟩ ∧ Below w.heap.size w w' ∧ Res16 w w' ∧
    (L 7 = true → L 6 = true) ∧ (L 0 = true → x9 = streamV []) ∧
    (L 1 = true → x10 = .int .i64 tag) ∧
    (L 2 = true → x11 = .int .u8 (tagN tag : Nat)) ∧
    (L 3 = true → L 4 = false → ∃ g, x12 = .slice (some ⟨g, 0, none⟩) 1 1 ∧ w'.heap[g]? = some (.cells #[.int .u8 (tagN tag : Nat)] 5 (0, 0))) ∧
    (L 4 = true → x13 = .string (strN [tagN tag])) ∧
    (L 5 = true → x14 = streamV [tagN tag]) ∧
    (L 6 = true → ∃ g, x5 = .pointer (some ⟨g, 0, none⟩) ∧ w.heap.size < g ∧ StreamAt w' g) ∧
    (L 7 = true → ∃ g, x5 = .pointer (some ⟨g, 0, none⟩) ∧ w.heap.size < g ∧ w'.heap[g]? = some (.cells (streamL [tagN tag]).toArray 34 (0, 0)))

theorem not_yet {b : Bool} (h : b = true → False) : b = false := by
  cases b with
  | false => rfl
  | true => exact absurd rfl (fun e => h e)
theorem TextOf.keep {w w' : World} {v : Value} {l : List Nat} (h : TextOf w v l) (hb : Below w.heap.size w w') : TextOf w' v l := fun w3 hb3 => h w3 (further hb hb3)
theorem ofIn_snoc (tag : Int) (ss : List ByteArray) (k : Nat) (hk : k < ss.length) : ofIn tag (ss.take (k + 1)) = ofIn tag (ss.take k) ++ encN (tx ss[k]) := by
  unfold ofIn
  rw [List.take_succ_eq_append_getElem hk, List.flatMap_append, List.cons_append]
  simp
/-- While a part is added. -/
def OfInv2 (w : World) (tag : Int) (b off : Nat) (cap : Nat) (ss : List ByteArray) (s : ByteArray) (m : List Nat) (g k : Nat) (u9 u10 u11 u12 u13 u14 u26 u27 u28 u29 u30 u31 : Value) (L : Nat → Bool) (a : Act) (w' : World) : Prop :=
  ∃ x21 x22 x23 x24 x25 : Value, a = ⟨#[.int .i64 tag, .slice (some ⟨b, off, none⟩) ss.length cap, undef, undef, .pointer (some ⟨w.heap.size, 0, none⟩), .pointer (some ⟨g, 0, none⟩), undef, .string s, undef, u9, u10, u11, u12, u13, u14, .slice (some ⟨b, off, none⟩) ss.length cap, .int .i64 (ss.length : Int), .int .i64 (k : Int), .bool true, .pointer (some ⟨b, off + k, none⟩), .string s, x21, x22, x23, x24, x25, u26, u27, u28, u29, u30, u31], []⟩ ∧ Below w.heap.size w w' ∧ Res16 w w' ∧ (L 5 = false → w'.heap[g]? = some (.cells (streamL m).toArray 34 (0, 0))) ∧
    (L 5 = true → L 0 = true) ∧ (L 0 = true → x21 = .agg (streamL m).toArray) ∧
    (L 1 = true → x22 = .string s) ∧
    (L 2 = true → L 3 = false → ∃ v, x23 = v ∧ TextOf w' v (encN (tx s))) ∧
    (L 3 = true → x24 = .string (strN (encN (tx s)))) ∧
    (L 4 = true → x25 = .agg (streamL (m ++ encN (tx s))).toArray) ∧
    (L 5 = true → w'.heap[g]? = some (.cells (streamL (m ++ encN (tx s))).toArray 34 (0, 0)))

set_option maxRecDepth 100000 in
set_option maxHeartbeats 3200000 in
theorem Of_any (tag : Int) (ao : Option Addr) (cap : Nat) (ss : List ByteArray) (w : World) (hp : Parts w ao ss) (hl : ss.length ≤ 1000) (hs : ∀ s ∈ ss, s.size ≤ 1000) (hK : KR w) :
    Calls Tryd.prog 21 #[.int .i64 tag, .slice ao ss.length cap] w fun e w' => e = .returned (.agg (bytesV (ofN tag ss))) ∧ Below w.heap.size w w' := by
  have HP := hid hp
  have HS := hid hs
  have HK := hid hK
  have ht := tagN_cast tag
  have hz := zero_stream
  obtain ⟨Z, hZ⟩ : ∃ Z, Z = (strL (List.replicate 8 0) (List.replicate 64 0) 0).toArray := ⟨_, rfl⟩
  have HZ := hid (show Z.size = 73 by rw [hZ, List.size_toArray]; exact strL_length _ _ _ rfl rfl)
  rw [← hZ] at hz
  clear hp hs hK hZ
  go_enter Tryd.func21, Tryd.ntmps21
  go_upto_region 1 with fail
  go_cut [5] (fun s5 wx => ∃ g, s5 = .pointer (some ⟨g, 0, none⟩) ∧ OfAt w (ofIn tag []) g wx)
  case first =>
    rename_i hJ hM
    have HSt := hid (show Res16 w (w.alloc (.cells #[.int .u8 0, .int .u8 0, .int .u8 0, .int .u8 0, .int .u8 0, .int .u8 0, .int .u8 0, .int .u8 0, .int .u8 0, .int .u8 0, .int .u8 0, .int .u8 0, .int .u8 0, .int .u8 0, .int .u8 0, .int .u8 0] 44)) from ⟨_, heap_alloc_new w _, rfl⟩)
    have HSb := hid (show Below w.heap.size w (w.alloc (.cells #[.int .u8 0, .int .u8 0, .int .u8 0, .int .u8 0, .int .u8 0, .int .u8 0, .int .u8 0, .int .u8 0, .int .u8 0, .int .u8 0, .int .u8 0, .int .u8 0, .int .u8 0, .int .u8 0, .int .u8 0, .int .u8 0] 44)) from (Below.refl _ _).alloc (Nat.le_refl _) _)
    generalize w.alloc (.cells #[.int .u8 0, .int .u8 0, .int .u8 0, .int .u8 0, .int .u8 0, .int .u8 0, .int .u8 0, .int .u8 0, .int .u8 0, .int .u8 0, .int .u8 0, .int .u8 0, .int .u8 0, .int .u8 0, .int .u8 0, .int .u8 0] 44) = w0 at HSt HSb ⊢
    refine wp_region_inv (by kernel_rfl) (OfInv w tag ao cap ss) (by kernel_rfl) ?_ ?_ ?_
    · intro L hL
      refine ⟨undef, undef, undef, undef, undef, undef, undef, rfl, HSb.out.drew, HSt.out.keep (Below.drew (Below.refl _ _)), ?_⟩
      refine ⟨?_, ?_, ?_, ?_, ?_, ?_, ?_, ?_, ?_⟩ <;> (intro h; rw [hL] at h; cases h)
    · intro L a w' i o ho hLi hdep hI
      obtain ⟨x5, x9, x10, x11, x12, x13, x14, rfl, hb, hR, g7_6, f0, f1, f2, f3, f4, f5, f6, f7⟩ := hI
      have hi : i < 8 := (Array.getElem?_eq_some_iff.1 ho).1
      rcases (show i = 0 ∨ i = 1 ∨ i = 2 ∨ i = 3 ∨ i = 4 ∨ i = 5 ∨ i = 6 ∨ i = 7 by omega) with rfl | rfl | rfl | rfl | rfl | rfl | rfl | rfl
      · cases (Option.some.inj (show some _ = some o from ho))
        refine ⟨rfl, ?_⟩
        generalize hKK : (fun (a' : Act) (w' : World) => ∀ L', More L 0 L' → OfInv w tag ao cap ss L' a' w') = KK
        go_simp
        refine (Begin_any w').mono ?_
        rintro e w'' ⟨rfl, hb2⟩
        go_simp
        rw [← hKK]
        intro L' hL'
        exact ⟨x5, _, x10, x11, x12, x13, x14, rfl, further hb hb2, hR.keep hb2, fun h => by rw [hL' 6]; simp [g7_6 (hL'.old (by decide) h)], fun _ => rfl, fun h => f1 (hL'.old (by decide) h), fun h => f2 (hL'.old (by decide) h), fun h h2 => (f3 (hL'.old (by decide) h) (by rw [hL' 4] at h2; simpa using h2)).imp fun g hg => ⟨hg.1, stays hb2 hg.2⟩, fun h => f4 (hL'.old (by decide) h), fun h => f5 (hL'.old (by decide) h), fun h => (f6 (hL'.old (by decide) h)).imp fun g hg => ⟨hg.1, hg.2.1, hg.2.2.keep hb2⟩, fun h => (f7 (hL'.old (by decide) h)).imp fun g hg => ⟨hg.1, hg.2.1, stays hb2 hg.2.2⟩⟩
      · cases (Option.some.inj (show some _ = some o from ho))
        refine ⟨rfl, ?_⟩
        generalize hKK : (fun (a' : Act) (w' : World) => ∀ L', More L 1 L' → OfInv w tag ao cap ss L' a' w') = KK
        go_simp
        rw [← hKK]
        intro L' hL'
        exact ⟨x5, x9, _, x11, x12, x13, x14, rfl, hb, hR, fun h => by rw [hL' 6]; simp [g7_6 (hL'.old (by decide) h)], fun h => f0 (hL'.old (by decide) h), fun _ => rfl, fun h => f2 (hL'.old (by decide) h), fun h h2 => f3 (hL'.old (by decide) h) (by rw [hL' 4] at h2; simpa using h2), fun h => f4 (hL'.old (by decide) h), fun h => f5 (hL'.old (by decide) h), fun h => f6 (hL'.old (by decide) h), fun h => f7 (hL'.old (by decide) h)⟩
      · cases (Option.some.inj (show some _ = some o from ho))
        refine ⟨rfl, ?_⟩
        generalize hKK : (fun (a' : Act) (w' : World) => ∀ L', More L 2 L' → OfInv w tag ao cap ss L' a' w') = KK
        obtain rfl := f1 (hdep { on := 1, ground := Ground.data } (by simp) (by rfl))
        go_simp
        rw [← hKK]
        intro L' hL'
        exact ⟨x5, x9, _, _, x12, x13, x14, rfl, hb, hR, fun h => by rw [hL' 6]; simp [g7_6 (hL'.old (by decide) h)], fun h => f0 (hL'.old (by decide) h), fun _ => rfl, fun _ => rfl, fun h h2 => f3 (hL'.old (by decide) h) (by rw [hL' 4] at h2; simpa using h2), fun h => f4 (hL'.old (by decide) h), fun h => f5 (hL'.old (by decide) h), fun h => f6 (hL'.old (by decide) h), fun h => f7 (hL'.old (by decide) h)⟩
      · cases (Option.some.inj (show some _ = some o from ho))
        refine ⟨rfl, ?_⟩
        generalize hKK : (fun (a' : Act) (w' : World) => ∀ L', More L 3 L' → OfInv w tag ao cap ss L' a' w') = KK
        obtain rfl := f2 (hdep { on := 2, ground := Ground.data } (by simp) (by rfl))
        go_simp
        rw [← hKK]
        intro L' hL'
        have hb2 : Below w'.heap.size w' (w'.alloc (.cells #[.int .u8 (tagN tag : Nat)] 5)) := (Below.refl _ _).alloc (Nat.le_refl _) _
        exact ⟨x5, x9, x10, _, _, x13, x14, rfl, further hb hb2, hR.keep hb2, fun h => by rw [hL' 6]; simp [g7_6 (hL'.old (by decide) h)], fun h => f0 (hL'.old (by decide) h), fun h => f1 (hL'.old (by decide) h), fun _ => rfl, fun _ _ => ⟨_, rfl, heap_alloc_new w' _⟩, fun h => f4 (hL'.old (by decide) h), fun h => f5 (hL'.old (by decide) h), fun h => (f6 (hL'.old (by decide) h)).imp fun g hg => ⟨hg.1, hg.2.1, hg.2.2.keep hb2⟩, fun h => (f7 (hL'.old (by decide) h)).imp fun g hg => ⟨hg.1, hg.2.1, stays hb2 hg.2.2⟩⟩
      · cases (Option.some.inj (show some _ = some o from ho))
        refine ⟨rfl, ?_⟩
        generalize hKK : (fun (a' : Act) (w' : World) => ∀ L', More L 4 L' → OfInv w tag ao cap ss L' a' w') = KK
        obtain ⟨g, rfl, hg⟩ := f3 (hdep { on := 3, ground := Ground.data } (by simp) (by rfl)) hLi
        have hcv := conv_one hg
        go_simp
        rw [← hKK]
        intro L' hL'
        exact ⟨x5, x9, x10, x11, _, _, x14, rfl, hb, hR, fun h => by rw [hL' 6]; simp [g7_6 (hL'.old (by decide) h)], fun h => f0 (hL'.old (by decide) h), fun h => f1 (hL'.old (by decide) h), fun h => f2 (hL'.old (by decide) h), fun _ h2 => by rw [hL' 4] at h2; simp at h2, fun _ => rfl, fun h => f5 (hL'.old (by decide) h), fun h => f6 (hL'.old (by decide) h), fun h => f7 (hL'.old (by decide) h)⟩
      · cases (Option.some.inj (show some _ = some o from ho))
        refine ⟨rfl, ?_⟩
        generalize hKK : (fun (a' : Act) (w' : World) => ∀ L', More L 5 L' → OfInv w tag ao cap ss L' a' w') = KK
        obtain rfl := f0 (hdep { on := 0, ground := Ground.data } (by simp) (by rfl))
        obtain rfl := f4 (hdep { on := 4, ground := Ground.data } (by simp) (by rfl))
        have hAdd := Add_any [] (strN [tagN tag]) w' (fun x h => by cases h) (by rw [strN_size]; show 0 + 1 ≤ 1152921504606846976; omega) (HK.out.below hb)
        rw [tx_strN _ (tagB tag), List.nil_append] at hAdd
        go_simp
        refine (hAdd).mono ?_
        rintro e w'' ⟨rfl, hb2⟩
        go_simp
        rw [← hKK]
        intro L' hL'
        exact ⟨x5, _, x10, x11, x12, _, _, rfl, further hb hb2, hR.keep hb2, fun h => by rw [hL' 6]; simp [g7_6 (hL'.old (by decide) h)], fun _ => rfl, fun h => f1 (hL'.old (by decide) h), fun h => f2 (hL'.old (by decide) h), fun h h2 => (f3 (hL'.old (by decide) h) (by rw [hL' 4] at h2; simpa using h2)).imp fun g hg => ⟨hg.1, stays hb2 hg.2⟩, fun _ => rfl, fun _ => rfl, fun h => (f6 (hL'.old (by decide) h)).imp fun g hg => ⟨hg.1, hg.2.1, hg.2.2.keep hb2⟩, fun h => (f7 (hL'.old (by decide) h)).imp fun g hg => ⟨hg.1, hg.2.1, stays hb2 hg.2.2⟩⟩
      · cases (Option.some.inj (show some _ = some o from ho))
        refine ⟨rfl, ?_⟩
        generalize hKK : (fun (a' : Act) (w' : World) => ∀ L', More L 6 L' → OfInv w tag ao cap ss L' a' w') = KK
        have hlt : w.heap.size < w'.heap.size := by obtain ⟨Z2, h2, _⟩ := hR; exact lt_of_heap h2
        go_simp
        rw [← hKK]
        intro L' hL'
        have hb2 : Below w'.heap.size w' (w'.alloc (.cells Z 34)) := (Below.refl _ _).alloc (Nat.le_refl _) _
        exact ⟨_, x9, x10, x11, x12, x13, x14, rfl, further hb hb2, hR.keep hb2, fun h => by rw [hL' 6]; simp [g7_6 (hL'.old (by decide) h)], fun h => f0 (hL'.old (by decide) h), fun h => f1 (hL'.old (by decide) h), fun h => f2 (hL'.old (by decide) h), fun h h2 => (f3 (hL'.old (by decide) h) (by rw [hL' 4] at h2; simpa using h2)).imp fun g hg => ⟨hg.1, stays hb2 hg.2⟩, fun h => f4 (hL'.old (by decide) h), fun h => f5 (hL'.old (by decide) h), fun _ => ⟨w'.heap.size, rfl, hlt, StreamAt.new w' Z HZ.out⟩, fun h => by rw [g7_6 (hL'.old (by decide) h)] at hLi; cases hLi⟩
      · cases (Option.some.inj (show some _ = some o from ho))
        refine ⟨rfl, ?_⟩
        obtain rfl := f5 (hdep { on := 5, ground := Ground.data } (by simp) (by rfl))
        have h6L := hdep { on := 6, ground := Ground.data } (by simp) (by rfl)
        have h4L := hdep { on := 4, ground := Ground.phase } (by simp) (by rfl)
        obtain ⟨g, rfl, hg, Z2, z1, z2⟩ := f6 h6L
        have h73 : (streamL [tagN tag]).toArray.size = 73 := by rw [List.size_toArray]; exact strL_length _ _ _ rfl (blkOf_length _)
        have hrow := setRow_heap w' g Z2 (streamL [tagN tag]).toArray _ _ z1
        refine wp_store_row 34 (.tmp 5) (.tmp 14) rfl g (streamL [tagN tag]).toArray rfl rfl 34 Z2 z1 (by rw [h73]; exact Tryd.size_s73) (by rw [h73, z2]) (strL_all _ _ _) ?_
        intro L' hL'
        exact ⟨_, x9, x10, x11, x12, x13, _, rfl, below_setRow hb (by omega) _, hR.row (by omega) _, fun _ => by rw [hL' 6]; simp [h6L], fun h => f0 (hL'.old (by decide) h), fun h => f1 (hL'.old (by decide) h), fun h => f2 (hL'.old (by decide) h), fun _ h2 => by rw [hL' 4, h4L] at h2; simp at h2, fun h => f4 (hL'.old (by decide) h), fun _ => rfl, fun _ => ⟨g, rfl, hg, _, hrow, h73⟩, fun _ => ⟨g, rfl, hg, hrow⟩⟩
    · intro L a w' hall hI
      obtain ⟨x5, x9, x10, x11, x12, x13, x14, rfl, hb, hR, g7_6, f0, f1, f2, f3, f4, f5, f6, f7⟩ := hI
      obtain ⟨g, rfl, hg, hend⟩ := f7 (hall 7 (by decide))
      refine hM _ _ (hJ _ _ ?_)
      (repeat apply Exists.intro)
      exact ⟨⟨g, rfl, hb, hR, hg, hend⟩, rfl⟩
  case rest =>
    obtain ⟨g, rfl, hA⟩ := hcut
    have HA := hid hA
    clear hA
    go_upto_block 0 with fail
    go_cut [] (fun wx => OfAt w (ofIn tag ss) g wx)
    case first =>
      go_wp2_with fail
      go_loopw [17] (fun i wr => ∃ k : Nat, k ≤ ss.length ∧ i = .int .i64 k ∧ OfAt w (ofIn tag (ss.take k)) g wr) (fun i _ => ss.length - (intOf i).toNat)
      case atStart => exact ⟨0, by omega, rfl, by rw [List.take_zero]; exact HA.out⟩
      case round =>
        obtain ⟨k, hk, rfl, hrel⟩ := hrel
        by_cases hk8 : k < ss.length
        · obtain ⟨hb, hR, hg, hst⟩ := hrel
          obtain ⟨s, hs⟩ : ∃ s, s = ss[k] := ⟨_, rfl⟩
          obtain ⟨b, off, hao, hlt, hc⟩ := HP.out.below hb (by omega)
          have hcell := hc k s (by rw [hs]; exact List.getElem?_eq_getElem hk8)
          have hsz : s.size ≤ 1000 := HS.out s (by rw [hs]; exact List.getElem_mem _)
          subst hao
          obtain ⟨m, hm⟩ : ∃ m, m = ofIn tag (ss.take k) := ⟨_, rfl⟩
          have hmB : Bn m := by rw [hm]; exact ofIn_bn _ _
          have hml : m.length ≤ 2000000 := by
            have h1 := ofIn_le tag (ss.take k) (fun t ht => HS.out t (List.mem_of_mem_take ht))
            have h2 : (ss.take k).length ≤ 1000 := by rw [List.length_take]; omega
            rw [hm]
            omega
          rw [← hm] at hst
          have HM := hid hm
          have HSk := hid hs
          have HB := hid hb
          have HR := hid hR
          have HSt := hid hst
          have HMB := hid hmB
          clear hc hs hm hb hR hst hmB
          go_upto_region 5 with fail
          obtain ⟨d, hd1, hd2⟩ := Tryd.under_s
          refine wp_region_inv (by kernel_rfl) (OfInv2 w tag b off cap ss s m g k u9 u10 u11 u12 u13 u14 u26 u27 u28 u29 u30 u31) (by kernel_rfl) ?_ ?_ ?_
          · intro L hL
            refine ⟨u21, u22, u23, u24, u25, rfl, HB.out.drew, HR.out.keep (Below.drew (Below.refl _ _)), fun _ => stays (Below.drew (Below.refl _ _)) HSt.out, ?_⟩
            refine ⟨?_, ?_, ?_, ?_, ?_, ?_, ?_⟩ <;> (intro h; rw [hL] at h; cases h)
          · intro L a w' i o ho hLi hdep hI
            obtain ⟨x21, x22, x23, x24, x25, rfl, hb, hR, hst, g5_0, f0, f1, f2, f3, f4, f5⟩ := hI
            have hi : i < 6 := (Array.getElem?_eq_some_iff.1 ho).1
            rcases (show i = 0 ∨ i = 1 ∨ i = 2 ∨ i = 3 ∨ i = 4 ∨ i = 5 by omega) with rfl | rfl | rfl | rfl | rfl | rfl
            · cases (Option.some.inj (show some _ = some o from ho))
              refine ⟨rfl, ?_⟩
              have h5 : L 5 = false := not_yet fun h => by rw [g5_0 h] at hLi; cases hLi
              have h73 : (streamL m).toArray.size = 73 := by rw [List.size_toArray]; exact strL_length _ _ _ rfl (blkOf_length _)
              refine wp_load_row 34 (.tmp 5) rfl g rfl 34 (streamL m).toArray (0, 0) d (hst h5) hd1 (by cases d <;> first | rfl | cases hd2) (by rw [h73]; exact Tryd.size_s73) ?_
              intro L' hL'
              exact ⟨_, x22, x23, x24, x25, rfl, hb, hR, fun h => hst (by rw [hL' 5] at h; simpa using h), fun h => by rw [hL' 0]; simp [g5_0 (hL'.old (by decide) h)], fun _ => rfl, fun h => f1 (hL'.old (by decide) h), fun h h2 => f2 (hL'.old (by decide) h) (by rw [hL' 3] at h2; simpa using h2), fun h => f3 (hL'.old (by decide) h), fun h => f4 (hL'.old (by decide) h), fun h => f5 (hL'.old (by decide) h)⟩
            · cases (Option.some.inj (show some _ = some o from ho))
              refine ⟨rfl, ?_⟩
              generalize hKK : (fun (a' : Act) (w' : World) => ∀ L', More L 1 L' → OfInv2 w tag b off cap ss s m g k u9 u10 u11 u12 u13 u14 u26 u27 u28 u29 u30 u31 L' a' w') = KK
              go_simp
              rw [← hKK]
              intro L' hL'
              exact ⟨x21, _, x23, x24, x25, rfl, hb, hR, fun h => hst (by rw [hL' 5] at h; simpa using h), fun h => by rw [hL' 0]; simp [g5_0 (hL'.old (by decide) h)], fun h => f0 (hL'.old (by decide) h), fun _ => rfl, fun h h2 => f2 (hL'.old (by decide) h) (by rw [hL' 3] at h2; simpa using h2), fun h => f3 (hL'.old (by decide) h), fun h => f4 (hL'.old (by decide) h), fun h => f5 (hL'.old (by decide) h)⟩
            · cases (Option.some.inj (show some _ = some o from ho))
              refine ⟨rfl, ?_⟩
              generalize hKK : (fun (a' : Act) (w' : World) => ∀ L', More L 2 L' → OfInv2 w tag b off cap ss s m g k u9 u10 u11 u12 u13 u14 u26 u27 u28 u29 u30 u31 L' a' w') = KK
              obtain rfl := f1 (hdep { on := 1, ground := Ground.data } (by simp) (by rfl))
              go_simp
              refine (wireBytes_any s w' (by omega)).mono ?_
              rintro e w'' ⟨v, rfl, hb2, hv⟩
              go_simp
              rw [← hKK]
              intro L' hL'
              exact ⟨x21, _, _, x24, x25, rfl, further hb hb2, hR.keep hb2, fun h => stays hb2 (hst (by rw [hL' 5] at h; simpa using h)), fun h => by rw [hL' 0]; simp [g5_0 (hL'.old (by decide) h)], fun h => f0 (hL'.old (by decide) h), fun _ => rfl, fun _ _ => ⟨_, rfl, hv⟩, fun h => f3 (hL'.old (by decide) h), fun h => f4 (hL'.old (by decide) h), fun h => stays hb2 (f5 (hL'.old (by decide) h))⟩
            · cases (Option.some.inj (show some _ = some o from ho))
              refine ⟨rfl, ?_⟩
              generalize hKK : (fun (a' : Act) (w' : World) => ∀ L', More L 3 L' → OfInv2 w tag b off cap ss s m g k u9 u10 u11 u12 u13 u14 u26 u27 u28 u29 u30 u31 L' a' w') = KK
              obtain ⟨v, rfl, hv⟩ := f2 (hdep { on := 2, ground := Ground.data } (by simp) (by rfl)) hLi
              have hcv := hv w' (Below.refl _ _)
              go_simp
              rw [← hKK]
              intro L' hL'
              exact ⟨x21, x22, x23, _, x25, rfl, hb, hR, fun h => hst (by rw [hL' 5] at h; simpa using h), fun h => by rw [hL' 0]; simp [g5_0 (hL'.old (by decide) h)], fun h => f0 (hL'.old (by decide) h), fun h => f1 (hL'.old (by decide) h), fun _ h2 => by rw [hL' 3] at h2; simp at h2, fun _ => rfl, fun h => f4 (hL'.old (by decide) h), fun h => f5 (hL'.old (by decide) h)⟩
            · cases (Option.some.inj (show some _ = some o from ho))
              refine ⟨rfl, ?_⟩
              generalize hKK : (fun (a' : Act) (w' : World) => ∀ L', More L 4 L' → OfInv2 w tag b off cap ss s m g k u9 u10 u11 u12 u13 u14 u26 u27 u28 u29 u30 u31 L' a' w') = KK
              obtain rfl := f0 (hdep { on := 0, ground := Ground.data } (by simp) (by rfl))
              obtain rfl := f3 (hdep { on := 3, ground := Ground.data } (by simp) (by rfl))
              have hAdd := Add_any m (strN (encN (tx s))) w' HMB.out (by rw [strN_size, encN_length, tx_length]; have := code_le ((s.size : Nat) : Int); omega) (HK.out.below hb)
              rw [tx_strN _ (encN_bn (tx_bn s))] at hAdd
              unfold streamV at hAdd
              go_simp
              refine (hAdd).mono ?_
              rintro e w'' ⟨rfl, hb2⟩
              go_simp
              rw [← hKK]
              intro L' hL'
              exact ⟨_, x22, x23, _, _, rfl, further hb hb2, hR.keep hb2, fun h => stays hb2 (hst (by rw [hL' 5] at h; simpa using h)), fun h => by rw [hL' 0]; simp [g5_0 (hL'.old (by decide) h)], fun _ => rfl, fun h => f1 (hL'.old (by decide) h), fun h h2 => (f2 (hL'.old (by decide) h) (by rw [hL' 3] at h2; simpa using h2)).imp fun v hv => ⟨hv.1, hv.2.keep hb2⟩, fun _ => rfl, fun _ => rfl, fun h => stays hb2 (f5 (hL'.old (by decide) h))⟩
            · cases (Option.some.inj (show some _ = some o from ho))
              refine ⟨rfl, ?_⟩
              obtain rfl := f4 (hdep { on := 4, ground := Ground.data } (by simp) (by rfl))
              have h0L := hdep { on := 0, ground := Ground.phase } (by simp) (by rfl)
              have h3L := hdep { on := 3, ground := Ground.phase } (by simp) (by rfl)
              have z1 := hst hLi
              have h73 : ∀ M, (streamL M).toArray.size = 73 := by intro M; rw [List.size_toArray]; exact strL_length _ _ _ rfl (blkOf_length _)
              have hrow := setRow_heap w' g _ (streamL (m ++ encN (tx s))).toArray _ _ z1
              refine wp_store_row 34 (.tmp 5) (.tmp 25) rfl g (streamL (m ++ encN (tx s))).toArray rfl rfl 34 (streamL m).toArray z1 (by rw [h73]; exact Tryd.size_s73) (by rw [h73, h73]) (strL_all _ _ _) ?_
              intro L' hL'
              exact ⟨x21, x22, x23, x24, _, rfl, below_setRow hb (by omega) _, hR.row (by omega) _, fun h => by rw [hL' 5] at h; simp at h, fun _ => by rw [hL' 0]; simp [h0L], fun h => f0 (hL'.old (by decide) h), fun h => f1 (hL'.old (by decide) h), fun _ h2 => by rw [hL' 3, h3L] at h2; simp at h2, fun h => f3 (hL'.old (by decide) h), fun _ => rfl, fun _ => hrow⟩
          · intro L a w' hall hI
            obtain ⟨x21, x22, x23, x24, x25, rfl, hb, hR, hst, g5_0, f0, f1, f2, f3, f4, f5⟩ := hI
            have HE := hid (f5 (hall 5 (by decide)))
            have HB3 := hid hb
            have HR3 := hid hR
            clear hb hR hst g5_0 f0 f1 f2 f3 f4 f5 hall hd1 hd2
            go_wp2
            go_roundw
            case rel => exact ⟨k + 1, by omega, by go_num, HB3.out, HR3.out, hg, by rw [ofIn_snoc tag ss k hk8, ← HM.out, ← HSk.out]; exact HE.out⟩
            case measure => simp [intOf]; omega
        · obtain rfl : k = ss.length := by omega
          rw [List.take_of_length_le (Nat.le_refl _)] at hrel
          have HRr := hid hrel
          clear hrel
          go_wp2
          go_meet
          exact HRr.out
    case rest =>
      obtain ⟨hb, hR, hg, hst⟩ := hcut
      obtain ⟨d, hd1, hd2⟩ := Tryd.under_s
      obtain ⟨M, hM⟩ : ∃ M, M = ofIn tag ss := ⟨_, rfl⟩
      rw [← hM] at hst
      have hmB : Bn M := by rw [hM]; exact ofIn_bn _ _
      have hml : M.length ≤ 2000000 := by
        have h1 := ofIn_le tag ss HS.out
        rw [hM]
        omega
      have HM := hid hM
      have HMB := hid hmB
      have HD1 := hid hd1
      have HD2 := hid hd2
      have HB := hid hb
      have HR := hid hR
      have HSt := hid hst
      have h73 : (streamL M).toArray.size = 73 := by rw [List.size_toArray]; exact strL_length _ _ _ rfl (blkOf_length _)
      have H73 := hid h73
      clear hM hmB hd1 hd2 hb hR hst h73
      go_wp2_with (with_reducible refine wpList_load_whole rfl 34 (.tmp 5) rfl g rfl 34 (streamL M).toArray (0, 0) d HSt.out HD1.out HD2.out (by rw [H73.out]; exact Tryd.size_s73) ?_)
      refine (StreamSum_any M _ HMB.out (by omega) (HK.out.below HB.out)).mono ?_
      rintro e w3 ⟨rfl, hb3⟩
      have HB3 := hid (further HB.out hb3)
      have HR3 := hid (HR.out.keep hb3)
      obtain ⟨L, hLL⟩ : ∃ L, L = bytesV (sha M) := ⟨_, rfl⟩
      rw [← hLL]
      have HL := hid hLL
      have HL32 := hid (show L.size = 32 by rw [hLL, bytesV_size]; rfl)
      clear hb3 hLL
      go_wp2_with (with_reducible refine wpList_store_at rfl 24 (.tmp 8) (.tmp 28) rfl w3.heap.size 0 L rfl rfl _ 24 (heap_alloc_new w3 _) ?s1 ?s2 ?s3 ?_)
      case s1 => rw [HL32.out]; exact Tryd.size_h32
      case s2 => rw [HL32.out]; exact Nat.le_refl _
      case s3 => rw [HL.out]; exact bytesV_one _
      intro w4 F1 F2 F3 F4
      have H4 := hid (show w4.heap[w3.heap.size]? = some (.cells (bytesV (sha M)) 24 (0, 0)) by
        rw [F1.out, splice_all (by show 32 = L.toList.length; rw [Array.length_toList, HL32.out]), HL.out])
      have HB4 := hid (below_same (HB3.out.alloc HB3.out.size _) HB3.out.size F2.out (F3.out.trans (by simp)) F4.out)
      obtain ⟨Z16, y1, y2⟩ := HR3.out
      have hy := lt_of_heap y1
      have HR4 := hid (show w4.heap[w.heap.size]? = some (.cells Z16 44 (0, 0)) from (F2.out _ (by omega)).trans ((Below.heap_alloc _ _ _ hy).trans y1))
      have HY2 := hid y2
      obtain ⟨C, hC⟩ : ∃ C, C = bc ((sha M).take 16) := ⟨_, rfl⟩
      have hCl : C.length = 16 := by rw [hC, bc_length, List.length_take, sha_length]; rfl
      have HC := hid hC
      have HCl := hid hCl
      have HCo := hid (show C.toArray.all (·.oneCell') = true by rw [hC]; exact bytesV_one ((sha M).take 16))
      clear F1 F2 F3 F4 y1 y2 hC hCl
      have hAt := fun W => arr16 W w3.heap.size
      go_wp2_with (first | (with_reducible refine wpList_load_mid rfl 44 (.tmp 30) rfl w3.heap.size 0 rfl C _ ?r0 Tryd.under_d16 rfl ?i0 ?_) | (with_reducible refine wpList_store_row rfl 44 (.tmp 4) (.tmp 31) rfl w.heap.size C.toArray rfl rfl 44 Z16 HR4.out ?q1 ?q2 HCo.out ?_))
      case q1 => rw [List.size_toArray, HCl.out]; exact Tryd.size_d16
      case q2 => exact HY2.out.trans HCl.out.symm
      case r0 => exact range_of (X := []) (Y := bc ((sha M).drop 16)) H4.out (by rw [HC.out, List.nil_append]; unfold bc; rw [← List.map_append, List.take_append_drop]) 0 rfl
      case i0 => rw [HCl.out]; exact Tryd.size_d16
      refine bodyPost_ret (results_cell_row rfl _ _ w.heap.size 44 C.toArray (0, 0) _ rfl (setRow_heap _ _ _ _ _ _ HR4.out) Tryd.under_d16 rfl (by rw [List.size_toArray, HCl.out]; exact Tryd.size_d16)) rfl ?_
      exact ⟨by rw [HC.out, HM.out]; rfl, below_setRow HB4.out (Nat.le_refl _) _⟩

end Go.Proofs.YtihljbephlpgcaaDoor
