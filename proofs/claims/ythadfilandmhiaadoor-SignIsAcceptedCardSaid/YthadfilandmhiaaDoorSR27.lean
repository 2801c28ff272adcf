/-
  gantry/hash.Of.
  Plain: signatures, as lists of numbers.
  Plain: the layer's example, reckoned by the kernel.
-/
import Derived.Test.YthadfilandmhiaaDoorSR24
import Derived.Test.YthadfilandmhiaaDoorSR20
import Derived.Test.YthadfilandmhiaaDoorSR26
import Derived.Test.YthadfilandmhiaaDoorSR1
set_option linter.unusedVariables false
set_option linter.unusedSimpArgs false
set_option linter.unusedSectionVars false
namespace Go.Proofs.YthadfilandmhiaaDoor
open Go.RowKit
open Go.Lib (hid)
open S
open W
theorem Tryd.under_d16 : Tryd.prog.underlying 23 = some (.array 16 5) := by kernel_rfl
theorem Tryd.size_d16 : (Tryd.prog.info? 23).map (·.size) = some 16 := by kernel_rfl
theorem arr16 (w : World) (g : Nat) : (Instr.arrayAt 23 (.slice (some ⟨g, 0, none⟩) 16 32)).run Tryd.prog w = .ok (.pointer (some ⟨g, 0, none⟩)) w := by
  simp [Instr.arrayAt, run_underlying Tryd.under_d16]
/-- The strings of a list of parts. -/
def Parts (w : World) (ao : Option Addr) (ss : List ByteArray) : Prop := 0 < ss.length → ∃ b off, ao = some ⟨b, off, none⟩ ∧ b < w.heap.size ∧ ∀ i s, ss[i]? = some s → w.cell? ⟨b, off + i, none⟩ = some (.string s)
theorem Parts.below {w w' : World} {ao : Option Addr} {ss : List ByteArray} (h : Parts w ao ss) (hb : Below w.heap.size w w') : Parts w' ao ss := by
  intro h0
  obtain ⟨b, off, rfl, hlt, hc⟩ := h h0
  exact ⟨b, off, rfl, Nat.lt_of_lt_of_le hlt hb.size, fun i s hs => (hb.cell (p := ⟨b, off + i, none⟩) hlt).trans (hc i s hs)⟩

def tagN (tag : Int) : Nat := (tag % 256).toNat
theorem tagN_lt (tag : Int) : tagN tag < 256 := by unfold tagN; omega
theorem tagN_cast (tag : Int) : IntKind.u8.wrap tag = (tagN tag : Int) := by rw [IntKind.wrap_u8', tagN]; omega
/-- What is hashed for a tag and the first k parts. -/
def ofIn (tag : Int) (ss : List ByteArray) : List Nat := tagN tag :: ss.flatMap fun s => encN (tx s)
def ofN (tag : Int) (ss : List ByteArray) : List Nat := (sha (ofIn tag ss)).take 16
theorem ofIn_bn (tag : Int) (ss : List ByteArray) : Bn (ofIn tag ss) := by
  intro x hx
  rcases List.mem_cons.1 hx with rfl | hx
  · exact tagN_lt tag
  · obtain ⟨s, _, hs⟩ := List.mem_flatMap.1 hx
    exact encN_bn (tx_bn s) x hs
theorem ofIn_le (tag : Int) : ∀ (ss : List ByteArray), (∀ s ∈ ss, s.size ≤ 2000) → (ofIn tag ss).length ≤ 1 + 2009 * ss.length
  | [], _ => by simp [ofIn]
  | s :: ss, h => by
    have ih := ofIn_le tag ss fun t ht => h t (List.mem_cons_of_mem _ ht)
    have h1 := h s (List.mem_cons_self ..)
    have h2 := code_le ((tx s).length : Int)
    simp only [ofIn, List.length_cons, List.flatMap_cons, List.length_append, encN_length, tx_length] at ih h2 ⊢
    omega

/-- The result's block in a call of Of; the stream's block. -/
def Res16 (w w' : World) : Prop := ∃ Z, w'.heap[w.heap.size]? = some (.cells Z 23 (0, 0)) ∧ Z.size = 16
theorem Res16.keep {w w' w'' : World} (h : Res16 w w') (hb : Below w'.heap.size w' w'') : Res16 w w'' := by
  obtain ⟨Z, h1, h2⟩ := h
  exact ⟨Z, stays hb h1, h2⟩
theorem Res16.row {w w' : World} (h : Res16 w w') {g : Nat} (hg : g ≠ w.heap.size) (cs : Array Value) : Res16 w (w'.setRow g cs) := by
  obtain ⟨Z, h1, h2⟩ := h
  exact ⟨Z, (setRow_other _ _ _ _ (by omega)).trans h1, h2⟩
theorem conv_one {w : World} {g x : Nat} (hg : w.heap[g]? = some (.cells #[.int .u8 (x : Int)] 5 (0, 0))) : (convert 51 9 (.slice (some ⟨g, 0, none⟩) 1 1)).run Tryd.prog w = .ok (.string (strN [x])) w :=
  conv_row w g 0 1 1 [x] rfl fun i hi => by
    have h0 : i = 0 := by omega
    subst h0
    rw [Nat.zero_add, cell_of_row _ _ _ _ _ _ hg]
    rfl
theorem tagB (tag : Int) : Bn [tagN tag] := by
  intro x hx
  rw [List.mem_singleton.1 hx]
  exact tagN_lt tag
def OfAt (w : World) (m : List Nat) (g : Nat) (w' : World) : Prop := Below w.heap.size w w' ∧ Res16 w w' ∧ w.heap.size < g ∧ w'.heap[g]? = some (.cells (streamL m).toArray 80 (0, 0))

/-- While the stream of the tag is made. -/
def OfInv (w : World) (tag : Int) (ao : Option Addr) (cap : Nat) (ss : List ByteArray) (L : Nat → Bool) (a : Act) (w' : World) : Prop :=
  ∃ x5 x9 x10 x11 x12 x13 x14 : Value, a = ⟨#[.int .i64 tag, .slice ao ss.length cap, undef, undef, .pointer (some ⟨w.heap.size, 0, none⟩), x5, undef, undef, undef, x9, x10, x11, x12, x13, x14, undef, undef, undef, undef, undef, undef, undef, undef, undef, undef, undef, undef, undef, undef, undef, undef, undef], []⟩ ∧ Below w.heap.size w w' ∧ Res16 w w' ∧
    (L 7 = true → L 6 = true) ∧ (L 0 = true → x9 = streamV []) ∧
    (L 1 = true → x10 = .int .i64 tag) ∧
    (L 2 = true → x11 = .int .u8 (tagN tag : Nat)) ∧
    (L 3 = true → L 4 = false → ∃ g, x12 = .slice (some ⟨g, 0, none⟩) 1 1 ∧ w'.heap[g]? = some (.cells #[.int .u8 (tagN tag : Nat)] 5 (0, 0))) ∧
    (L 4 = true → x13 = .string (strN [tagN tag])) ∧
    (L 5 = true → x14 = streamV [tagN tag]) ∧
    (L 6 = true → ∃ g, x5 = .pointer (some ⟨g, 0, none⟩) ∧ w.heap.size < g ∧ StreamAt w' g) ∧
    (L 7 = true → ∃ g, x5 = .pointer (some ⟨g, 0, none⟩) ∧ w.heap.size < g ∧ w'.heap[g]? = some (.cells (streamL [tagN tag]).toArray 80 (0, 0)))

theorem not_yet {b : Bool} (h : b = true → False) : b = false := by
  cases b with
  | false => rfl
  | true => exact absurd rfl (fun e => h e)
theorem TextOf.keep {w w' : World} {v : Value} {l : List Nat} (h : TextOf w v l) (hb : Below w.heap.size w w') : TextOf w' v l := fun w3 hb3 => h w3 (further hb hb3)
theorem ofIn_snoc (tag : Int) (ss : List ByteArray) (k : Nat) (hk : k < ss.length) : ofIn tag (ss.take (k + 1)) = ofIn tag (ss.take k) ++ encN (tx ss[k]) := by
  unfold ofIn
  rw [List.take_succ_eq_append_getElem hk, List.flatMap_append, List.cons_append]
  simp
/-- While a part is added. -/
def OfInv2 (w : World) (tag : Int) (b off : Nat) (cap : Nat) (ss : List ByteArray) (s : ByteArray) (m : List Nat) (g k : Nat) (u9 u10 u11 u12 u13 u14 u26 u27 u28 u29 u30 u31 : Value) (L : Nat → Bool) (a : Act) (w' : World) : Prop :=
  ∃ x21 x22 x23 x24 x25 : Value, a = ⟨#[.int .i64 tag, .slice (some ⟨b, off, none⟩) ss.length cap, undef, undef, .pointer (some ⟨w.heap.size, 0, none⟩), .pointer (some ⟨g, 0, none⟩), undef, .string s, undef, u9, u10, u11, u12, u13, u14, .slice (some ⟨b, off, none⟩) ss.length cap, .int .i64 (ss.length : Int), .int .i64 (k : Int), .bool true, .pointer (some ⟨b, off + k, none⟩), .string s, x21, x22, x23, x24, x25, u26, u27, u28, u29, u30, u31], []⟩ ∧ Below w.heap.size w w' ∧ Res16 w w' ∧ (L 5 = false → w'.heap[g]? = some (.cells (streamL m).toArray 80 (0, 0))) ∧
    (L 5 = true → L 0 = true) ∧ (L 0 = true → x21 = .agg (streamL m).toArray) ∧
    (L 1 = true → x22 = .string s) ∧
    (L 2 = true → L 3 = false → ∃ v, x23 = v ∧ TextOf w' v (encN (tx s))) ∧
    (L 3 = true → x24 = .string (strN (encN (tx s)))) ∧
    (L 4 = true → x25 = .agg (streamL (m ++ encN (tx s))).toArray) ∧
    (L 5 = true → w'.heap[g]? = some (.cells (streamL (m ++ encN (tx s))).toArray 80 (0, 0)))

set_option maxRecDepth 100000 in
set_option maxHeartbeats 3200000 in
theorem Of_any (tag : Int) (ao : Option Addr) (cap : Nat) (ss : List ByteArray) (w : World) (hp : Parts w ao ss) (hl : ss.length ≤ 1000) (hs : ∀ s ∈ ss, s.size ≤ 2000) (hK : KR w) :
    Calls Tryd.prog 34 #[.int .i64 tag, .slice ao ss.length cap] w fun e w' => e = .returned (.agg (bytesV (ofN tag ss))) ∧ Below w.heap.size w w' := by
  have HP := hid hp
  have HS := hid hs
  have HK := hid hK
  have ht := tagN_cast tag
  have hz := zero_stream
  obtain ⟨Z, hZ⟩ : ∃ Z, Z = (strL (List.replicate 8 0) (List.replicate 64 0) 0).toArray := ⟨_, rfl⟩
  have HZ := hid (show Z.size = 73 by rw [hZ, List.size_toArray]; exact strL_length _ _ _ rfl rfl)
  rw [← hZ] at hz
  clear hp hs hK hZ
  go_enter Tryd.func34, Tryd.ntmps34
  go_upto_region 1 with fail
  go_cut [5] (fun s5 wx => ∃ g, s5 = .pointer (some ⟨g, 0, none⟩) ∧ OfAt w (ofIn tag []) g wx)
  case first =>
    rename_i hJ hM
    have HSt := hid (show Res16 w (w.alloc (.cells #[.int .u8 0, .int .u8 0, .int .u8 0, .int .u8 0, .int .u8 0, .int .u8 0, .int .u8 0, .int .u8 0, .int .u8 0, .int .u8 0, .int .u8 0, .int .u8 0, .int .u8 0, .int .u8 0, .int .u8 0, .int .u8 0] 23)) from ⟨_, heap_alloc_new w _, rfl⟩)
    have HSb := hid (show Below w.heap.size w (w.alloc (.cells #[.int .u8 0, .int .u8 0, .int .u8 0, .int .u8 0, .int .u8 0, .int .u8 0, .int .u8 0, .int .u8 0, .int .u8 0, .int .u8 0, .int .u8 0, .int .u8 0, .int .u8 0, .int .u8 0, .int .u8 0, .int .u8 0] 23)) from (Below.refl _ _).alloc (Nat.le_refl _) _)
    generalize w.alloc (.cells #[.int .u8 0, .int .u8 0, .int .u8 0, .int .u8 0, .int .u8 0, .int .u8 0, .int .u8 0, .int .u8 0, .int .u8 0, .int .u8 0, .int .u8 0, .int .u8 0, .int .u8 0, .int .u8 0, .int .u8 0, .int .u8 0] 23) = w0 at HSt HSb ⊢
    refine wp_region_inv (by kernel_rfl) (OfInv w tag ao cap ss) (by kernel_rfl) ?_ ?_ ?_
    · intro L hL
      refine ⟨undef, undef, undef, undef, undef, undef, undef, rfl, HSb.out.drew, HSt.out.keep (Below.drew (Below.refl _ _)), ?_⟩
      refine ⟨?_, ?_, ?_, ?_, ?_, ?_, ?_, ?_, ?_⟩ <;> (intro h; rw [hL] at h; cases h)
    · intro L a w' i o ho hLi hdep hI
      obtain ⟨x5, x9, x10, x11, x12, x13, x14, rfl, hb, hR, g7_6, f0, f1, f2, f3, f4, f5, f6, f7⟩ := hI
      have hi : i < 8 := (Array.getElem?_eq_some_iff.1 ho).1
      rcases (show i = 0 ∨ i = 1 ∨ i = 2 ∨ i = 3 ∨ i = 4 ∨ i = 5 ∨ i = 6 ∨ i = 7 by omega) with rfl | rfl | rfl | rfl | rfl | rfl | rfl | rfl
      · cases (Option.some.inj (show some _ = some o from ho))
        refine ⟨rfl, ?_⟩
        generalize hKK : (fun (a' : Act) (w' : World) => ∀ L', More L 0 L' → OfInv w tag ao cap ss L' a' w') = KK
        go_simp
        refine (Begin_any w').mono ?_
        rintro e w'' ⟨rfl, hb2⟩
        go_simp
        rw [← hKK]
        intro L' hL'
        exact ⟨x5, _, x10, x11, x12, x13, x14, rfl, further hb hb2, hR.keep hb2, fun h => by rw [hL' 6]; simp [g7_6 (hL'.old (by decide) h)], fun _ => rfl, fun h => f1 (hL'.old (by decide) h), fun h => f2 (hL'.old (by decide) h), fun h h2 => (f3 (hL'.old (by decide) h) (by rw [hL' 4] at h2; simpa using h2)).imp fun g hg => ⟨hg.1, stays hb2 hg.2⟩, fun h => f4 (hL'.old (by decide) h), fun h => f5 (hL'.old (by decide) h), fun h => (f6 (hL'.old (by decide) h)).imp fun g hg => ⟨hg.1, hg.2.1, hg.2.2.keep hb2⟩, fun h => (f7 (hL'.old (by decide) h)).imp fun g hg => ⟨hg.1, hg.2.1, stays hb2 hg.2.2⟩⟩
      · cases (Option.some.inj (show some _ = some o from ho))
        refine ⟨rfl, ?_⟩
        generalize hKK : (fun (a' : Act) (w' : World) => ∀ L', More L 1 L' → OfInv w tag ao cap ss L' a' w') = KK
        go_simp
        rw [← hKK]
        intro L' hL'
        exact ⟨x5, x9, _, x11, x12, x13, x14, rfl, hb, hR, fun h => by rw [hL' 6]; simp [g7_6 (hL'.old (by decide) h)], fun h => f0 (hL'.old (by decide) h), fun _ => rfl, fun h => f2 (hL'.old (by decide) h), fun h h2 => f3 (hL'.old (by decide) h) (by rw [hL' 4] at h2; simpa using h2), fun h => f4 (hL'.old (by decide) h), fun h => f5 (hL'.old (by decide) h), fun h => f6 (hL'.old (by decide) h), fun h => f7 (hL'.old (by decide) h)⟩
      · cases (Option.some.inj (show some _ = some o from ho))
        refine ⟨rfl, ?_⟩
        generalize hKK : (fun (a' : Act) (w' : World) => ∀ L', More L 2 L' → OfInv w tag ao cap ss L' a' w') = KK
        obtain rfl := f1 (hdep { on := 1, ground := Ground.data } (by simp) (by rfl))
        go_simp
        rw [← hKK]
        intro L' hL'
        exact ⟨x5, x9, _, _, x12, x13, x14, rfl, hb, hR, fun h => by rw [hL' 6]; simp [g7_6 (hL'.old (by decide) h)], fun h => f0 (hL'.old (by decide) h), fun _ => rfl, fun _ => rfl, fun h h2 => f3 (hL'.old (by decide) h) (by rw [hL' 4] at h2; simpa using h2), fun h => f4 (hL'.old (by decide) h), fun h => f5 (hL'.old (by decide) h), fun h => f6 (hL'.old (by decide) h), fun h => f7 (hL'.old (by decide) h)⟩
      · cases (Option.some.inj (show some _ = some o from ho))
        refine ⟨rfl, ?_⟩
        generalize hKK : (fun (a' : Act) (w' : World) => ∀ L', More L 3 L' → OfInv w tag ao cap ss L' a' w') = KK
        obtain rfl := f2 (hdep { on := 2, ground := Ground.data } (by simp) (by rfl))
        go_simp
        rw [← hKK]
        intro L' hL'
        have hb2 : Below w'.heap.size w' (w'.alloc (.cells #[.int .u8 (tagN tag : Nat)] 5)) := (Below.refl _ _).alloc (Nat.le_refl _) _
        exact ⟨x5, x9, x10, _, _, x13, x14, rfl, further hb hb2, hR.keep hb2, fun h => by rw [hL' 6]; simp [g7_6 (hL'.old (by decide) h)], fun h => f0 (hL'.old (by decide) h), fun h => f1 (hL'.old (by decide) h), fun _ => rfl, fun _ _ => ⟨_, rfl, heap_alloc_new w' _⟩, fun h => f4 (hL'.old (by decide) h), fun h => f5 (hL'.old (by decide) h), fun h => (f6 (hL'.old (by decide) h)).imp fun g hg => ⟨hg.1, hg.2.1, hg.2.2.keep hb2⟩, fun h => (f7 (hL'.old (by decide) h)).imp fun g hg => ⟨hg.1, hg.2.1, stays hb2 hg.2.2⟩⟩
      · cases (Option.some.inj (show some _ = some o from ho))
        refine ⟨rfl, ?_⟩
        generalize hKK : (fun (a' : Act) (w' : World) => ∀ L', More L 4 L' → OfInv w tag ao cap ss L' a' w') = KK
        obtain ⟨g, rfl, hg⟩ := f3 (hdep { on := 3, ground := Ground.data } (by simp) (by rfl)) hLi
        have hcv := conv_one hg
        go_simp
        rw [← hKK]
        intro L' hL'
        exact ⟨x5, x9, x10, x11, _, _, x14, rfl, hb, hR, fun h => by rw [hL' 6]; simp [g7_6 (hL'.old (by decide) h)], fun h => f0 (hL'.old (by decide) h), fun h => f1 (hL'.old (by decide) h), fun h => f2 (hL'.old (by decide) h), fun _ h2 => by rw [hL' 4] at h2; simp at h2, fun _ => rfl, fun h => f5 (hL'.old (by decide) h), fun h => f6 (hL'.old (by decide) h), fun h => f7 (hL'.old (by decide) h)⟩
      · cases (Option.some.inj (show some _ = some o from ho))
        refine ⟨rfl, ?_⟩
        generalize hKK : (fun (a' : Act) (w' : World) => ∀ L', More L 5 L' → OfInv w tag ao cap ss L' a' w') = KK
        obtain rfl := f0 (hdep { on := 0, ground := Ground.data } (by simp) (by rfl))
        obtain rfl := f4 (hdep { on := 4, ground := Ground.data } (by simp) (by rfl))
        have hAdd := Add_any [] (strN [tagN tag]) w' (fun x h => by cases h) (by rw [strN_size]; show 0 + 1 ≤ 1152921504606846976; omega) (HK.out.below hb)
        rw [tx_strN _ (tagB tag), List.nil_append] at hAdd
        go_simp
        refine (hAdd).mono ?_
        rintro e w'' ⟨rfl, hb2⟩
        go_simp
        rw [← hKK]
        intro L' hL'
        exact ⟨x5, _, x10, x11, x12, _, _, rfl, further hb hb2, hR.keep hb2, fun h => by rw [hL' 6]; simp [g7_6 (hL'.old (by decide) h)], fun _ => rfl, fun h => f1 (hL'.old (by decide) h), fun h => f2 (hL'.old (by decide) h), fun h h2 => (f3 (hL'.old (by decide) h) (by rw [hL' 4] at h2; simpa using h2)).imp fun g hg => ⟨hg.1, stays hb2 hg.2⟩, fun _ => rfl, fun _ => rfl, fun h => (f6 (hL'.old (by decide) h)).imp fun g hg => ⟨hg.1, hg.2.1, hg.2.2.keep hb2⟩, fun h => (f7 (hL'.old (by decide) h)).imp fun g hg => ⟨hg.1, hg.2.1, stays hb2 hg.2.2⟩⟩
      · cases (Option.some.inj (show some _ = some o from ho))
        refine ⟨rfl, ?_⟩
        generalize hKK : (fun (a' : Act) (w' : World) => ∀ L', More L 6 L' → OfInv w tag ao cap ss L' a' w') = KK
        have hlt : w.heap.size < w'.heap.size := by obtain ⟨Z2, h2, _⟩ := hR; exact lt_of_heap h2
        go_simp
        rw [← hKK]
        intro L' hL'
        have hb2 : Below w'.heap.size w' (w'.alloc (.cells Z 80)) := (Below.refl _ _).alloc (Nat.le_refl _) _
        exact ⟨_, x9, x10, x11, x12, x13, x14, rfl, further hb hb2, hR.keep hb2, fun h => by rw [hL' 6]; simp [g7_6 (hL'.old (by decide) h)], fun h => f0 (hL'.old (by decide) h), fun h => f1 (hL'.old (by decide) h), fun h => f2 (hL'.old (by decide) h), fun h h2 => (f3 (hL'.old (by decide) h) (by rw [hL' 4] at h2; simpa using h2)).imp fun g hg => ⟨hg.1, stays hb2 hg.2⟩, fun h => f4 (hL'.old (by decide) h), fun h => f5 (hL'.old (by decide) h), fun _ => ⟨w'.heap.size, rfl, hlt, StreamAt.new w' Z HZ.out⟩, fun h => by rw [g7_6 (hL'.old (by decide) h)] at hLi; cases hLi⟩
      · cases (Option.some.inj (show some _ = some o from ho))
        refine ⟨rfl, ?_⟩
        obtain rfl := f5 (hdep { on := 5, ground := Ground.data } (by simp) (by rfl))
        have h6L := hdep { on := 6, ground := Ground.data } (by simp) (by rfl)
        have h4L := hdep { on := 4, ground := Ground.phase } (by simp) (by rfl)
        obtain ⟨g, rfl, hg, Z2, z1, z2⟩ := f6 h6L
        have h73 : (streamL [tagN tag]).toArray.size = 73 := by rw [List.size_toArray]; exact strL_length _ _ _ rfl (blkOf_length _)
        have hrow := setRow_heap w' g Z2 (streamL [tagN tag]).toArray _ _ z1
        refine wp_store_row 80 (.tmp 5) (.tmp 14) rfl g (streamL [tagN tag]).toArray rfl rfl 80 Z2 z1 (by rw [h73]; exact Tryd.size_s73) (by rw [h73, z2]) (strL_all _ _ _) ?_
        intro L' hL'
        exact ⟨_, x9, x10, x11, x12, x13, _, rfl, below_setRow hb (by omega) _, hR.row (by omega) _, fun _ => by rw [hL' 6]; simp [h6L], fun h => f0 (hL'.old (by decide) h), fun h => f1 (hL'.old (by decide) h), fun h => f2 (hL'.old (by decide) h), fun _ h2 => by rw [hL' 4, h4L] at h2; simp at h2, fun h => f4 (hL'.old (by decide) h), fun _ => rfl, fun _ => ⟨g, rfl, hg, _, hrow, h73⟩, fun _ => ⟨g, rfl, hg, hrow⟩⟩
    · intro L a w' hall hI
      obtain ⟨x5, x9, x10, x11, x12, x13, x14, rfl, hb, hR, g7_6, f0, f1, f2, f3, f4, f5, f6, f7⟩ := hI
      obtain ⟨g, rfl, hg, hend⟩ := f7 (hall 7 (by decide))
      refine hM _ _ (hJ _ _ ?_)
      (repeat apply Exists.intro)
      exact ⟨⟨g, rfl, hb, hR, hg, hend⟩, rfl⟩
  case rest =>
    obtain ⟨g, rfl, hA⟩ := hcut
    have HA := hid hA
    clear hA
    go_upto_block 0 with fail
    go_cut [] (fun wx => OfAt w (ofIn tag ss) g wx)
    case first =>
      go_wp2_with fail
      go_loopw [17] (fun i wr => ∃ k : Nat, k ≤ ss.length ∧ i = .int .i64 k ∧ OfAt w (ofIn tag (ss.take k)) g wr) (fun i _ => ss.length - (intOf i).toNat)
      case atStart => exact ⟨0, by omega, rfl, by rw [List.take_zero]; exact HA.out⟩
      case round =>
        obtain ⟨k, hk, rfl, hrel⟩ := hrel
        by_cases hk8 : k < ss.length
        · obtain ⟨hb, hR, hg, hst⟩ := hrel
          obtain ⟨s, hs⟩ : ∃ s, s = ss[k] := ⟨_, rfl⟩
          obtain ⟨b, off, hao, hlt, hc⟩ := HP.out.below hb (by omega)
          have hcell := hc k s (by rw [hs]; exact List.getElem?_eq_getElem hk8)
          have hsz : s.size ≤ 2000 := HS.out s (by rw [hs]; exact List.getElem_mem _)
          subst hao
          obtain ⟨m, hm⟩ : ∃ m, m = ofIn tag (ss.take k) := ⟨_, rfl⟩
          have hmB : Bn m := by rw [hm]; exact ofIn_bn _ _
          have hml : m.length ≤ 2100000 := by
            have h1 := ofIn_le tag (ss.take k) (fun t ht => HS.out t (List.mem_of_mem_take ht))
            have h2 : (ss.take k).length ≤ 1000 := by rw [List.length_take]; omega
            rw [hm]
            omega
          rw [← hm] at hst
          have HM := hid hm
          have HSk := hid hs
          have HB := hid hb
          have HR := hid hR
          have HSt := hid hst
          have HMB := hid hmB
          clear hc hs hm hb hR hst hmB
          go_upto_region 5 with fail
          obtain ⟨d, hd1, hd2⟩ := Tryd.under_s
          refine wp_region_inv (by kernel_rfl) (OfInv2 w tag b off cap ss s m g k u9 u10 u11 u12 u13 u14 u26 u27 u28 u29 u30 u31) (by kernel_rfl) ?_ ?_ ?_
          · intro L hL
            refine ⟨u21, u22, u23, u24, u25, rfl, HB.out.drew, HR.out.keep (Below.drew (Below.refl _ _)), fun _ => stays (Below.drew (Below.refl _ _)) HSt.out, ?_⟩
            refine ⟨?_, ?_, ?_, ?_, ?_, ?_, ?_⟩ <;> (intro h; rw [hL] at h; cases h)
          · intro L a w' i o ho hLi hdep hI
            obtain ⟨x21, x22, x23, x24, x25, rfl, hb, hR, hst, g5_0, f0, f1, f2, f3, f4, f5⟩ := hI
            have hi : i < 6 := (Array.getElem?_eq_some_iff.1 ho).1
            rcases (show i = 0 ∨ i = 1 ∨ i = 2 ∨ i = 3 ∨ i = 4 ∨ i = 5 by omega) with rfl | rfl | rfl | rfl | rfl | rfl
            · cases (Option.some.inj (show some _ = some o from ho))
              refine ⟨rfl, ?_⟩
              have h5 : L 5 = false := not_yet fun h => by rw [g5_0 h] at hLi; cases hLi
              have h73 : (streamL m).toArray.size = 73 := by rw [List.size_toArray]; exact strL_length _ _ _ rfl (blkOf_length _)
              refine wp_load_row 80 (.tmp 5) rfl g rfl 80 (streamL m).toArray (0, 0) d (hst h5) hd1 (by cases d <;> first | rfl | cases hd2) (by rw [h73]; exact Tryd.size_s73) ?_
              intro L' hL'
              exact ⟨_, x22, x23, x24, x25, rfl, hb, hR, fun h => hst (by rw [hL' 5] at h; simpa using h), fun h => by rw [hL' 0]; simp [g5_0 (hL'.old (by decide) h)], fun _ => rfl, fun h => f1 (hL'.old (by decide) h), fun h h2 => f2 (hL'.old (by decide) h) (by rw [hL' 3] at h2; simpa using h2), fun h => f3 (hL'.old (by decide) h), fun h => f4 (hL'.old (by decide) h), fun h => f5 (hL'.old (by decide) h)⟩
            · cases (Option.some.inj (show some _ = some o from ho))
              refine ⟨rfl, ?_⟩
              generalize hKK : (fun (a' : Act) (w' : World) => ∀ L', More L 1 L' → OfInv2 w tag b off cap ss s m g k u9 u10 u11 u12 u13 u14 u26 u27 u28 u29 u30 u31 L' a' w') = KK
              go_simp
              rw [← hKK]
              intro L' hL'
              exact ⟨x21, _, x23, x24, x25, rfl, hb, hR, fun h => hst (by rw [hL' 5] at h; simpa using h), fun h => by rw [hL' 0]; simp [g5_0 (hL'.old (by decide) h)], fun h => f0 (hL'.old (by decide) h), fun _ => rfl, fun h h2 => f2 (hL'.old (by decide) h) (by rw [hL' 3] at h2; simpa using h2), fun h => f3 (hL'.old (by decide) h), fun h => f4 (hL'.old (by decide) h), fun h => f5 (hL'.old (by decide) h)⟩
            · cases (Option.some.inj (show some _ = some o from ho))
              refine ⟨rfl, ?_⟩
              generalize hKK : (fun (a' : Act) (w' : World) => ∀ L', More L 2 L' → OfInv2 w tag b off cap ss s m g k u9 u10 u11 u12 u13 u14 u26 u27 u28 u29 u30 u31 L' a' w') = KK
              obtain rfl := f1 (hdep { on := 1, ground := Ground.data } (by simp) (by rfl))
              go_simp
              refine (wireBytes_any s w' (by omega)).mono ?_
              rintro e w'' ⟨v, rfl, hb2, hv⟩
              go_simp
              rw [← hKK]
              intro L' hL'
              exact ⟨x21, _, _, x24, x25, rfl, further hb hb2, hR.keep hb2, fun h => stays hb2 (hst (by rw [hL' 5] at h; simpa using h)), fun h => by rw [hL' 0]; simp [g5_0 (hL'.old (by decide) h)], fun h => f0 (hL'.old (by decide) h), fun _ => rfl, fun _ _ => ⟨_, rfl, hv⟩, fun h => f3 (hL'.old (by decide) h), fun h => f4 (hL'.old (by decide) h), fun h => stays hb2 (f5 (hL'.old (by decide) h))⟩
            · cases (Option.some.inj (show some _ = some o from ho))
              refine ⟨rfl, ?_⟩
              generalize hKK : (fun (a' : Act) (w' : World) => ∀ L', More L 3 L' → OfInv2 w tag b off cap ss s m g k u9 u10 u11 u12 u13 u14 u26 u27 u28 u29 u30 u31 L' a' w') = KK
              obtain ⟨v, rfl, hv⟩ := f2 (hdep { on := 2, ground := Ground.data } (by simp) (by rfl)) hLi
              have hcv := hv w' (Below.refl _ _)
              go_simp
              rw [← hKK]
              intro L' hL'
              exact ⟨x21, x22, x23, _, x25, rfl, hb, hR, fun h => hst (by rw [hL' 5] at h; simpa using h), fun h => by rw [hL' 0]; simp [g5_0 (hL'.old (by decide) h)], fun h => f0 (hL'.old (by decide) h), fun h => f1 (hL'.old (by decide) h), fun _ h2 => by rw [hL' 3] at h2; simp at h2, fun _ => rfl, fun h => f4 (hL'.old (by decide) h), fun h => f5 (hL'.old (by decide) h)⟩
            · cases (Option.some.inj (show some _ = some o from ho))
              refine ⟨rfl, ?_⟩
              generalize hKK : (fun (a' : Act) (w' : World) => ∀ L', More L 4 L' → OfInv2 w tag b off cap ss s m g k u9 u10 u11 u12 u13 u14 u26 u27 u28 u29 u30 u31 L' a' w') = KK
              obtain rfl := f0 (hdep { on := 0, ground := Ground.data } (by simp) (by rfl))
              obtain rfl := f3 (hdep { on := 3, ground := Ground.data } (by simp) (by rfl))
              have hAdd := Add_any m (strN (encN (tx s))) w' HMB.out (by rw [strN_size, encN_length, tx_length]; have := code_le ((s.size : Nat) : Int); omega) (HK.out.below hb)
              rw [tx_strN _ (encN_bn (tx_bn s))] at hAdd
              unfold streamV at hAdd
              go_simp
              refine (hAdd).mono ?_
              rintro e w'' ⟨rfl, hb2⟩
              go_simp
              rw [← hKK]
              intro L' hL'
              exact ⟨_, x22, x23, _, _, rfl, further hb hb2, hR.keep hb2, fun h => stays hb2 (hst (by rw [hL' 5] at h; simpa using h)), fun h => by rw [hL' 0]; simp [g5_0 (hL'.old (by decide) h)], fun _ => rfl, fun h => f1 (hL'.old (by decide) h), fun h h2 => (f2 (hL'.old (by decide) h) (by rw [hL' 3] at h2; simpa using h2)).imp fun v hv => ⟨hv.1, hv.2.keep hb2⟩, fun _ => rfl, fun _ => rfl, fun h => stays hb2 (f5 (hL'.old (by decide) h))⟩
            · cases (Option.some.inj (show some _ = some o from ho))
              refine ⟨rfl, ?_⟩
              obtain rfl := f4 (hdep { on := 4, ground := Ground.data } (by simp) (by rfl))
              have h0L := hdep { on := 0, ground := Ground.phase } (by simp) (by rfl)
              have h3L := hdep { on := 3, ground := Ground.phase } (by simp) (by rfl)
              have z1 := hst hLi
              have h73 : ∀ M, (streamL M).toArray.size = 73 := by intro M; rw [List.size_toArray]; exact strL_length _ _ _ rfl (blkOf_length _)
              have hrow := setRow_heap w' g _ (streamL (m ++ encN (tx s))).toArray _ _ z1
              refine wp_store_row 80 (.tmp 5) (.tmp 25) rfl g (streamL (m ++ encN (tx s))).toArray rfl rfl 80 (streamL m).toArray z1 (by rw [h73]; exact Tryd.size_s73) (by rw [h73, h73]) (strL_all _ _ _) ?_
              intro L' hL'
              exact ⟨x21, x22, x23, x24, _, rfl, below_setRow hb (by omega) _, hR.row (by omega) _, fun h => by rw [hL' 5] at h; simp at h, fun _ => by rw [hL' 0]; simp [h0L], fun h => f0 (hL'.old (by decide) h), fun h => f1 (hL'.old (by decide) h), fun _ h2 => by rw [hL' 3, h3L] at h2; simp at h2, fun h => f3 (hL'.old (by decide) h), fun _ => rfl, fun _ => hrow⟩
          · intro L a w' hall hI
            obtain ⟨x21, x22, x23, x24, x25, rfl, hb, hR, hst, g5_0, f0, f1, f2, f3, f4, f5⟩ := hI
            have HE := hid (f5 (hall 5 (by decide)))
            have HB3 := hid hb
            have HR3 := hid hR
            clear hb hR hst g5_0 f0 f1 f2 f3 f4 f5 hall hd1 hd2
            go_wp2
            go_roundw
            case rel => exact ⟨k + 1, by omega, by go_num, HB3.out, HR3.out, hg, by rw [ofIn_snoc tag ss k hk8, ← HM.out, ← HSk.out]; exact HE.out⟩
            case measure => simp [intOf]; omega
        · obtain rfl : k = ss.length := by omega
          rw [List.take_of_length_le (Nat.le_refl _)] at hrel
          have HRr := hid hrel
          clear hrel
          go_wp2
          go_meet
          exact HRr.out
    case rest =>
      obtain ⟨hb, hR, hg, hst⟩ := hcut
      obtain ⟨d, hd1, hd2⟩ := Tryd.under_s
      obtain ⟨M, hM⟩ : ∃ M, M = ofIn tag ss := ⟨_, rfl⟩
      rw [← hM] at hst
      have hmB : Bn M := by rw [hM]; exact ofIn_bn _ _
      have hml : M.length ≤ 2100000 := by
        have h1 := ofIn_le tag ss HS.out
        rw [hM]
        omega
      have HM := hid hM
      have HMB := hid hmB
      have HD1 := hid hd1
      have HD2 := hid hd2
      have HB := hid hb
      have HR := hid hR
      have HSt := hid hst
      have h73 : (streamL M).toArray.size = 73 := by rw [List.size_toArray]; exact strL_length _ _ _ rfl (blkOf_length _)
      have H73 := hid h73
      clear hM hmB hd1 hd2 hb hR hst h73
      go_wp2_with (with_reducible refine wpList_load_whole rfl 80 (.tmp 5) rfl g rfl 80 (streamL M).toArray (0, 0) d HSt.out HD1.out HD2.out (by rw [H73.out]; exact Tryd.size_s73) ?_)
      refine (StreamSum_any M _ HMB.out (by omega) (HK.out.below HB.out)).mono ?_
      rintro e w3 ⟨rfl, hb3⟩
      have HB3 := hid (further HB.out hb3)
      have HR3 := hid (HR.out.keep hb3)
      obtain ⟨L, hLL⟩ : ∃ L, L = bytesV (sha M) := ⟨_, rfl⟩
      rw [← hLL]
      have HL := hid hLL
      have HL32 := hid (show L.size = 32 by rw [hLL, bytesV_size]; rfl)
      clear hb3 hLL
      go_wp2_with (with_reducible refine wpList_store_at rfl 84 (.tmp 8) (.tmp 28) rfl w3.heap.size 0 L rfl rfl _ 84 (heap_alloc_new w3 _) ?s1 ?s2 ?s3 ?_)
      case s1 => rw [HL32.out]; exact Tryd.size_h32
      case s2 => rw [HL32.out]; exact Nat.le_refl _
      case s3 => rw [HL.out]; exact bytesV_one _
      intro w4 F1 F2 F3 F4
      have H4 := hid (show w4.heap[w3.heap.size]? = some (.cells (bytesV (sha M)) 84 (0, 0)) by
        rw [F1.out, splice_all (by show 32 = L.toList.length; rw [Array.length_toList, HL32.out]), HL.out])
      have HB4 := hid (below_same (HB3.out.alloc HB3.out.size _) HB3.out.size F2.out (F3.out.trans (by simp)) F4.out)
      obtain ⟨Z16, y1, y2⟩ := HR3.out
      have hy := lt_of_heap y1
      have HR4 := hid (show w4.heap[w.heap.size]? = some (.cells Z16 23 (0, 0)) from (F2.out _ (by omega)).trans ((Below.heap_alloc _ _ _ hy).trans y1))
      have HY2 := hid y2
      obtain ⟨C, hC⟩ : ∃ C, C = bc ((sha M).take 16) := ⟨_, rfl⟩
      have hCl : C.length = 16 := by rw [hC, bc_length, List.length_take, sha_length]; rfl
      have HC := hid hC
      have HCl := hid hCl
      have HCo := hid (show C.toArray.all (·.oneCell') = true by rw [hC]; exact bytesV_one ((sha M).take 16))
      clear F1 F2 F3 F4 y1 y2 hC hCl
      have hAt := fun W => arr16 W w3.heap.size
      go_wp2_with (first | (with_reducible refine wpList_load_mid rfl 23 (.tmp 30) rfl w3.heap.size 0 rfl C _ ?r0 Tryd.under_d16 rfl ?i0 ?_) | (with_reducible refine wpList_store_row rfl 23 (.tmp 4) (.tmp 31) rfl w.heap.size C.toArray rfl rfl 23 Z16 HR4.out ?q1 ?q2 HCo.out ?_))
      case q1 => rw [List.size_toArray, HCl.out]; exact Tryd.size_d16
      case q2 => exact HY2.out.trans HCl.out.symm
      case r0 => exact range_of (X := []) (Y := bc ((sha M).drop 16)) H4.out (by rw [HC.out, List.nil_append]; unfold bc; rw [← List.map_append, List.take_append_drop]) 0 rfl
      case i0 => rw [HCl.out]; exact Tryd.size_d16
      refine bodyPost_ret (results_cell_row rfl _ _ w.heap.size 23 C.toArray (0, 0) _ rfl (setRow_heap _ _ _ _ _ _ HR4.out) Tryd.under_d16 rfl (by rw [List.size_toArray, HCl.out]; exact Tryd.size_d16)) rfl ?_
      exact ⟨by rw [HC.out, HM.out]; rfl, below_setRow HB4.out (Nat.le_refl _) _⟩
end Go.Proofs.YthadfilandmhiaaDoor

namespace Go.Proofs.YthadfilandmhiaaDoor
open S
open W
namespace Sg
/-- The encodings of numbers, as numbers. -/
def intN (n : Int) : List Nat := (code n).map Int.toNat
def intsN (l : List Int) : List Nat := (encInts l).map Int.toNat
/-- The digest of a tag and lists of bytes. -/
def ofL (tag : Nat) (ls : List (List Nat)) : List Nat := (sha (tag :: ls.flatMap encN)).take 16
theorem ofN_ofL (tag : Nat) (ht : tag < 256) (ss : List ByteArray) : ofN (tag : Int) ss = ofL tag (ss.map tx) := by
  have e : tagN (tag : Int) = tag := by unfold tagN; omega
  rw [ofN, ofIn, ofL, e, List.flatMap_map]

def own (b : Nat) : List Nat := [b / 64, b / 16 % 4, b / 4 % 4, b % 4]
def ownN (d : List Nat) : List Nat := d.flatMap own
def sumN (l : List Nat) : Nat := (l.map fun x => 3 - x).sum
def checkN (s : Nat) : List Nat := [s / 64, s / 16 % 4, s / 4 % 4, s % 4]
/-- The digits of a digest and of its checksum. -/
def digitsN (d : List Nat) : List Nat := ownN d ++ checkN (sumN (ownN d))

def chainTxt : List Nat := [99, 104, 97, 105, 110]
def startN (seed : List Nat) (key chain : Nat) : List Nat := (macN seed (chainTxt ++ intsN [(key : Int), (chain : Int)])).take 16
/-- n steps of a chain, beginning with height t. -/
def advN (key chain : Nat) : Nat → Nat → List Nat → List Nat
  | _, 0, v => v
  | t, n + 1, v => advN key chain (t + 1) n (ofL 9 [intsN [(key : Int), (chain : Int), (t : Int)], v])
def leafN (tops : List (List Nat)) : List Nat := ofL 1 [ofL 3 [tops.flatten]]
def joinN2 (l r : List Nat) : List Nat := ofL 2 [l, r]
def topN (seed : List Nat) (k c : Nat) : List Nat := advN k c 0 3 (startN seed k c)
def nodeN (seed : List Nat) : Nat → Nat → List Nat
  | 0, k => leafN ((List.range 68).map (topN seed k))
  | l + 1, k => joinN2 (nodeN seed l (2 * k)) (nodeN seed l (2 * k + 1))
/-- The neighbour of a node. -/
def nextTo (k : Nat) : Nat := if k % 2 = 1 then k - 1 else k + 1
def besideN (seed : List Nat) (h key : Nat) : List (List Nat) := (List.range h).map fun l => nodeN seed l (nextTo (key / 2 ^ l))
def digestN (pub : List Nat) (index : Int) (msg : List Nat) : List Nat := ofL 4 [pub, intN index, msg]
def valuesN (seed : List Nat) (index : Nat) (ds : List Nat) : List (List Nat) := (List.range 68).map fun c => advN index c 0 (ds.getD c 0) (startN seed index c)
def signN (seed : List Nat) (h index : Nat) (msg : List Nat) : List Nat :=
  intN index ++ (valuesN seed index (digitsN (digestN (nodeN seed h 0) index msg))).flatten ++ (besideN seed h index).flatten
/-- The way up from a leaf. -/
def upN (beside : Nat → List Nat) : Nat → Nat → List Nat → List Nat
  | _, 0, v => v
  | i, n + 1, v => upN (fun l => beside (l + 1)) (i / 2) n (if i % 2 = 1 then joinN2 (beside 0) v else joinN2 v (beside 0))
def piece (s : List Nat) (k : Nat) : List Nat := (s.drop (16 * k)).take 16
def endsN (index : Nat) (ds rest : List Nat) : List (List Nat) := (List.range 68).map fun c => advN index c (ds.getD c 0) (3 - ds.getD c 0) (piece rest c)
def rootN (pub : List Nat) (h index : Nat) (msg rest : List Nat) : List Nat :=
  upN (fun l => piece rest (68 + l)) index h (leafN (endsN index (digitsN (digestN pub index msg)) rest))

/-! Sizes. -/
theorem own_le {b : Nat} (hb : b < 256) : ∀ x ∈ own b, x ≤ 3 := by
  intro x hx
  simp only [own, List.mem_cons, List.not_mem_nil, or_false] at hx
  omega
theorem ownN_length : ∀ (d : List Nat), (ownN d).length = 4 * d.length
  | [] => rfl
  | b :: d => by
    have ih := ownN_length d
    have e : ownN (b :: d) = own b ++ ownN d := by simp [ownN]
    rw [e, List.length_append, ih, List.length_cons, own]
    simp
    omega
theorem ownN_le {d : List Nat} (hd : Bn d) : ∀ x ∈ ownN d, x ≤ 3 := by
  intro x hx
  obtain ⟨b, hb, h⟩ := List.mem_flatMap.1 hx
  exact own_le (hd b hb) x h
theorem sumN_le : ∀ (l : List Nat), sumN l ≤ 3 * l.length
  | [] => Nat.le_refl _
  | x :: l => by
    have ih := sumN_le l
    simp only [sumN, List.map_cons, List.sum_cons, List.length_cons] at *
    omega
theorem sumN_append (a b : List Nat) : sumN (a ++ b) = sumN a + sumN b := by simp [sumN]
theorem digitsN_length {d : List Nat} (hl : d.length = 16) : (digitsN d).length = 68 := by
  rw [digitsN, List.length_append, ownN_length, hl]
  rfl
theorem digitsN_le {d : List Nat} (hl : d.length = 16) (hd : Bn d) : ∀ x ∈ digitsN d, x ≤ 3 := by
  intro x hx
  rcases List.mem_append.1 hx with h | h
  · exact ownN_le hd x h
  · have h1 := sumN_le (ownN d)
    rw [ownN_length, hl] at h1
    simp only [checkN, List.mem_cons, List.not_mem_nil, or_false] at h
    omega

/-! Different digests: a digit of each is less. -/
theorem own_inj {a b : Nat} (ha : a < 256) (hb : b < 256) (h : own a = own b) : a = b := by
  simp only [own, List.cons.injEq, and_true] at h
  omega
theorem ownN_inj : ∀ {a b : List Nat}, Bn a → Bn b → a.length = b.length → ownN a = ownN b → a = b
  | [], [], _, _, _, _ => rfl
  | x :: a, y :: b, ha, hb, hl, h => by
    have e : ∀ (z : Nat) (l : List Nat), ownN (z :: l) = own z ++ ownN l := fun z l => by simp [ownN]
    rw [e, e] at h
    obtain ⟨h1, h2⟩ := List.append_inj h rfl
    rw [own_inj (ha x List.mem_cons_self) (hb y List.mem_cons_self) h1, ownN_inj (fun z hz => ha z (List.mem_cons_of_mem _ hz)) (fun z hz => hb z (List.mem_cons_of_mem _ hz)) (by simpa using hl) h2]
  | [], _ :: _, _, _, hl, _ => by simp at hl
  | _ :: _, [], _, _, hl, _ => by simp at hl
/-- Digits that are nowhere less: the sum is at least as great, and greater if they differ. -/
theorem sum_mono : ∀ (a b : List Nat), a.length = b.length → (∀ i, i < a.length → b.getD i 0 ≤ a.getD i 0) → (∀ x ∈ a, x ≤ 3) → sumN a ≤ sumN b ∧ (sumN a = sumN b → a = b)
  | [], [], _, _, _ => ⟨Nat.le_refl _, fun _ => rfl⟩
  | x :: a, y :: b, hl, h, h3 => by
    have h0 := h 0 (by simp)
    have hx := h3 x List.mem_cons_self
    simp only [List.getD_cons_zero] at h0
    obtain ⟨i1, i2⟩ := sum_mono a b (by simpa using hl) (fun i hi => by
      have := h (i + 1) (by simpa using hi)
      simpa using this) (fun z hz => h3 z (List.mem_cons_of_mem _ hz))
    have e : ∀ (z : Nat) (l : List Nat), sumN (z :: l) = (3 - z) + sumN l := fun z l => by simp [sumN]
    rw [e, e]
    refine ⟨by omega, fun hs => ?_⟩
    rw [i2 (by omega), show x = y by omega]
  | [], _ :: _, hl, _, _ => by simp at hl
  | _ :: _, [], hl, _, _ => by simp at hl
/-- The digits of the sum are in order too: a greater sum has a greater digit at the first place at which they differ. -/
theorem check_lt {s t : Nat} (hs : s ≤ 192) (ht : t ≤ 192) (h : s < t) : ∃ i, i < 4 ∧ (checkN s).getD i 0 < (checkN t).getD i 0 := by
  rcases Nat.lt_or_ge (s / 64) (t / 64) with h1 | h1
  · exact ⟨0, by omega, h1⟩
  rcases Nat.lt_or_ge (s / 16 % 4) (t / 16 % 4) with h2 | h2
  · exact ⟨1, by omega, h2⟩
  rcases Nat.lt_or_ge (s / 4 % 4) (t / 4 % 4) with h3 | h3
  · exact ⟨2, by omega, h3⟩
  · exact ⟨3, by omega, show s % 4 < t % 4 by omega⟩
theorem getD_left {a b : List Nat} {i : Nat} (h : i < a.length) : (a ++ b).getD i 0 = a.getD i 0 := by
  rw [List.getD_eq_getElem?_getD, List.getD_eq_getElem?_getD, List.getElem?_append_left h]
theorem getD_right {a b : List Nat} {i : Nat} (h : a.length ≤ i) : (a ++ b).getD i 0 = b.getD (i - a.length) 0 := by
  rw [List.getD_eq_getElem?_getD, List.getD_eq_getElem?_getD, List.getElem?_append_right h]
/-- P3.6: of two different digests, a digit of the first one is less than that of the second one. -/
theorem digits_less {a b : List Nat} (la : a.length = 16) (lb : b.length = 16) (ha : Bn a) (hb : Bn b) (hab : a ≠ b) : ∃ i, i < 68 ∧ (digitsN a).getD i 0 < (digitsN b).getD i 0 := by
  have lo : (ownN a).length = 64 := by rw [ownN_length, la]
  have lo' : (ownN b).length = 64 := by rw [ownN_length, lb]
  by_cases h : ∃ i, i < 64 ∧ (ownN a).getD i 0 < (ownN b).getD i 0
  · obtain ⟨i, hi, hlt⟩ := h
    refine ⟨i, by omega, ?_⟩
    rw [digitsN, digitsN, getD_left (by omega), getD_left (by omega)]
    exact hlt
  · have hall : ∀ i, i < (ownN a).length → (ownN b).getD i 0 ≤ (ownN a).getD i 0 := fun i hi => Nat.le_of_not_lt fun hlt => h ⟨i, by omega, hlt⟩
    obtain ⟨h1, h2⟩ := sum_mono _ _ (by omega) hall (ownN_le ha)
    have hne : sumN (ownN a) ≠ sumN (ownN b) := fun he => hab (ownN_inj ha hb (by omega) (h2 he))
    have s1 := sumN_le (ownN a)
    have s2 := sumN_le (ownN b)
    obtain ⟨i, hi, hlt⟩ := check_lt (by omega) (by omega) (Nat.lt_of_le_of_ne h1 hne)
    refine ⟨64 + i, by omega, ?_⟩
    rw [digitsN, digitsN, getD_right (by omega), getD_right (by omega), lo, lo', Nat.add_sub_cancel_left]
    exact hlt

theorem ofL_length (tag : Nat) (ls : List (List Nat)) : (ofL tag ls).length = 16 := by
  rw [ofL, List.length_take, sha_length]
  rfl
theorem ofL_bn (tag : Nat) (ls : List (List Nat)) : Bn (ofL tag ls) := fun x hx => sha_bn _ x (List.mem_of_mem_take hx)
theorem advN_length (key chain : Nat) : ∀ (n t : Nat) (v : List Nat), v.length = 16 → (advN key chain t n v).length = 16
  | 0, _, _, h => h
  | n + 1, t, _, _ => advN_length key chain n (t + 1) _ (ofL_length _ _)
theorem advN_bn (key chain : Nat) : ∀ (n t : Nat) (v : List Nat), Bn v → Bn (advN key chain t n v)
  | 0, _, _, h => h
  | n + 1, t, _, _ => advN_bn key chain n (t + 1) _ (ofL_bn _ _)
theorem advN_snoc (key chain : Nat) : ∀ (n t : Nat) (v : List Nat), advN key chain t (n + 1) v = ofL 9 [intsN [(key : Int), (chain : Int), ((t + n : Nat) : Int)], advN key chain t n v]
  | 0, _, _ => rfl
  | n + 1, t, v => by
    rw [advN, advN_snoc key chain n (t + 1), show t + 1 + n = t + (n + 1) by omega]
    rfl
/-- Two ways of a chain, one behind the other. -/
theorem advN_add (key chain : Nat) : ∀ (m t n : Nat) (v : List Nat), advN key chain (t + m) n (advN key chain t m v) = advN key chain t (m + n) v
  | 0, t, n, v => by rw [Nat.zero_add]; rfl
  | m + 1, t, n, v => by
    rw [show t + (m + 1) = t + 1 + m by omega, show m + 1 + n = (m + n) + 1 by omega, advN, advN, advN_add key chain m (t + 1) n]

/-- P3.5: what is signed leads to the root. -/
theorem nodeN_half (seed : List Nat) : ∀ (h l k : Nat), l < h → nodeN seed (l + 1) (k / 2) = if k % 2 = 1 then joinN2 (nodeN seed l (nextTo k)) (nodeN seed l k) else joinN2 (nodeN seed l k) (nodeN seed l (nextTo k)) := by
  intro _ l k _
  rw [nodeN]
  split
  · next h1 => rw [show 2 * (k / 2) + 1 = k by omega, show 2 * (k / 2) = nextTo k by rw [nextTo, if_pos h1]; omega]
  · next h1 => rw [show 2 * (k / 2) + 1 = nextTo k by rw [nextTo, if_neg h1]; omega, show 2 * (k / 2) = k by omega]
theorem upN_node (seed : List Nat) (bs : Nat → List Nat) : ∀ (n l i : Nat), (∀ j, j < n → bs j = nodeN seed (l + j) (nextTo (i / 2 ^ j))) → upN bs i n (nodeN seed l i) = nodeN seed (l + n) (i / 2 ^ n)
  | 0, l, i, _ => by simp [upN]
  | n + 1, l, i, h => by
    rw [upN]
    have h0 := h 0 (by omega)
    rw [Nat.pow_zero, Nat.div_one, Nat.add_zero] at h0
    rw [h0, ← nodeN_half seed (l + 1) l i (by omega), show l + (n + 1) = l + 1 + n by omega, Nat.pow_succ', ← Nat.div_div_eq_div_mul]
    exact upN_node seed (fun j => bs (j + 1)) n (l + 1) (i / 2) fun j hj => by
      rw [h (j + 1) (by omega), Nat.pow_succ', ← Nat.div_div_eq_div_mul, show l + (j + 1) = l + 1 + j by omega]
theorem piece_flat : ∀ (L : List (List Nat)) (r : List Nat) (k : Nat), (∀ d ∈ L, d.length = 16) → k < L.length → piece (L.flatten ++ r) k = L.getD k []
  | d :: L, r, 0, h, _ => by
    have hd := h d List.mem_cons_self
    rw [piece, Nat.mul_zero, List.drop_zero, List.flatten_cons, List.append_assoc, List.take_left' hd]
    rfl
  | d :: L, r, k + 1, h, hk => by
    have hd := h d List.mem_cons_self
    have ih := piece_flat L r k (fun x hx => h x (List.mem_cons_of_mem _ hx)) (by simpa using hk)
    rw [piece] at ih ⊢
    rw [List.flatten_cons, List.append_assoc, show 16 * (k + 1) = d.length + 16 * k by omega, ← List.drop_drop, List.drop_left]
    rw [ih]
    rfl
end Sg
end Go.Proofs.YthadfilandmhiaaDoor

namespace Go.Proofs.YthadfilandmhiaaDoor
open S W
namespace Sg
/-- A list, number by number, then what is done with it. -/
def fcL {α : Type} : List Nat → (List Nat → α) → α
  | [], f => f []
  | a :: t, f => fc a fun a => fcL t fun t => f (a :: t)
theorem fcL_eq {α : Type} : ∀ (l : List Nat) (f : List Nat → α), fcL l f = f l
  | [], _ => rfl
  | a :: t, f => by rw [fcL, fc_eq, fcL_eq t]
def shG (m : List Nat) : List Nat := fcL m fun x => fcL (shaF x) fun y => y
theorem shG_eq {m : List Nat} (h : Bn m) : shG m = sha m := by rw [shG, fcL_eq, fcL_eq, shaF_eq m h]
def ofG (tag : Nat) (ls : List (List Nat)) : List Nat := (shG (tag :: ls.flatMap encN)).take 16
theorem ofG_eq {tag : Nat} {ls : List (List Nat)} (ht : tag < 256) (hl : ∀ l ∈ ls, Bn l) : ofG tag ls = ofL tag ls := by
  rw [ofG, ofL, shG_eq]
  intro x hx
  rcases List.mem_cons.1 hx with rfl | hx
  · exact ht
  · obtain ⟨l, h1, h2⟩ := List.mem_flatMap.1 hx
    exact encN_bn (hl l h1) x h2
def macG (key text : List Nat) : List Nat := shG (kmask 92 key ++ shG (kmask 54 key ++ text))
theorem macG_eq {key text : List Nat} (hk : Bn key) (ht : Bn text) (hl : key.length ≤ 64) : macG key text = macN key text := by
  have app : ∀ {a b : List Nat}, Bn a → Bn b → Bn (a ++ b) := fun ha hb x hx => (List.mem_append.1 hx).elim (ha x) (hb x)
  have h1 : shG (kmask 54 key ++ text) = innN key text := shG_eq (app (kmask_bn hk (by decide)) ht)
  have h2 : shortN key = key := if_neg (by omega)
  rw [macG, macN, h2, outN, h1]
  exact shG_eq (app (kmask_bn hk (by decide)) (sha_bn _))
def startG (seed : List Nat) (key chain : Nat) : List Nat := (macG seed (chainTxt ++ intsN [(key : Int), (chain : Int)])).take 16
def advG (key chain : Nat) : Nat → Nat → List Nat → List Nat
  | _, 0, v => v
  | t, n + 1, v => fcL (ofG 9 [intsN [(key : Int), (chain : Int), (t : Int)], v]) fun u => advG key chain (t + 1) n u
def topG (seed : List Nat) (k c : Nat) : List Nat := fcL (startG seed k c) fun v => advG k c 0 3 v
def leafG (tops : List (List Nat)) : List Nat := fcL (ofG 3 [tops.flatten]) fun x => ofG 1 [x]
theorem intsN_bn (l : List Int) : Bn (intsN l) := by
  have h0 : ∀ z : Int, ∀ x ∈ (W.code z).map Int.toNat, x < 256 := fun z x hx => by
    obtain ⟨y, hy, rfl⟩ := List.mem_map.1 hx
    have := W.code_bs z y hy
    omega
  intro x hx
  rw [intsN, W.encInts, List.map_append, List.mem_append] at hx
  rcases hx with hx | hx
  · exact h0 _ x hx
  · obtain ⟨y, hy, rfl⟩ := List.mem_map.1 hx
    obtain ⟨z, _, hz⟩ := List.mem_flatMap.1 hy
    have := W.code_bs z y hz
    omega
theorem startG_eq {seed : List Nat} (hs : Bn seed) (hl : seed.length ≤ 64) (k c : Nat) : startG seed k c = startN seed k c := by
  rw [startG, startN, macG_eq hs ?_ hl]
  intro x hx
  rcases List.mem_append.1 hx with hx | hx
  · have h0 : ∀ y ∈ chainTxt, y < 256 := by decide
    exact h0 x hx
  · exact intsN_bn _ x hx
theorem advG_eq (key chain : Nat) : ∀ (n t : Nat) (v : List Nat), Bn v → advG key chain t n v = advN key chain t n v
  | 0, _, _, _ => rfl
  | n + 1, t, v, hv => by
    rw [advG, advN, fcL_eq, ofG_eq (by decide) (by simp [intsN_bn, hv]), advG_eq key chain n (t + 1) _ (ofL_bn _ _)]
theorem startN_bn' (seed : List Nat) (k c : Nat) : Bn (startN seed k c) := fun x hx => sha_bn _ x (List.mem_of_mem_take hx)
theorem topG_eq {seed : List Nat} (hs : Bn seed) (hl : seed.length ≤ 64) (k c : Nat) : topG seed k c = topN seed k c := by
  rw [topG, topN, fcL_eq, startG_eq hs hl, advG_eq _ _ _ _ _ (startN_bn' _ _ _)]
theorem flatten_bn {L : List (List Nat)} (h : ∀ l ∈ L, Bn l) : Bn L.flatten := by
  intro x hx
  obtain ⟨l, h1, h2⟩ := List.mem_flatten.1 hx
  exact h l h1 x h2
theorem leafG_eq {L : List (List Nat)} (h : ∀ l ∈ L, Bn l) : leafG L = leafN L := by
  rw [leafG, leafN, fcL_eq, ofG_eq (tag := 3) (by decide) (by intro l hl; rw [List.mem_singleton.1 hl]; exact flatten_bn h), ofG_eq (tag := 1) (by decide) (by simp [ofL_bn])]
theorem bn_of {l : List Nat} (h : (l.all fun x => Nat.blt x 256) = true) : Bn l := fun x hx => by
  have := List.all_eq_true.1 h x hx
  rwa [Nat.blt_eq] at this
theorem bns_of {ls : List (List Nat)} (h : (ls.all fun l => l.all fun x => Nat.blt x 256) = true) : ∀ l ∈ ls, Bn l := fun l hl => bn_of (List.all_eq_true.1 h l hl)
abbrev s5 : List Nat := List.replicate 32 5
theorem s5_bn : Bn s5 := bn_of (by decide)
def p5 : List Nat := [125, 182, 239, 211, 123, 120, 37, 53, 55, 99, 32, 70, 195, 119, 217, 100]
def l50 : List Nat := [48, 243, 247, 228, 92, 141, 133, 232, 101, 169, 155, 154, 212, 25, 6, 139]
def l51 : List Nat := [49, 32, 170, 86, 234, 207, 119, 211, 124, 167, 255, 25, 142, 23, 166, 208]
def dm5 : List Nat := [175, 246, 174, 123, 196, 169, 61, 168, 210, 184, 128, 54, 179, 61, 21, 169]
def dn5 : List Nat := [142, 74, 64, 40, 120, 235, 87, 180, 179, 143, 189, 246, 79, 176, 127, 161]
def gm5 : List Nat := [2, 2, 3, 3, 3, 3, 1, 2, 2, 2, 3, 2, 1, 3, 2, 3, 3, 0, 1, 0, 2, 2, 2, 1, 0, 3, 3, 1, 2, 2, 2, 0, 3, 1, 0, 2, 2, 3, 2, 0, 2, 0, 0, 0, 0, 3, 1, 2, 2, 3, 0, 3, 0, 3, 3, 1, 0, 1, 1, 1, 2, 2, 2, 1, 1, 1, 1, 1]
def gn5 : List Nat := [2, 0, 3, 2, 1, 0, 2, 2, 1, 0, 0, 0, 0, 2, 2, 0, 1, 3, 2, 0, 3, 2, 2, 3, 1, 1, 1, 3, 2, 3, 1, 0, 2, 3, 0, 3, 2, 0, 3, 3, 2, 3, 3, 1, 3, 3, 1, 2, 1, 0, 3, 3, 2, 3, 0, 0, 1, 3, 3, 3, 2, 2, 0, 1, 1, 1, 1, 2]
set_option maxRecDepth 100000 in
theorem leaf50G : leafG ((List.range 68).map (topG s5 0)) = l50 := by decide +kernel
set_option maxRecDepth 100000 in
theorem leaf51G : leafG ((List.range 68).map (topG s5 1)) = l51 := by decide +kernel
theorem tops_bn (k : Nat) : ∀ l ∈ (List.range 68).map (topG s5 k), Bn l := by
  intro l hl
  obtain ⟨c, _, rfl⟩ := List.mem_map.1 hl
  rw [topG_eq s5_bn (by decide)]
  exact advN_bn _ _ _ _ _ (startN_bn' _ _ _)
theorem leaf5 (k : Nat) : nodeN s5 0 k = leafG ((List.range 68).map (topG s5 k)) := by
  rw [leafG_eq (tops_bn k), nodeN]
  congr 1
  exact List.map_congr_left fun c _ => (topG_eq s5_bn (by decide) k c).symm
theorem node50 : nodeN s5 0 0 = l50 := by rw [leaf5, leaf50G]
theorem node51 : nodeN s5 0 1 = l51 := by rw [leaf5, leaf51G]
theorem pub5 : nodeN s5 1 0 = p5 := by
  rw [nodeN, Nat.mul_zero, node50, Nat.zero_add, node51, joinN2, ← ofG_eq (by decide) (bns_of (by decide))]
  decide +kernel
theorem dig5m : digestN p5 1 [109] = dm5 := by
  rw [digestN, ← ofG_eq (by decide) (bns_of (by decide))]
  decide +kernel
theorem dig5n : digestN p5 1 [110] = dn5 := by
  rw [digestN, ← ofG_eq (by decide) (bns_of (by decide))]
  decide +kernel
theorem dig50 : digestN p5 1 [109] ≠ digestN p5 0 [109] := by
  rw [digestN, digestN, ← ofG_eq (by decide) (bns_of (by decide)), ← ofG_eq (by decide) (bns_of (by decide))]
  decide +kernel
theorem gits5m : digitsN dm5 = gm5 := by decide +kernel
theorem gits5n : digitsN dn5 = gn5 := by decide +kernel
def wrongG (c : Nat) : List Nat := fcL (fcL (startG s5 1 c) fun v => advG 1 c 0 (gm5.getD c 0) v) fun v => advG 1 c (gn5.getD c 0) (3 - gn5.getD c 0) v
def wrongN (c : Nat) : List Nat := advN 1 c (gn5.getD c 0) (3 - gn5.getD c 0) (advN 1 c 0 (gm5.getD c 0) (startN s5 1 c))
theorem wrongG_eq (c : Nat) : wrongG c = wrongN c := by
  rw [wrongG, wrongN, fcL_eq, fcL_eq, startG_eq s5_bn (by decide), advG_eq _ _ _ _ _ (startN_bn' _ _ _), advG_eq _ _ _ _ _ (advN_bn _ _ _ _ _ (startN_bn' _ _ _))]
set_option maxRecDepth 100000 in
theorem wrong5G : (ofG 2 [l50, leafG ((List.range 68).map wrongG)] == p5) = false := by decide +kernel
theorem wrong5 : joinN2 l50 (leafN ((List.range 68).map wrongN)) ≠ p5 := by
  have hb : ∀ l ∈ (List.range 68).map wrongG, Bn l := by
    intro l hl
    obtain ⟨c, _, rfl⟩ := List.mem_map.1 hl
    rw [wrongG_eq]
    exact advN_bn _ _ _ _ _ (advN_bn _ _ _ _ _ (startN_bn' _ _ _))
  have h := wrong5G
  have h0 : ∀ l ∈ [l50, leafN ((List.range 68).map wrongN)], Bn l := by
    intro l hl
    rcases List.mem_cons.1 hl with rfl | hl
    · exact bn_of (by decide)
    · rw [List.mem_singleton.1 hl]; exact ofL_bn _ _
  rw [leafG_eq hb, List.map_congr_left (f := wrongG) (g := wrongN) fun c _ => wrongG_eq c, ofG_eq (by decide) h0] at h
  intro e
  rw [joinN2] at e
  rw [e] at h
  revert h
  decide
end Sg
end Go.Proofs.YthadfilandmhiaaDoor
