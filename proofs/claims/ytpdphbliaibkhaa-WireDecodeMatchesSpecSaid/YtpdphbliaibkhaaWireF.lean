/-
  Contracts of gantry/wire: getDigest, getList over digests, GetDigests.
-/
import Derived.Test.YtpdphbliaibkhaaWireE
import Derived.Deep.MidRow
import Derived.Deep.WholeRow
import Derived.Deep.RegionHeld3
namespace Go.Proofs.Ytpdphbliaibkhaa
open Go.RowKit
open Go.Lib (hid)
open W

theorem Try.under57 : Try.prog.underlying 57 = some (.array 16 5) := by kernel_rfl
theorem Try.info57 : (Try.prog.info? 57).map (·.size) = some 16 := by kernel_rfl

theorem run_arrayAt57 (w : World) (a : Option Addr) (cap : Nat) : (Instr.arrayAt 57 (.slice a 16 cap)).run Try.prog w = .ok (.pointer a) w := by
  simp [Instr.arrayAt, run_underlying Try.under57]

set_option maxHeartbeats 400000 in
theorem getDigest_any (b off len cap : Nat) (cs : List Value) (w : World) (hl : 16 ≤ len) (hlc : len ≤ cap) (hcm : cap ≤ 9223372036854775807) (hcs : cs.length = 16) (h1 : ∀ v ∈ cs, v.oneCell' = true) (hr : w.rangeAt b off cs) :
    Calls Try.prog 45 #[.slice (some ⟨b, off, none⟩) len cap] w fun e w' => e = .returned (.tuple #[.agg cs.toArray, .int .i64 16, .int .i64 0]) ∧ w.alloc (.cells cs.toArray 57) = w' := by
  have HR : Hid (∀ o, (w.alloc o).rangeAt b off cs) := fun o j v h => by
    have := hr j v h
    rw [World.cell?_of_block (w := w) (Below.heap_alloc _ _ _ (World.block_lt_of_cell? w _ this))]
    exact this
  have HI := hid (show (Try.prog.info? 57).map (·.size) = some cs.length by rw [hcs]; exact Try.info57)
  have H1 := hid h1
  have HS := hid hcs
  have har := fun W => run_arrayAt57 W (some ⟨b, off, none⟩) cap
  have hst : (storeCells ⟨w.heap.size, 0, none⟩ cs).run Try.prog (w.alloc (.cells #[.int .u8 0, .int .u8 0, .int .u8 0, .int .u8 0, .int .u8 0, .int .u8 0, .int .u8 0, .int .u8 0, .int .u8 0, .int .u8 0, .int .u8 0, .int .u8 0, .int .u8 0, .int .u8 0, .int .u8 0, .int .u8 0] 57)) = .ok () (w.alloc (.cells cs.toArray 57)) := by
    have := run_storeCells_new (P := Try.prog) w 57 #[.int .u8 0, .int .u8 0, .int .u8 0, .int .u8 0, .int .u8 0, .int .u8 0, .int .u8 0, .int .u8 0, .int .u8 0, .int .u8 0, .int .u8 0, .int .u8 0, .int .u8 0, .int .u8 0, .int .u8 0, .int .u8 0] cs.toArray (by simpa using HI.out) (by simp [HS.out]) (all_oneCell_toArray H1.out)
    simpa using this
  clear hr h1 hcs
  go_enter Try.func45, Try.ntmps45
  go_wp2_with (with_reducible refine wpList_load_mid rfl 57 (.tmp 7) rfl b off rfl cs _ (HR.out _) Try.under57 rfl HI.out ?_)
  exact bodyPost_ret (v := .tuple #[.agg cs.toArray, .int .i64 16, .int .i64 0]) (by simp [results, Try.results45, asAddr, run_loadVar_new w 57 cs.toArray 16 5 Try.under57 (by simpa using HI.out)]) rfl ⟨rfl, rfl⟩

theorem rangeAt_alloc {w : World} {b off : Nat} {cs : List Value} (hr : w.rangeAt b off cs) (o : Obj) : (w.alloc o).rangeAt b off cs := fun j v h => by
  have := hr j v h
  rw [World.cell?_of_block (w := w) (Below.heap_alloc _ _ _ (World.block_lt_of_cell? w _ this))]
  exact this

theorem setRow_alloc_old (w : World) (g : Nat) (c' : Array Value) (o : Obj) (h : g < w.heap.size) : (w.alloc o).setRow g c' = (w.setRow g c').alloc o := by
  have hh : ∀ k : Nat, ((w.alloc o).setRow g c').heap[k]? = ((w.setRow g c').alloc o).heap[k]? := by
    intro k
    by_cases hk : k < w.heap.size
    · rw [Below.heap_alloc _ _ _ (by simpa using hk)]
      by_cases hkg : k = g
      · subst hkg
        simp only [World.setRow, Array.getElem?_modify]
        rw [Below.heap_alloc _ _ _ hk]
      · rw [setRow_other _ _ _ _ hkg, setRow_other _ _ _ _ hkg, Below.heap_alloc _ _ _ hk]
    · rw [setRow_other _ _ _ _ (by omega)]
      by_cases hks : k = w.heap.size
      · subst hks
        rw [heap_alloc_new]
        have := heap_alloc_new (w.setRow g c') o
        rw [setRow_size] at this
        exact this.symm
      · rw [Array.getElem?_eq_none (by simp; omega), Array.getElem?_eq_none (by simp; omega)]
  have he : ((w.alloc o).setRow g c').heap = ((w.setRow g c').alloc o).heap := Array.ext_getElem? hh
  have h2 : ∀ (x y : World), x.heap = y.heap → x = { y with heap := x.heap } → x = y := fun x y e f => by rw [f, e]
  exact h2 _ _ he rfl

theorem store_row {W : World} {g : Nat} {cs : List Value} {Z : Array Value} (hg : W.heap[g]? = some (.cells Z 57 (0, 0))) (hcs : cs.length = 16) (hZ : Z.size = 16) (h1 : ∀ v ∈ cs, v.oneCell' = true) :
    (storeCells ⟨g, 0, none⟩ cs).run Try.prog W = .ok () (W.setRow g cs.toArray) := by
  have := run_storeVar_row (P := Try.prog) W g 57 57 Z cs.toArray hg (by rw [Try.info57]; simp [hcs]) (by simp [hZ, hcs]) (all_oneCell_toArray h1)
  cases hq : Try.prog.info? 57 with
  | none => have h := Try.info57; rw [hq] at h; simp at h
  | some i =>
    have hs : i.size = 16 := by have h := Try.info57; rw [hq] at h; simpa using h
    simpa [storeVar, sizeOf, typeInfo, hq, Value.cells, hs, hcs] using this

theorem there_row {W : World} {g : Nat} {Z : Array Value} {n : Nat} {T : TypeId} (hg : W.heap[g]? = some (.cells Z T (0, 0))) (hZ : Z.size = n) : W.there g 0 n := by
  intro j hj
  rw [cell_of_row W g (0 + j) Z T (0, 0) hg]
  exact ⟨by simp; omega, frozen_of_row W g (0 + j) Z T hg⟩

theorem there_third (w : World) (Z D : Array Value) {n : Nat} {T : TypeId} (hZ : Z.size = n) : (((w.alloc (.cells Z T)).alloc (.cells D T)).alloc (.cells Z T)).drew.there (w.heap.size + 1 + 1) 0 n := by
  have e : ((w.alloc (.cells Z T)).alloc (.cells D T)).heap.size = w.heap.size + 1 + 1 := by simp
  have hn := heap_alloc_new ((w.alloc (.cells Z T)).alloc (.cells D T)) (.cells Z T)
  rw [e] at hn
  exact there_row hn hZ

theorem there_second (w : World) (Z D : Array Value) {n : Nat} {T : TypeId} (hZ : Z.size = n) : (((w.alloc (.cells Z T)).alloc (.cells Z T)).alloc (.cells D T)).drew.there (w.heap.size + 1) 0 n := by
  have e : (w.alloc (.cells Z T)).heap.size = w.heap.size + 1 := by simp
  have hn := heap_alloc_new (w.alloc (.cells Z T)) (.cells Z T)
  rw [e] at hn
  refine there_row (Z := Z) (T := T) ?_ hZ
  show (((w.alloc (.cells Z T)).alloc (.cells Z T)).alloc (.cells D T)).heap[w.heap.size + 1]? = _
  rw [Below.heap_alloc _ _ _ (by simp)]
  exact hn

theorem Below.setCells {B : Nat} {a : World} (g : Nat) (hg : B ≤ g) : ∀ (vs : List Value) (o : Nat) (w : World), Below B a w → Below B a (w.setCells g o vs)
  | [], _, _, h => h
  | _ :: r, o, _, h => Below.setCells g hg r (o + 1) _ (h.setCell hg _)

theorem size_setCells (g : Nat) : ∀ (vs : List Value) (o : Nat) (w : World), (w.setCells g o vs).heap.size = w.heap.size
  | [], _, _ => rfl
  | v :: r, o, w => by rw [World.setCells, size_setCells g r (o + 1)]; simp [World.setCell]

/-- What the walk needs of the world behind the call in the closure of getList over digests: block g holds the digest, block w.heap.size is there. -/
structure Called (w W : World) (g : Nat) (cs : List Value) : Prop where
  below : Below w.heap.size w W
  range : W.rangeAt g 0 cs
  room : W.there w.heap.size 0 cs.length
  lt : w.heap.size < W.heap.size

theorem called (w : World) (A B C : Obj) (g : Nat) (cs : List Value) {Z : Array Value} {T : TypeId} (hA : A = .cells Z T) (hZ : Z.size = cs.length) (hg : w.heap.size < g) (ht : (((w.alloc A).alloc B).alloc C).drew.there g 0 cs.length) :
    Called w ((((w.alloc A).alloc B).alloc C).drew.setCells g 0 cs) g cs := by
  have hn : (((w.alloc A).alloc B).alloc C).drew.heap[w.heap.size]? = some (.cells Z T (0, 0)) := by
    show (((w.alloc A).alloc B).alloc C).heap[w.heap.size]? = _
    rw [Below.heap_alloc _ _ _ (by simp; omega), Below.heap_alloc _ _ _ (by simp), hA]
    exact heap_alloc_new w _
  refine ⟨Below.setCells g (by omega) _ _ _ ((((Below.refl _ _).alloc (Nat.le_refl _) _).alloc (by simp) _).alloc (by simp; omega) _).drew, World.rangeAt_setCells_same _ _ _ _ ht, ?_, ?_⟩
  · exact World.there_setCells (there_row hn hZ) _ _ _
  · rw [size_setCells]
    show w.heap.size < (((w.alloc A).alloc B).alloc C).heap.size
    simp
    omega

theorem digest_back {w W : World} {g b10 : Nat} {cs : List Value} (h : Called w W g cs) (hcs : cs.length = 16) (l10 : b10 < w.heap.size) (hg : w.heap.size < g) {x : Value} (h10 : w.cell? ⟨b10, 0, none⟩ = some x) (h10f : w.frozen? ⟨b10, 0, none⟩ = false) (z : Int) :
    (W.setCell ⟨b10, 0, none⟩ (.int .i64 z)).rangeAt g 0 cs ∧ (W.setCell ⟨b10, 0, none⟩ (.int .i64 z)).there w.heap.size 0 cs.toArray.size ∧
      (loadVar 57 ⟨w.heap.size, 0, none⟩).run Try.prog ((W.setCell ⟨b10, 0, none⟩ (.int .i64 z)).setCells w.heap.size 0 cs) = .ok (.agg cs.toArray) ((W.setCell ⟨b10, 0, none⟩ (.int .i64 z)).setCells w.heap.size 0 cs) ∧
      w.grownBy ((W.setCell ⟨b10, 0, none⟩ (.int .i64 z)).setCells w.heap.size 0 cs) (some b10) ∧ ((W.setCell ⟨b10, 0, none⟩ (.int .i64 z)).setCells w.heap.size 0 cs).cell? ⟨b10, 0, none⟩ = some (.int .i64 z) ∧
      ((W.setCell ⟨b10, 0, none⟩ (.int .i64 z)).setCells w.heap.size 0 cs).frozen? ⟨b10, 0, none⟩ = false := by
  have k10 := (h.below.cell (p := ⟨b10, 0, none⟩) l10).trans h10
  have kf := (h.below.frozen (p := ⟨b10, 0, none⟩) l10).trans h10f
  have h1 : (W.setCell ⟨b10, 0, none⟩ (.int .i64 z)).rangeAt g 0 cs := World.rangeAt_setCells_apart h.range b10 0 [.int .i64 z] (.inl (by omega))
  have h2 : (W.setCell ⟨b10, 0, none⟩ (.int .i64 z)).there w.heap.size 0 cs.length := World.there_setCells h.room b10 0 [.int .i64 z]
  have e : ∀ k : Nat, k ≠ b10 → k < w.heap.size → ((W.setCell ⟨b10, 0, none⟩ (.int .i64 z)).setCells w.heap.size 0 cs).heap[k]? = w.heap[k]? := by
    intro k hk hlt
    have hb := Below.setCells (B := w.heap.size) w.heap.size (Nat.le_refl _) cs 0 _ (Below.refl w.heap.size (W.setCell ⟨b10, 0, none⟩ (.int .i64 z)))
    rw [hb.block k hlt, Below.heap_setCell _ _ _ _ hk, h.below.block k hlt]
  have hb := Below.setCells (B := w.heap.size) w.heap.size (Nat.le_refl _) cs 0 _ (Below.refl w.heap.size (W.setCell ⟨b10, 0, none⟩ (.int .i64 z)))
  refine ⟨h1, by simpa using h2, run_loadVar_mid _ _ _ _ cs _ (World.rangeAt_setCells_same _ _ _ _ h2) Try.under57 rfl (by rw [hcs]; exact Try.info57), ⟨?_, ?_, ?_, ?_, ?_⟩, ?_, ?_⟩
  · exact hb.os.trans h.below.os
  · exact hb.tape.trans h.below.tape
  · exact hb.output.trans h.below.output
  · rw [size_setCells]; have := h.below.size; simpa [World.setCell] using this
  · intro k hk hne
    exact e k (fun e => hne (by rw [e])) hk
  · rw [hb.cell (p := ⟨b10, 0, none⟩) l10]
    go_simp
  · rw [hb.frozen (p := ⟨b10, 0, none⟩) l10]
    go_simp

set_option maxHeartbeats 800000 in
theorem next_dig (b5 b3 b10 u b off len cap : Nat) (cs : List Value) (w : World) (hl : u + 16 ≤ len) (hlc : len ≤ cap) (hcm : cap ≤ 9223372036854775807) (hcs : cs.length = 16) (h1 : ∀ v ∈ cs, v.oneCell' = true) (hr : w.rangeAt b (off + u) cs)
    (h5 : w.cell? ⟨b5, 0, none⟩ = some (.func (.func 45) #[] #[])) (h3 : w.cell? ⟨b3, 0, none⟩ = some (.slice (some ⟨b, off, none⟩) len cap)) (h10 : w.cell? ⟨b10, 0, none⟩ = some (.int .i64 u)) (h10f : w.frozen? ⟨b10, 0, none⟩ = false) :
    Calls Try.prog 48 #[.pointer (some ⟨b5, 0, none⟩), .pointer (some ⟨b3, 0, none⟩), .pointer (some ⟨b10, 0, none⟩)] w
      fun e w' => e = .returned (.tuple #[.agg cs.toArray, .int .i64 0]) ∧ w.grownBy w' (some b10) ∧ w'.cell? ⟨b10, 0, none⟩ = some (.int .i64 ((u : Int) + 16)) ∧ w'.frozen? ⟨b10, 0, none⟩ = false := by
  have hcut : ∀ W, (Instr.slice 28 (.slice (some ⟨b, off, none⟩) len cap) (some (.int .i64 u)) none none).run Try.prog W = .ok (.slice (some ⟨b, off + u, none⟩) (len - u) (cap - u)) W := fun W => by
    rw [run_cut_l _ _ _ _ (by omega)]
    simp only [sliced]
    rw [if_neg (by omega), Nat.mul_one, Option.map_some, Addr.add_lit]
  have l5 := World.block_lt_of_cell? w _ h5
  have l3 := World.block_lt_of_cell? w _ h3
  have l10 := World.block_lt_of_cell? w _ h10
  have HS := hid hcs
  have H1 := hid h1
  have HR : Hid (∀ W, Below w.heap.size w W → W.rangeAt b (off + u) cs) := fun W hW j v h => by
    have := hr j v h
    rw [hW.cell (World.block_lt_of_cell? w _ this)]
    exact this
  have HK : Hid (∀ W, Below w.heap.size w W → W.cell? ⟨b5, 0, none⟩ = some (.func (.func 45) #[] #[]) ∧ W.cell? ⟨b3, 0, none⟩ = some (.slice (some ⟨b, off, none⟩) len cap) ∧ W.cell? ⟨b10, 0, none⟩ = some (.int .i64 u)) :=
    fun W hW => ⟨(hW.cell l5).trans h5, (hW.cell l3).trans h3, (hW.cell l10).trans h10⟩
  have hth1 := there_third w #[.int .u8 0, .int .u8 0, .int .u8 0, .int .u8 0, .int .u8 0, .int .u8 0, .int .u8 0, .int .u8 0, .int .u8 0, .int .u8 0, .int .u8 0, .int .u8 0, .int .u8 0, .int .u8 0, .int .u8 0, .int .u8 0] cs.toArray (n := cs.length) (T := 57) (by rw [hcs]; rfl)
  have hth2 := there_second w #[.int .u8 0, .int .u8 0, .int .u8 0, .int .u8 0, .int .u8 0, .int .u8 0, .int .u8 0, .int .u8 0, .int .u8 0, .int .u8 0, .int .u8 0, .int .u8 0, .int .u8 0, .int .u8 0, .int .u8 0, .int .u8 0] cs.toArray (n := cs.length) (T := 57) (by rw [hcs]; rfl)
  have hin := (show (Try.prog.info? 57).map (fun x => x.size) = some cs.length by rw [hcs]; exact Try.info57)
  have hall := all_oneCell_toArray h1
  have HIN := hid hin
  have HINA := hid (show (Try.prog.info? 57).map (·.size) = some cs.toArray.size by simp [hcs, Try.info57])
  have HALL := hid hall
  clear hcs h1 hr
  go_enter Try.func48, Try.ntmps48
  go_wp2_with fail
  go_region_held3 (fun w' => w'.cell? ⟨b5, 0, none⟩ = some (.func (.func 45) #[] #[]) ∧ w'.cell? ⟨b3, 0, none⟩ = some (.slice (some ⟨b, off, none⟩) len cap) ∧ w'.cell? ⟨b10, 0, none⟩ = some (.int .i64 u))
    (first | exact HK.out _ (by repeat (first | exact Below.refl _ _ | refine Below.setCells _ (by omega) _ _ _ ?_ | refine Below.drew ?_ | refine Below.alloc ?_ (by simp; try omega) _)) | go_keep)
    ((go_at_call 45; refine (getDigest_any b (off + u) (len - u) (cap - u) cs _ (by omega) (by omega) (by omega) HS.out H1.out (HR.out _ (by repeat (first | exact Below.refl _ _ | refine Below.drew ?_ | refine Below.alloc ?_ (by simp; try omega) _)))).mono ?_; rintro e w2 ⟨rfl, rfl⟩))
  · have HC := hid (called w _ _ _ _ cs rfl (by rw [HS.out]; rfl) (by omega) hth1)
    generalize World.setCells _ _ _ cs = W at HC ⊢
    have k10 := (HC.out.below.cell (p := ⟨b10, 0, none⟩) l10).trans h10
    have kf := (HC.out.below.frozen (p := ⟨b10, 0, none⟩) l10).trans h10f
    have HD := hid (digest_back HC.out HS.out l10 (by omega) h10 h10f ((u : Int) + 16))
    clear hth1 hth2 hin hall h5 h3 h10 h10f hcut
    go_wp2_with (first | (with_reducible refine wpList_load_mid rfl 57 (.tmp 5) rfl (w.heap.size + 1 + 1) 0 rfl cs _ HD.out.1 Try.under57 rfl HIN.out ?_) | (with_reducible refine wpList_store_mid rfl 57 (.tmp 3) (.tmp 20) rfl w.heap.size 0 cs.toArray rfl rfl HD.out.2.1 HINA.out HALL.out ?_))
    exact bodyPost_ret (v := .tuple #[.agg cs.toArray, .int .i64 0]) (by simp [results, Try.results48, asAddr, HD.out.2.2.1]) rfl ⟨rfl, HD.out.2.2.2⟩
  · have HC := hid (called w _ _ _ _ cs rfl (by rw [HS.out]; rfl) (by omega) hth2)
    generalize World.setCells _ _ _ cs = W at HC ⊢
    have k10 := (HC.out.below.cell (p := ⟨b10, 0, none⟩) l10).trans h10
    have kf := (HC.out.below.frozen (p := ⟨b10, 0, none⟩) l10).trans h10f
    have HD := hid (digest_back HC.out HS.out l10 (by omega) h10 h10f ((u : Int) + 16))
    clear hth1 hth2 hin hall h5 h3 h10 h10f hcut
    go_wp2_with (first | (with_reducible refine wpList_load_mid rfl 57 (.tmp 5) rfl (w.heap.size + 1) 0 rfl cs _ HD.out.1 Try.under57 rfl HIN.out ?_) | (with_reducible refine wpList_store_mid rfl 57 (.tmp 3) (.tmp 20) rfl w.heap.size 0 cs.toArray rfl rfl HD.out.2.1 HINA.out HALL.out ?_))
    exact bodyPost_ret (v := .tuple #[.agg cs.toArray, .int .i64 0]) (by simp [results, Try.results48, asAddr, HD.out.2.2.1]) rfl ⟨rfl, HD.out.2.2.2⟩

/-- What holds of memory in a loop of getList: the boxes of its arguments, the counter, what has been gathered. -/
structure InMem (w wr : World) (E : TypeId) (size : Nat) (fn v : Value) (xs : List Value) (n u : Nat) (out : Value) : Prop where
  c3 : wr.cell? ⟨w.heap.size, 0, none⟩ = some v
  c5 : wr.cell? ⟨w.heap.size + 1, 0, none⟩ = some fn
  c10 : wr.cell? ⟨w.heap.size + 1 + 1, 0, none⟩ = some (.int .i64 u)
  f10 : wr.frozen? ⟨w.heap.size + 1 + 1, 0, none⟩ = false
  own : wr.ownsRow (w.heap.size + 1 + 1 + 1) E size out n xs
  below : Below w.heap.size w wr
  size_ : w.heap.size + 1 + 1 + 1 < wr.heap.size

section
variable {w wr : World} {E T3 T5 T10 : TypeId} {size : Nat} {fn v : Value} {xs : List Value} {n u cap : Nat} {out : Value}

theorem InMem.start {w' : World} (hown : w'.ownsRow (w.heap.size + 1 + 1 + 1) E size out 0 [])
    (hg : (((w.alloc (.cells #[v] T3)).alloc (.cells #[fn] T5)).alloc (.cells #[.int .i64 u] T10)).grownBy w' none) (hout : out = .slice (some ⟨w.heap.size + 1 + 1 + 1, 0, none⟩) 0 cap) :
    InMem w w' E size fn v [] 0 u out := by
  have hs : (((w.alloc (.cells #[v] T3)).alloc (.cells #[fn] T5)).alloc (.cells #[.int .i64 u] T10)).heap.size = w.heap.size + 1 + 1 + 1 := by simp
  have hcell : ∀ (a : Addr) (x : Value), (((w.alloc (.cells #[v] T3)).alloc (.cells #[fn] T5)).alloc (.cells #[.int .i64 u] T10)).cell? a = some x → w'.cell? a = some x := fun a x h => hg.cell h (by simp)
  have hb : Below w.heap.size w w' := ((((Below.refl _ _).alloc (Nat.le_refl _) _).alloc (by simp) _).alloc (by simp; omega) _).grown hg (by simp; omega) (by simp)
  refine ⟨hcell _ _ (by go_simp), hcell _ _ (by go_simp), hcell _ _ (by go_simp), ?_, hown, hb, ?_⟩
  · rw [World.frozen?_of_block (w := (((w.alloc (.cells #[v] T3)).alloc (.cells #[fn] T5)).alloc (.cells #[.int .i64 u] T10))) (hg.block _ (by rw [hs]; simp) (by simp))]
    go_simp
  · have := hown.lt (w.heap.size + 1 + 1 + 1) (by rw [hout]; rfl)
    exact this.2

theorem InMem.kept (h : InMem w wr E size fn v xs n u out) {w' : World} (hg : wr.grownBy w' none) : InMem w w' E size fn v xs n u out := by
  have hs := h.size_
  exact ⟨hg.cell h.c3 (by simp), hg.cell h.c5 (by simp), hg.cell h.c10 (by simp), (World.frozen?_of_block (w := wr) (hg.block _ (by simp; omega) (by simp))).trans h.f10, h.own.kept hg (by cases hv : out.ownBlock <;> simp),
    h.below.grown hg (by omega) (by simp), Nat.lt_of_lt_of_le h.size_ hg.size⟩

theorem InMem.alloc (h : InMem w wr E size fn v xs n u out) (o : Obj) : InMem w (wr.alloc o) E size fn v xs n u out := h.kept (World.grownBy_alloc wr o none)

theorem InMem.next (h : InMem w wr E size fn v xs n u out) {w' : World} {u' : Nat} (hg : wr.grownBy w' (some (w.heap.size + 1 + 1))) (hc : w'.cell? ⟨w.heap.size + 1 + 1, 0, none⟩ = some (.int .i64 u')) (hf : w'.frozen? ⟨w.heap.size + 1 + 1, 0, none⟩ = false) :
    InMem w w' E size fn v xs n u' out := by
  have hs := h.size_
  have hlt := h.own.lt
  refine ⟨hg.cell h.c3 (by simp; omega), hg.cell h.c5 (by simp), hc, hf, h.own.kept hg ?_, h.below.grown hg (by omega) (by intro k hk; simp at hk; omega), Nat.lt_of_lt_of_le h.size_ hg.size⟩
  cases hv : out.ownBlock with
  | none => simp
  | some g => right; intro e; simp at e; have := (hlt g hv).1; omega

theorem InMem.append (h : InMem w wr E size fn v xs n u out) {w' : World} {xs' : List Value} {n' : Nat} {out' : Value} (hown : w'.ownsRow (w.heap.size + 1 + 1 + 1) E size out' n' xs') (hg : wr.grownBy w' out.ownBlock) :
    InMem w w' E size fn v xs' n' u out' := by
  have hs := h.size_
  have hlt := h.own.lt
  have hne : ∀ j, j < w.heap.size + 1 + 1 + 1 → some j ≠ out.ownBlock := fun j hj e => by have := (hlt j e.symm).1; omega
  exact ⟨hg.cell h.c3 (hne _ (by simp; omega)), hg.cell h.c5 (hne _ (by simp)), hg.cell h.c10 (hne _ (by simp)), (World.frozen?_of_block (w := wr) (hg.block _ (by simp; omega) (hne _ (by simp)))).trans h.f10, hown,
    h.below.grown hg (by omega) (fun j e => by have := (hlt j e).1; omega), Nat.lt_of_lt_of_le h.size_ hg.size⟩

theorem Listed.mem {α : Type} {cells : α → List Value} {l : List α} {nq : Nat} (h : InMem w wr E size fn v (l.flatMap cells) l.length u out) : Listed w E size cells (l, u, 0) (.returned (.tuple #[out, .int .i64 u, .int .i64 0])) (wr.drewN nq) := by
  refine ⟨below_drewN h.below nq, _, rfl, ?_⟩
  obtain ⟨h1, h2⟩ := h.own
  refine ⟨h1, ?_⟩
  rcases h2 with h2 | ⟨g, cap, cur, hv, hg, r⟩
  · exact .inl h2
  · exact .inr ⟨g, cap, cur, hv, by omega, r⟩
end

theorem below_keep {w w' : World} (hb : Below w.heap.size w w') {a : Addr} {x : Value} (h : w.cell? a = some x) : w'.cell? a = some x := by
  rw [hb.cell (World.block_lt_of_cell? w _ h)]; exact h

theorem digest_range {W : World} {b off p : Nat} {bs : List Int} {cs : List Value} (hcs : cs = ((bs.drop p).take 16).map (Value.int .u8)) (hp : p + 16 ≤ bs.length) (hc : ∀ i, i < bs.length → W.cell? ⟨b, off + i, none⟩ = some (.int .u8 (bs.getD i 0))) : W.rangeAt b (off + p) cs := by
  intro j x hx
  rw [hcs, List.getElem?_map, List.getElem?_take] at hx
  split at hx
  · rw [List.getElem?_drop] at hx
    have hlt : p + j < bs.length := by omega
    rw [List.getElem?_eq_getElem hlt] at hx
    simp at hx
    rw [Nat.add_assoc, hc (p + j) hlt, ← hx, List.getD_eq_getElem?_getD, List.getElem?_eq_getElem hlt]
    rfl
  · simp at hx

theorem range_new (W : World) (b : Nat) (cs : List Value) (T : TypeId) (hb : b = W.heap.size := by rfl) : (W.alloc (.cells cs.toArray T)).rangeAt b 0 cs := by
  subst hb
  intro j x hx
  rw [Nat.zero_add, cell_of_row _ _ j cs.toArray T (0, 0) (heap_alloc_new W _)]
  simpa using hx

theorem fold_from (cs : List Value) : ∀ (i : Nat) (A : Array Value), i + cs.length = A.size → (List.foldl (fun (a : Array Value) (x : Value × Nat) => a.setIfInBounds x.snd x.fst) A (cs.zipIdx i)).toList = A.toList.take i ++ cs := by
  induction cs with
  | nil => intro i A h; simp at h; rw [h, List.take_of_length_le (by simp)]; simp
  | cons x cs ih =>
    intro i A h
    rw [List.zipIdx_cons, List.foldl_cons, ih (i + 1) _ (by simp at h ⊢; omega)]
    simp only [Array.toList_setIfInBounds]
    have hi : i < A.toList.length := by simp at h ⊢; omega
    rw [List.take_succ_eq_append_getElem (by simpa using hi)]
    rw [List.take_set_of_le (by omega)]
    simp

theorem fold_cells (cs : List Value) (A : Array Value) (h : cs.length = A.size) : List.foldl (fun (a : Array Value) (x : Value × Nat) => a.setIfInBounds x.snd x.fst) A cs.zipIdx = cs.toArray := by
  have := fold_from cs 0 A (by omega)
  apply Array.toList_inj.1
  simpa using this

theorem news_new (W : World) (b : Nat) (cs : List Value) (T : TypeId) (hb : b = W.heap.size) : ∀ j u, cs[j]? = some u → (W.alloc (.cells cs.toArray T)).cell? ((⟨b, 0, none⟩ : Addr).add j) = some u := by
  intro j u hu
  have := range_new W b cs T hb j u hu
  rwa [Addr.add_lit]

theorem steps_dig_list (bs : List Int) (u k : Nat) (l : List (List Int)) (h : (steps decDig bs u k).1 = l) : (steps decDig bs u (k + 1)).1 = l ++ [(bs.drop (u + 16 * k)).take 16] := by
  have h2 := steps_dig bs u k
  have h3 : steps decDig bs u k = (l, u + 16 * k, 0) := Prod.ext h h2
  rw [steps_ok h3 (x := (bs.drop (u + 16 * k)).take 16) (m := 16) rfl]

theorem Try.info57' : (Try.prog.info? 57).map (fun i => (i.zero, i.size, i.bytes)) = some (some (.agg #[.int .u8 0, .int .u8 0, .int .u8 0, .int .u8 0, .int .u8 0, .int .u8 0, .int .u8 0, .int .u8 0, .int .u8 0, .int .u8 0, .int .u8 0, .int .u8 0, .int .u8 0, .int .u8 0, .int .u8 0, .int .u8 0]), 16, 16) := by kernel_rfl
theorem Try.under24 : Try.prog.underlying 24 = some (.slice 57) := by kernel_rfl

set_option maxHeartbeats 800000 in
theorem getList_dig (v : Value) (bs : List Int) (w : World) (hv : ByteView w v bs) (hbl : bs.length ≤ 1099511627776) :
    Calls Try.prog 44 #[v, .int .i64 16, .func (.func 45) #[] #[]] w (Listed w 57 16 (fun x => x.map (Value.int .u8)) (decList decDig 16 bs)) := by
  have hle := hv.le
  have HV := hid hv
  have HB := hid hv.bytes
  have HC : Hid (∀ W, Below w.heap.size w W → Calls Try.prog 40 #[v, .int .i64 16] W (Trip (lenOf bs 16).1 (lenOf bs 16).2.1 (lenOf bs 16).2.2 W)) :=
    fun W hW => getLength_any v bs 16 W (hv.below hW) (by omega) (by omega)
  obtain ⟨_, ao, cap, rfl, hlc, hcm, hcells⟩ := hv
  unfold maxLen at hcm
  obtain ⟨L, hL⟩ : ∃ L, L = decList decDig 16 bs := ⟨_, rfl⟩
  rw [← hL]
  have HL := hid hL
  clear hL
  obtain ⟨i0, hi, hz0, hz1, hz2⟩ := info_parts Try.info57'
  have HZ := hid hz0
  clear hz0
  rcases lenOf_cases bs 16 (by omega) HB.out with ⟨n, u, h, _, h1, h2, h3⟩ | h | h
  · replace HL := hid (HL.out.trans (decList_ok h))
    rw [h] at HC
    clear h
    obtain ⟨b, off, rfl, hcell⟩ := hcells (by rintro rfl; simp at h2; omega)
    have HCE := hid hcell
    clear hcell hcells
    go_enter Try.func44, Try.ntmps44
    go_wp2_with fail
    refine (HC.out _ (((Below.refl _ _).alloc (Nat.le_refl _) _).alloc (by simp) _)).mono ?_
    rintro e w' ⟨rfl, rfl⟩
    go_wp2_with (at_make; refine wpList_make_own _ rfl (.const (.int .i64 0)) (.tmp 27) 24 rfl (w.heap.size + 1 + 1 + 1) 57 i0 (.agg #[.int .u8 0, .int .u8 0, .int .u8 0, .int .u8 0, .int .u8 0, .int .u8 0, .int .u8 0, .int .u8 0, .int .u8 0, .int .u8 0, .int .u8 0, .int .u8 0, .int .u8 0, .int .u8 0, .int .u8 0, .int .u8 0]) 16 Try.under24 hi HZ.out hz1 .i64 .i64 n n rfl rfl rfl (by rw [hz2]; omega) (by unfold maxLen; omega) (by simp) ?_)
    intro w1 hown hgrow
    have H0 := hid (InMem.start (E := 57) (size := 16) (cap := n) (by simpa using hown) (by simpa using hgrow) (by simp))
    clear hown hgrow
    go_wp2
    go_loopw [13, 30] (fun out i wr => ∃ (k : Nat) (l : List (List Int)), k ≤ n ∧ i = .int .i64 k ∧ (steps decDig bs u k).1 = l ∧ l.length = k ∧ InMem w wr 57 16 (.func (.func 45) #[] #[]) (.slice (some ⟨b, off, none⟩) bs.length cap) (l.flatMap fun x => x.map (Value.int .u8)) k (u + 16 * k) out) (fun _ i _ => n - (intOf i).toNat)
    case atStart => exact ⟨0, [], by omega, rfl, rfl, rfl, by simpa using H0.out⟩
    case round =>
      obtain ⟨k, l, hk, rfl, hst, hlen, hin⟩ := hrel
      have HI := hid hin
      have c10 := hin.c10
      have HST := hid hst
      have HLN := hid hlen
      clear hin hlen hst
      by_cases hkn : k < n
      · have hroom : u + 16 * k + 16 ≤ bs.length := by omega
        obtain ⟨cs, hcs⟩ : ∃ cs, cs = ((bs.drop (u + 16 * k)).take 16).map (Value.int .u8) := ⟨_, rfl⟩
        have hc16 : cs.length = 16 := by rw [hcs]; simp; omega
        have h1c : ∀ v ∈ cs, v.oneCell' = true := by rw [hcs]; exact bytes_oneCell _
        have hra : wr.rangeAt b (off + (u + 16 * k)) cs := digest_range hcs (by omega) (fun i hi => below_keep HI.out.below (HCE.out i hi))
        have HN := hid (next_dig (w.heap.size + 1) w.heap.size (w.heap.size + 1 + 1) (u + 16 * k) b off bs.length cap cs wr hroom (by omega) (by omega) hc16 h1c hra HI.out.c5 HI.out.c3 HI.out.c10 HI.out.f10)
        have HCS := hid hcs
        have H16 := hid hc16
        have H1 := hid h1c
        have hst : ∀ W : World, (storeCells ⟨W.heap.size, 0, none⟩ cs).run Try.prog (W.alloc (.cells #[.int .u8 0, .int .u8 0, .int .u8 0, .int .u8 0, .int .u8 0, .int .u8 0, .int .u8 0, .int .u8 0, .int .u8 0, .int .u8 0, .int .u8 0, .int .u8 0, .int .u8 0, .int .u8 0, .int .u8 0, .int .u8 0] 57)) = .ok () (W.alloc (.cells cs.toArray 57)) := fun W => by
          have := run_storeCells_new (P := Try.prog) W 57 #[.int .u8 0, .int .u8 0, .int .u8 0, .int .u8 0, .int .u8 0, .int .u8 0, .int .u8 0, .int .u8 0, .int .u8 0, .int .u8 0, .int .u8 0, .int .u8 0, .int .u8 0, .int .u8 0, .int .u8 0, .int .u8 0] cs.toArray (by simpa [hc16] using Try.info57) (by simp [hc16]) (all_oneCell_toArray h1c)
          simpa using this
        have HIN := hid (show (Try.prog.info? 57).map (·.size) = some cs.length by rw [hc16]; exact Try.info57)
        clear hcs hc16 h1c hra
        go_wp2_with fail
        refine HN.out.mono ?_
        rintro e w2 ⟨rfl, hg2, hc2, hf2⟩
        have HG2 := hid hg2
        have HC2 := hid hc2
        have HF2 := hid hf2
        clear hg2 hc2 hf2
        have HI2 := hid (HI.out.next (u' := u + 16 * (k + 1)) HG2.out (by rw [HC2.out]; congr 2) HF2.out)
        go_wp2_with (first | (with_reducible refine wpList_load_mid rfl 57 (.tmp 14) rfl w2.heap.size 0 rfl cs _ (range_new _ _ _ _) Try.under57 rfl HIN.out ?_) | (at_builtin; go_must (refine wpList_append_own _ rfl (.tmp 40) (.tmp 42) 24 rfl (w.heap.size + 1 + 1 + 1) 57 i0 (.agg #[.int .u8 0, .int .u8 0, .int .u8 0, .int .u8 0, .int .u8 0, .int .u8 0, .int .u8 0, .int .u8 0, .int .u8 0, .int .u8 0, .int .u8 0, .int .u8 0, .int .u8 0, .int .u8 0, .int .u8 0, .int .u8 0]) 16 16 Try.under24 hi HZ.out hz1 hz2 rfl (by decide) _ k (l.flatMap fun x => x.map (Value.int .u8)) rfl ((HI2.out.alloc _).alloc _).own ⟨w2.heap.size + 1, 0, none⟩ 1 1 cs rfl (by rw [H16.out]) ?c1 ?c2 ?c3 ?c4 ?c5 ?_)))
        case c1 => rw [fold_cells cs _ (by rw [H16.out]; rfl)]; exact news_new _ _ _ _ (by simp)
        case c2 => exact H1.out
        case c3 => unfold maxLen; omega
        case c4 => omega
        case c5 => have := HI2.out.size_; simp; omega
        intro v' w6 hown' hgrow _
        have HI6 := hid (((HI2.out.alloc _).alloc _).append hown' hgrow)
        clear hown' hgrow
        go_wp2
        go_roundw
        case rel => exact ⟨k + 1, l ++ [(bs.drop (u + 16 * k)).take 16], by omega, by go_num, steps_dig_list bs u k l HST.out, by simp [HLN.out], by simpa [HCS.out] using HI6.out⟩
        case measure => simp [intOf]; omega
      · obtain rfl : k = n := by omega
        have hsd := steps_dig bs u k
        have HR := hid (HL.out.trans (show _ = (l, u + 16 * k, 0) by
          have : steps decDig bs u k = (l, u + 16 * k, 0) := Prod.ext HST.out hsd
          rw [this]; simp))
        clear hsd
        go_wp2
        go_quiet (fail)
        go_wp2
        go_ret3
        rw [HR.out]
        exact Listed.mem (by rw [HLN.out]; exact HI.out)
  all_goals
    replace HL := hid (HL.out.trans (decList_err h (by omega)))
    rw [h] at HC
    clear h hcells
    go_enter Try.func44, Try.ntmps44
    go_wp2_with fail
    refine (HC.out _ (((Below.refl _ _).alloc (Nat.le_refl _) _).alloc (by simp) _)).mono ?_
    rintro e w' ⟨rfl, rfl⟩
    go_wp2
    go_ret3
    rw [HL.out]
    exact Listed.nil ((((Below.refl _ _).alloc (Nat.le_refl _) _).alloc (by simp) _).alloc (by simp; omega) _)

set_option maxHeartbeats 400000 in
theorem GetDigests_any (v : Value) (bs : List Int) (w : World) (hv : ByteView w v bs) (hbl : bs.length ≤ 1099511627776) :
    Calls Try.prog 34 #[v] w (Listed w 57 16 (fun x => x.map (Value.int .u8)) (decList decDig 16 bs)) := by
  have HC := hid (getList_dig v bs w hv hbl)
  go_enter Try.func34, Try.ntmps34
  go_wp2_with fail
  refine HC.out.mono ?_
  rintro e w' ⟨hb, v', rfl, hown⟩
  have HB := hid hb
  have HO := hid hown
  clear hb hown
  go_wp2
  go_ret3
  exact ⟨HB.out, _, rfl, HO.out⟩

end Go.Proofs.Ytpdphbliaibkhaa
