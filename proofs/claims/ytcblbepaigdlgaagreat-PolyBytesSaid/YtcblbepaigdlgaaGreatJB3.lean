/-
  Plain mathematics of package wire (numbe
-/
set_option linter.unusedVariables false
set_option linter.unusedSimpArgs false
set_option linter.unusedSectionVars false
namespace Go.Proofs.YtcblbepaigdlgaaGreat.W
def be : Nat → Nat → List Nat
 | 0, _ => []
 | k + 1, m => (m / 256 ^ k % 256) :: be k m
theorem be_length (k m : Nat) : (be k m).length = k := by
 induction k with
 | zero => rfl
 | succ k ih => simp [be, ih]
theorem be_lt (k m : Nat) : ∀ d ∈ be k m, d < 256 := by
 induction k with
 | zero => intro d hd; cases hd
 | succ k ih =>
  intro d hd
  rcases List.mem_cons.1 hd with h | h
  ·subst h; exact Nat.mod_lt _ (by decide)
  ·exact ih d h
def val : List Nat → Nat
 | [] => 0
 | d :: ds => d * 256 ^ ds.length + val ds
theorem val_append (a b : List Nat) : val (a ++ b) = val a * 256 ^ b.length + val b := by
 induction a with
 | nil => simp [val]
 | cons d ds ih => simp only [List.cons_append, val, ih, List.length_append, Nat.pow_add, Nat.add_mul, Nat.mul_assoc, Nat.add_assoc]
theorem val_snoc (a : List Nat) (d : Nat) : val (a ++ [d]) = val a * 256 + d := by
 rw [val_append]; simp [val]
theorem val_be (k m : Nat) : val (be k m) = m % 256 ^ k := by
 induction k with
 | zero => simp [be, val, Nat.mod_one]
 | succ k ih =>
  simp only [be, val, be_length, ih]
  rw [Nat.pow_succ, Nat.mod_mul, Nat.mul_comm, Nat.add_comm]
theorem val_lt (ds : List Nat) (h : ∀ d ∈ ds, d < 256) : val ds < 256 ^ ds.length := by
 induction ds with
 | nil => simp [val]
 | cons d ds ih =>
  have h1 := h d (List.mem_cons_self ..)
  have h2 := ih (fun x hx => h x (List.mem_cons_of_mem _ hx))
  simp only [val, List.length_cons, Nat.pow_succ]
  have h3 : d * 256 ^ ds.length ≤ 255 * 256 ^ ds.length := Nat.mul_le_mul_right _ (by omega)
  omega
theorem be_congr (k : Nat) : ∀ (a b : Nat), a % 256 ^ k = b % 256 ^ k → be k a = be k b := by
 induction k with
 | zero => intro a b _; rfl
 | succ k ih =>
  intro a b h
  rw [Nat.pow_succ] at h
  have h1 : a % 256 ^ k = b % 256 ^ k := by
   have := congrArg (· % 256 ^ k) h
   simpa [Nat.mod_mul_right_mod] using this
  have h2 : a / 256 ^ k % 256 = b / 256 ^ k % 256 := by
   have := congrArg (· / 256 ^ k) h
   simpa [Nat.mod_mul_right_div_self] using this
  simp only [be, h2, ih a b h1]
theorem be_val (ds : List Nat) (h : ∀ d ∈ ds, d < 256) : be ds.length (val ds) = ds := by
 induction ds with
 | nil => rfl
 | cons d ds ih =>
  have h1 := h d (List.mem_cons_self ..)
  have h2 : ∀ x ∈ ds, x < 256 := fun x hx => h x (List.mem_cons_of_mem _ hx)
  have hv := val_lt ds h2
  have hp : 0 < 256 ^ ds.length := Nat.pow_pos (by decide)
  simp only [val, List.length_cons, be]
  have e1 : (d * 256 ^ ds.length + val ds) / 256 ^ ds.length % 256 = d := by
   rw [Nat.add_comm, Nat.add_mul_div_right _ _ hp, Nat.div_eq_of_lt hv, Nat.zero_add, Nat.mod_eq_of_lt h1]
  have e2 : be ds.length (d * 256 ^ ds.length + val ds) = be ds.length (val ds) :=
   be_congr _ _ _ (by rw [Nat.add_comm, Nat.add_mul_mod_self_right])
  rw [e1, e2, ih h2]
def wid (m : Nat) : Nat :=
 if m < 1 then 0 else if m < 256 then 1 else if m < 65536 then 2 else if m < 16777216 then 3 else if m < 4294967296 then 4
 else if m < 1099511627776 then 5 else if m < 281474976710656 then 6 else if m < 72057594037927936 then 7 else 8
theorem wid_le (m : Nat) : wid m ≤ 8 := by unfold wid; repeat' split
                                           all_goals omega
theorem wid_spec (m : Nat) (h : m < 9223372036854775808) : m < 256 ^ wid m ∧ (wid m = 0 ∨ 256 ^ (wid m - 1) ≤ m) := by
 unfold wid
 repeat' split
 all_goals simp
 all_goals omega
theorem wid_unique (m k : Nat) (hk : k ≤ 8) (h1 : m < 256 ^ k) (h2 : k = 0 ∨ 256 ^ (k - 1) ≤ m) : k = wid m := by
 have : k = 0 ∨ k = 1 ∨ k = 2 ∨ k = 3 ∨ k = 4 ∨ k = 5 ∨ k = 6 ∨ k = 7 ∨ k = 8 := by omega
 unfold wid
 rcases this with rfl | rfl | rfl | rfl | rfl | rfl | rfl | rfl | rfl
 all_goals simp at h1 h2
 all_goals repeat' split
 all_goals omega
def mag (n : Int) : Nat := if n < 0 then (-1 - n).toNat else n.toNat
def fl (neg : Bool) (x : Int) : Int := if neg then 255 - x else x
theorem fl_fl (b : Bool) (x : Int) : fl b (fl b x) = x := by cases b <;> simp [fl]; omega
def code (n : Int) : List Int :=
 ((128 + (wid (mag n) : Int)) :: (be (wid (mag n)) (mag n)).map Int.ofNat).map (fl (decide (n < 0)))
theorem code_length (n : Int) : (code n).length = wid (mag n) + 1 := by simp [code, be_length]
theorem mag_lt (n : Int) (h1 : -9223372036854775808 ≤ n) (h2 : n ≤ 9223372036854775807) : mag n < 9223372036854775808 := by
 unfold mag; split <;> omega
def dec : List Int → Int × Nat × Int
 | [] => (0, 0, 3)
 | h :: t =>
  let neg := decide (h < 128)
  let k := (fl neg h - 128).toNat
  if 8 < k then (0, 0, 2) else if t.length < k then (0, 0, 3) else
   let ds := (t.take k).map fun x => (fl neg x).toNat
   if (0 < k ∧ ds.headD 1 = 0) ∨ 9223372036854775807 < val ds then (0, 0, 2)
   else (if neg then -1 - (val ds : Int) else val ds, k + 1, 0)
def Bs (l : List Int) : Prop := ∀ x ∈ l, 0 ≤ x ∧ x ≤ 255
theorem Bs.append {a b : List Int} (ha : Bs a) (hb : Bs b) : Bs (a ++ b) := fun x hx => (List.mem_append.1 hx).elim (ha x) (hb x)
theorem Bs.take {a : List Int} (h : Bs a) (n : Nat) : Bs (a.take n) := fun x hx => h x (List.mem_of_mem_take hx)
theorem Bs.drop {a : List Int} (h : Bs a) (n : Nat) : Bs (a.drop n) := fun x hx => h x (List.mem_of_mem_drop hx)
theorem Bs.cons {x : Int} {a : List Int} (h : Bs (x :: a)) : (0 ≤ x ∧ x ≤ 255) ∧ Bs a := ⟨h x (List.mem_cons_self ..), fun y hy => h y (List.mem_cons_of_mem _ hy)⟩
theorem code_bs (n : Int) : Bs (code n) := by
 intro x hx
 unfold code at hx
 rcases List.mem_map.1 hx with ⟨y, hy, rfl⟩
 have hb : 0 ≤ y ∧ y ≤ 255 := by
  rcases List.mem_cons.1 hy with h | h
  ·have := wid_le (mag n); omega
  ·rcases List.mem_map.1 h with ⟨d, hd, rfl⟩
   have := be_lt _ _ d hd
   simp; omega
 unfold fl; split <;> omega
theorem fl_first (n : Int) : fl (decide (n < 0)) (128 + (wid (mag n) : Int)) < 128 ↔ n < 0 := by
 have := wid_le (mag n)
 unfold fl
 by_cases h : n < 0 <;> simp [h] <;> omega
theorem map_fl_fl (b : Bool) (l : List Nat) : ((l.map Int.ofNat).map (fl b)).map (fun x => (fl b x).toNat) = l := by
 rw [List.map_map, List.map_map]
 conv => rhs; rw [← List.map_id l]
 apply List.map_congr_left
 intro a _
 simp [Function.comp, fl_fl]
theorem be_headD (k m : Nat) (hk : 0 < k) : (be k m).headD 1 = m / 256 ^ (k - 1) % 256 := by
 cases k with
 | zero => omega
 | succ k => rfl
theorem dec_code (n : Int) (h1 : -9223372036854775808 ≤ n) (h2 : n ≤ 9223372036854775807) (t : List Int) : dec (code n ++ t) = (n, (code n).length, 0) := by
 have hw := wid_le (mag n)
 obtain ⟨hs1, hs2⟩ := wid_spec (mag n) (mag_lt n h1 h2)
 have hm := mag_lt n h1 h2
 have hneg := fl_first n
 have hcl := code_length n
 rw [hcl]
 simp only [code, List.map_cons, List.cons_append, dec]
 have e0 : decide (fl (decide (n < 0)) (128 + (wid (mag n) : Int)) < 128) = decide (n < 0) := by simp only [hneg]
 simp only [e0, fl_fl]
 have e1 : (128 + (wid (mag n) : Int) - 128).toNat = wid (mag n) := by omega
 rw [e1]
 have hlen : (((be (wid (mag n)) (mag n)).map Int.ofNat).map (fl (decide (n < 0)))).length = wid (mag n) := by simp [be_length]
 rw [if_neg (by omega), if_neg (by rw [List.length_append, hlen]; omega)]
 have et : ((((be (wid (mag n)) (mag n)).map Int.ofNat).map (fl (decide (n < 0))) ++ t).take (wid (mag n))).map (fun x => (fl (decide (n < 0)) x).toNat) = be (wid (mag n)) (mag n) := by
  rw [List.take_append_of_le_length (by omega), List.take_of_length_le (by omega), map_fl_fl]
 rw [et, val_be, Nat.mod_eq_of_lt hs1]
 rw [if_neg]
 ·refine Prod.ext ?_ (Prod.ext rfl rfl)
  show (if decide (n < 0) = true then -1 - ((mag n : Nat) : Int) else ((mag n : Nat) : Int)) = n
  unfold mag
  by_cases hn : n < 0 <;> simp [hn] <;> omega
 ·rintro (⟨hk, h0⟩ | h0)
  ·rw [be_headD _ _ hk] at h0
   have h3 : 256 ^ (wid (mag n) - 1) ≤ mag n := by rcases hs2 with h | h <;> omega
   have hp : 0 < 256 ^ (wid (mag n) - 1) := Nat.pow_pos (by decide)
   have h4 : 1 ≤ mag n / 256 ^ (wid (mag n) - 1) := (Nat.le_div_iff_mul_le hp).2 (by omega)
   have h5 : mag n / 256 ^ (wid (mag n) - 1) < 256 := by
    rw [Nat.div_lt_iff_lt_mul hp]
    have : 256 ^ wid (mag n) = 256 * 256 ^ (wid (mag n) - 1) := by
     conv => lhs; rw [show wid (mag n) = (wid (mag n) - 1) + 1 from by omega]
     rw [Nat.pow_succ, Nat.mul_comm]
    omega
   omega
  ·omega
theorem dec_prefix (n : Int) (i : Nat) (hi : i < (code n).length) : dec ((code n).take i) = (0, 0, 3) := by
 have hw := wid_le (mag n)
 have hneg := fl_first n
 have hcl := code_length n
 cases i with
 | zero => simp [dec]
 | succ i =>
  simp only [code, List.map_cons, List.take_succ_cons, dec]
  have e0 : decide (fl (decide (n < 0)) (128 + (wid (mag n) : Int)) < 128) = decide (n < 0) := by simp only [hneg]
  simp only [e0, fl_fl]
  have e1 : (128 + (wid (mag n) : Int) - 128).toNat = wid (mag n) := by omega
  rw [e1, if_neg (by omega), if_pos (by simp [be_length]; omega)]
theorem dec_canonical (b : List Int) (hb : Bs b) (n : Int) (u : Nat) (h : dec b = (n, u, 0)) : u ≤ b.length ∧ b.take u = code n ∧ -9223372036854775808 ≤ n ∧ n ≤ 9223372036854775807 := by
 cases b with
 | nil => simp [dec] at h
 | cons x t =>
  obtain ⟨hx, ht⟩ := hb.cons
  simp only [dec] at h
  generalize hneg : decide (x < 128) = neg at h
  have hk : (fl neg x - 128).toNat = fl neg x - 128 := by
   have : 128 ≤ fl neg x := by
    unfold fl; subst hneg
    by_cases hxx : x < 128 <;> simp [hxx] <;> omega
   omega
  generalize hkk : (fl neg x - 128).toNat = k at h hk
  split at h
  ·simp at h
  ·split at h
   ·simp at h
   ·rename_i hk8 hlen
    have hbs : ∀ d ∈ (t.take k).map (fun x => (fl neg x).toNat), d < 256 := by
     intro d hd
     rcases List.mem_map.1 hd with ⟨y, hy, rfl⟩
     have hyb := ht y (List.mem_of_mem_take hy)
     unfold fl; split <;> omega
    have hdl : ((t.take k).map (fun x => (fl neg x).toNat)).length = k := by simp; omega
    have hback : (((t.take k).map (fun x => (fl neg x).toNat)).map Int.ofNat).map (fl neg) = t.take k := by
     rw [List.map_map, List.map_map]
     conv => rhs; rw [← List.map_id (t.take k)]
     apply List.map_congr_left
     intro y hy
     have hyb := ht y (List.mem_of_mem_take hy)
     have : (Int.ofNat (fl neg y).toNat) = fl neg y := by
      have : 0 ≤ fl neg y := by unfold fl; split <;> omega
      simp; omega
     simp only [Function.comp, this, fl_fl, id]
    generalize (t.take k).map (fun x => (fl neg x).toNat) = ds at h hbs hdl hback
    split at h
    ·simp at h
    ·rename_i hcond
     simp only [Prod.mk.injEq] at h
     obtain ⟨hn, hu, _⟩ := h
     have hv : val ds ≤ 9223372036854775807 := by omega
     have hmag : mag n = val ds := by
      unfold mag
      cases neg
      ·simp at hn; rw [if_neg (by omega)]; omega
      ·simp at hn; rw [if_pos (by omega)]; omega
     have hsign : decide (n < 0) = neg := by
      cases neg
      ·simp at hn; simp; omega
      ·simp at hn; simp; omega
     have hvl := val_lt ds hbs
     rw [hdl] at hvl
     have hwid : k = wid (mag n) := by
      rw [hmag]
      refine wid_unique _ _ (by omega) hvl ?_
      by_cases hk0 : k = 0
      ·exact .inl hk0
      ·right
       have hh : ds.headD 1 ≠ 0 := fun e => hcond (.inl ⟨by omega, e⟩)
       cases ds with
       | nil => simp at hdl; omega
       | cons d ds =>
        simp at hh
        simp only [List.length_cons] at hdl
        have : ds.length = k - 1 := by omega
        rw [← this]
        simp only [val]
        have : 1 * 256 ^ ds.length ≤ d * 256 ^ ds.length := Nat.mul_le_mul_right _ (by omega)
        omega
     refine ⟨by simp; omega, ?_, ?_, ?_⟩
     ·rw [← hu]
      simp only [List.take_succ_cons, code, List.map_cons]
      rw [hsign, ← hwid, hmag]
      have hbv := be_val ds hbs
      rw [hdl] at hbv
      rw [hbv, hback]
      congr 1
      have : 128 + (k : Int) = fl neg x := by omega
      rw [this, fl_fl]
     ·cases neg <;> simp at hn <;> omega
     ·cases neg <;> simp at hn <;> omega
theorem dec_cases (b : List Int) (hb : Bs b) : (∃ n u, dec b = (n, u, 0) ∧ 1 ≤ u ∧ u ≤ b.length ∧ -9223372036854775808 ≤ n ∧ n ≤ 9223372036854775807) ∨ dec b = (0, 0, 2) ∨ dec b = (0, 0, 3) := by
 generalize h : dec b = r
 obtain ⟨n, u, e⟩ := r
 have hu : e = 0 ∧ 1 ≤ u ∨ (n, u, e) = (0, 0, 2) ∨ (n, u, e) = (0, 0, 3) := by
  cases b with
  | nil => right; right; simpa [dec] using h.symm
  | cons x t =>
   simp only [dec] at h
   split at h
   ·exact .inr (.inl h.symm)
   ·split at h
    ·exact .inr (.inr h.symm)
    ·split at h
     ·exact .inr (.inl h.symm)
     ·simp only [Prod.mk.injEq] at h
      exact .inl ⟨h.2.2.symm, by omega⟩
 rcases hu with ⟨rfl, hu⟩ | hu | hu
 ·obtain ⟨h1, _, h3, h4⟩ := dec_canonical b hb n u h
  exact .inl ⟨n, u, rfl, hu, h1, h3, h4⟩
 ·exact .inr (.inl hu)
 ·exact .inr (.inr hu)
def lenOf (b : List Int) (size : Nat) : Int × Nat × Int :=
 if (dec b).2.2 ≠ 0 then (0, 0, (dec b).2.2) else if (dec b).1 < 0 then (0, 0, 2)
 else if ((b.length - (dec b).2.1) / size : Nat) < (dec b).1 then (0, 0, 3) else dec b
theorem lenOf_cases (b : List Int) (size : Nat) (hs : 0 < size) (hb : Bs b) : (∃ n u : Nat, lenOf b size = ((n : Int), u, 0) ∧ dec b = ((n : Int), u, 0) ∧ 1 ≤ u ∧ u ≤ b.length ∧ n * size ≤ b.length - u) ∨ lenOf b size = (0, 0, 2) ∨ lenOf b size = (0, 0, 3) := by
 unfold lenOf
 rcases dec_cases b hb with ⟨n, u, h, h1, h2, h3, h4⟩ | h | h
 ·rw [h]
  simp only [ne_eq, not_true, if_false]
  split
  ·exact .inr (.inl rfl)
  ·split
   ·exact .inr (.inr rfl)
   ·left
    refine ⟨n.toNat, u, by simp; omega, by simp; omega, h1, h2, ?_⟩
    have : n.toNat ≤ (b.length - u) / size := by omega
    exact (Nat.le_div_iff_mul_le hs).1 this
 ·rw [h]; simp
 ·rw [h]; simp
def steps {α : Type} (d : List Int → α × Nat × Int) (b : List Int) (u : Nat) : Nat → List α × Nat × Int
 | 0 => ([], u, 0)
 | k + 1 =>
  if (steps d b u k).2.2 ≠ 0 then steps d b u k
  else if (d (b.drop (steps d b u k).2.1)).2.2 ≠ 0 then ((steps d b u k).1, (steps d b u k).2.1, (d (b.drop (steps d b u k).2.1)).2.2)
  else ((steps d b u k).1 ++ [(d (b.drop (steps d b u k).2.1)).1], (steps d b u k).2.1 + (d (b.drop (steps d b u k).2.1)).2.1, 0)
theorem steps_stuck {α : Type} {d : List Int → α × Nat × Int} {b : List Int} {u k : Nat} (h : (steps d b u k).2.2 ≠ 0) (n : Nat) : steps d b u (k + n) = steps d b u k := by
 induction n with
 | zero => rfl
 | succ n ih => rw [← Nat.add_assoc, steps, ih, if_pos h]
theorem steps_ok {α : Type} {d : List Int → α × Nat × Int} {b : List Int} {u k : Nat} {l : List α} {v m : Nat} {x : α} (h : steps d b u k = (l, v, 0)) (hd : d (b.drop v) = (x, m, 0)) : steps d b u (k + 1) = (l ++ [x], v + m, 0) := by
 rw [steps, h]; simp [hd]
theorem steps_err {α : Type} {d : List Int → α × Nat × Int} {b : List Int} {u k : Nat} {l : List α} {v m : Nat} {x : α} {e : Int} (h : steps d b u k = (l, v, 0)) (hd : d (b.drop v) = (x, m, e)) (he : e ≠ 0) : steps d b u (k + 1) = (l, v, e) := by
 rw [steps, h]; simp [hd, he]
theorem steps_length {α : Type} (d : List Int → α × Nat × Int) (b : List Int) (u : Nat) (k : Nat) : (steps d b u k).2.2 = 0 → (steps d b u k).1.length = k := by
 induction k with
 | zero => intro _; rfl
 | succ k ih =>
  rw [steps]
  split
  ·intro h; exact absurd h (by assumption)
  ·split
   ·intro h; exact absurd h (by assumption)
   ·rename_i h _
    intro _
    simp [ih (by omega)]
def decList {α : Type} (d : List Int → α × Nat × Int) (size : Nat) (b : List Int) : List α × Nat × Int :=
 if (lenOf b size).2.2 ≠ 0 then ([], 0, (lenOf b size).2.2)
 else if (steps d b (lenOf b size).2.1 (lenOf b size).1.toNat).2.2 ≠ 0 then ([], 0, (steps d b (lenOf b size).2.1 (lenOf b size).1.toNat).2.2)
 else steps d b (lenOf b size).2.1 (lenOf b size).1.toNat
def encInts (l : List Int) : List Int := code l.length ++ l.flatMap code
theorem code_le (n : Int) : (code n).length ≤ 9 := by
 have := wid_le (mag n)
 rw [code_length]; omega
theorem codes_le (l : List Int) : (l.flatMap code).length ≤ 9 * l.length := by
 induction l with
 | nil => simp
 | cons x l ih => have := code_le x; rw [List.flatMap_cons, List.length_append, List.length_cons]; omega
theorem lenOf_code (n size : Nat) (hn : n ≤ 1000000000000) (r : List Int) (h : n * size ≤ r.length) (hs : 0 < size) : lenOf (code (n : Int) ++ r) size = ((n : Int), (code (n : Int)).length, 0) := by
 have hd := dec_code (n : Int) (by omega) (by omega) r
 unfold lenOf
 rw [hd]
 simp only [ne_eq, not_true, if_false]
 rw [if_neg (by omega), if_neg]
 have : n ≤ r.length / size := (Nat.le_div_iff_mul_le hs).2 h
 rw [List.length_append, Nat.add_sub_cancel_left]
 omega
def Back {α : Type} (d : List Int → α × Nat × Int) (c : α → List Int) (x : α) : Prop := ∀ t, d (c x ++ t) = (x, (c x).length, 0)
theorem steps_enc {α : Type} {d : List Int → α × Nat × Int} {c : α → List Int} (l : List α) (h : ∀ x ∈ l, Back d c x) (p t : List Int) : ∀ k, k ≤ l.length → steps d (p ++ l.flatMap c ++ t) p.length k = (l.take k, p.length + ((l.take k).flatMap c).length, 0)
 | 0, _ => by simp [steps]
 | k + 1, hk => by
  have ih := steps_enc l h p t k (by omega)
  have hlt : k < l.length := by omega
  have hdrop : (p ++ l.flatMap c ++ t).drop (p.length + ((l.take k).flatMap c).length) = c l[k] ++ ((l.drop (k + 1)).flatMap c ++ t) := by
   have e : l.flatMap c = (l.take k).flatMap c ++ (c l[k] ++ (l.drop (k + 1)).flatMap c) := by
    conv => lhs; rw [← List.take_append_drop k l, List.drop_eq_getElem_cons hlt]
    rw [List.flatMap_append, List.flatMap_cons]
   rw [e, List.append_assoc, ← List.drop_drop, List.drop_left, List.append_assoc, List.drop_left, List.append_assoc]
  have hd := h l[k] (List.getElem_mem hlt) ((l.drop (k + 1)).flatMap c ++ t)
  rw [steps_ok ih (by rw [hdrop]; exact hd), List.take_succ_eq_append_getElem hlt, List.flatMap_append, List.length_append]
  simp [Nat.add_assoc]
theorem decList_enc {α : Type} {d : List Int → α × Nat × Int} {c : α → List Int} {size : Nat} (hs : 0 < size) (l : List α) (hl : l.length ≤ 1000000000000) (h : ∀ x ∈ l, Back d c x) (hsz : l.length * size ≤ (l.flatMap c).length) (t : List Int) :
  decList d size (code (l.length : Int) ++ l.flatMap c ++ t) = (l, (code (l.length : Int) ++ l.flatMap c).length, 0) := by
 have h1 := lenOf_code l.length size hl (l.flatMap c ++ t) (by rw [List.length_append]; omega) hs
 rw [← List.append_assoc] at h1
 have h2 := steps_enc l h (code (l.length : Int)) t l.length (Nat.le_refl _)
 rw [List.take_length] at h2
 unfold decList
 rw [h1]
 simp only [ne_eq, not_true, if_false, Int.toNat_natCast, h2]
 rw [List.length_append]
theorem flatMap_size {α : Type} (c : α → List Int) (size : Nat) (l : List α) (h : ∀ x ∈ l, size ≤ (c x).length) : l.length * size ≤ (l.flatMap c).length := by
 induction l with
 | nil => simp
 | cons x l ih =>
  have h1 := h x (List.mem_cons_self ..)
  have h2 := ih (fun y hy => h y (List.mem_cons_of_mem _ hy))
  rw [List.flatMap_cons, List.length_append, List.length_cons, Nat.add_mul]
  omega
theorem code_pos (n : Int) : 1 ≤ (code n).length := by rw [code_length]; omega
theorem back_int (n : Int) (h1 : -9223372036854775808 ≤ n) (h2 : n ≤ 9223372036854775807) : Back dec code n := fun t => dec_code n h1 h2 t
theorem decInts_enc (l : List Int) (hl : l.length ≤ 1000000000000) (h : ∀ z ∈ l, -9223372036854775808 ≤ z ∧ z ≤ 9223372036854775807) (t : List Int) : decList dec 1 (encInts l ++ t) = (l, (encInts l).length, 0) :=
 decList_enc (by omega) l hl (fun x hx => back_int x (h x hx).1 (h x hx).2) (flatMap_size code 1 l (fun x _ => code_pos x)) t
/-! ### What is decoded is encoded so -/
theorem lenOf_canonical {b : List Int} {size n u : Nat} (hb : Bs b) (hs : 0 < size) (h : lenOf b size = ((n : Int), u, 0)) : u ≤ b.length ∧ b.take u = code (n : Int) := by
 rcases lenOf_cases b size hs hb with ⟨n', u', h', hd, _, _, _⟩ | h' | h'
 ·rw [h] at h'
  simp only [Prod.mk.injEq] at h'
  obtain ⟨hn, rfl, _⟩ := h'
  have := dec_canonical b hb _ _ hd
  rw [hn]
  exact ⟨this.1, this.2.1⟩
 ·rw [h] at h'; simp at h'
 ·rw [h] at h'; simp at h'
theorem steps_canonical {α : Type} {d : List Int → α × Nat × Int} {c : α → List Int} (b : List Int) (hb : Bs b) (u : Nat) (hu : u ≤ b.length)
  (h : ∀ b' x m, Bs b' → d b' = (x, m, 0) → m ≤ b'.length ∧ b'.take m = c x) : ∀ k l v, steps d b u k = (l, v, 0) → v ≤ b.length ∧ b.take v = b.take u ++ l.flatMap c
 | 0, l, v, hst => by
  simp only [steps, Prod.mk.injEq] at hst
  obtain ⟨rfl, rfl, _⟩ := hst
  exact ⟨hu, by simp⟩
 | k + 1, l, v, hst => by
  rw [steps] at hst
  generalize hs : steps d b u k = r at hst
  obtain ⟨l0, v0, e0⟩ := r
  simp only at hst
  split at hst
  ·rename_i hne
   simp only [Prod.mk.injEq] at hst
   exact absurd hst.2.2 hne
  ·rename_i he
   obtain rfl : e0 = 0 := Decidable.not_not.1 he
   generalize hd : d (b.drop v0) = q at hst
   obtain ⟨x, m, e⟩ := q
   simp only at hst
   split at hst
   ·rename_i hne
    simp only [Prod.mk.injEq] at hst
    exact absurd hst.2.2 hne
   ·rename_i he'
    obtain rfl : e = 0 := Decidable.not_not.1 he'
    simp only [Prod.mk.injEq] at hst
    obtain ⟨rfl, rfl, _⟩ := hst
    have ih := steps_canonical b hb u hu h k l0 v0 hs
    have h1 := h _ _ _ (hb.drop v0) hd
    rw [List.length_drop] at h1
    refine ⟨by omega, ?_⟩
    rw [List.take_add, ih.2, h1.2, List.flatMap_append, List.append_assoc]
    simp
theorem decList_canonical {α : Type} {d : List Int → α × Nat × Int} {c : α → List Int} {size : Nat} (hs : 0 < size) (b : List Int) (hb : Bs b)
  (h : ∀ b' x m, Bs b' → d b' = (x, m, 0) → m ≤ b'.length ∧ b'.take m = c x) {l : List α} {v : Nat} (hd : decList d size b = (l, v, 0)) : v ≤ b.length ∧ b.take v = code (l.length : Int) ++ l.flatMap c := by
 unfold decList at hd
 rcases lenOf_cases b size hs hb with ⟨n', u', h', hdd, h1, h2, h3⟩ | h' | h'
 ·have hc := lenOf_canonical hb hs h'
  rw [h'] at hd
  simp only [ne_eq, not_true, if_false, Int.toNat_natCast] at hd
  split at hd
  ·rename_i hne
   simp only [Prod.mk.injEq] at hd
   exact absurd hd.2.2 hne
  ·have hlen := steps_length d b u' n' (by rw [hd])
   rw [hd] at hlen
   have := steps_canonical b hb u' h2 h n' l v hd
   simp only at hlen
   rw [hlen, ← hc.2]
   exact this
 ·rw [h'] at hd; simp at hd
 ·rw [h'] at hd; simp at hd
/-! ### What is cut off needs more -/
theorem lenOf_short {b : List Int} {size : Nat} (h : dec b = (0, 0, 3)) : lenOf b size = (0, 0, 3) := by unfold lenOf; rw [h]; simp
theorem lenOf_few (n size : Nat) (hn : n ≤ 1000000000000) (r : List Int) (h : r.length < n * size) (hs : 0 < size) : lenOf (code (n : Int) ++ r) size = (0, 0, 3) := by
 have hd := dec_code (n : Int) (by omega) (by omega) r
 unfold lenOf
 rw [hd]
 simp only [ne_eq, not_true, if_false]
 rw [if_neg (by omega), if_pos]
 have : r.length / size < n := (Nat.div_lt_iff_lt_mul hs).2 h
 rw [List.length_append, Nat.add_sub_cancel_left]
 omega
def Cut {α : Type} (d : List Int → α × Nat × Int) (c : α → List Int) (x : α) : Prop := ∀ i, i < (c x).length → (d ((c x).take i)).2.2 = 3
theorem steps_cut {α : Type} {d : List Int → α × Nat × Int} {c : α → List Int} (l : List α) (h : ∀ x ∈ l, Back d c x) (hc : ∀ x ∈ l, Cut d c x) (p : List Int) (i : Nat) (hi : i < (l.flatMap c).length) : ∃ k, k ≤ l.length ∧ (steps d (p ++ (l.flatMap c).take i) p.length k).2.2 = 3 := by
 induction l generalizing p i with
 | nil => simp at hi
 | cons x l ih =>
  rw [List.flatMap_cons, List.length_append] at hi
  by_cases hx : i < (c x).length
  ·refine ⟨1, by simp, ?_⟩
   rw [List.flatMap_cons, List.take_append_of_le_length (by omega)]
   have h3 := hc x (List.mem_cons_self ..) i hx
   simp only [steps, List.drop_left]
   rw [if_neg (by simp), if_pos (by rw [h3]; omega)]
   exact h3
  ·obtain ⟨k, hk, h3⟩ := ih (fun y hy => h y (List.mem_cons_of_mem _ hy)) (fun y hy => hc y (List.mem_cons_of_mem _ hy)) (p ++ c x) (i - (c x).length) (by omega)
   refine ⟨k + 1, by simp; omega, ?_⟩
   have e : p ++ ((x :: l).flatMap c).take i = p ++ c x ++ (l.flatMap c).take (i - (c x).length) := by
    rw [List.flatMap_cons, List.take_append, List.take_of_length_le (by omega), List.append_assoc]
   rw [e]
   have hb := h x (List.mem_cons_self ..) ((l.flatMap c).take (i - (c x).length))
   have hfirst : ∀ k, steps d (p ++ c x ++ (l.flatMap c).take (i - (c x).length)) p.length (k + 1) = (x :: (steps d (p ++ c x ++ (l.flatMap c).take (i - (c x).length)) (p ++ c x).length k).1, (steps d (p ++ c x ++ (l.flatMap c).take (i - (c x).length)) (p ++ c x).length k).2) := by
    intro k
    induction k with
    | zero =>
     have h0 : steps d (p ++ c x ++ (l.flatMap c).take (i - (c x).length)) p.length 0 = ([], p.length, 0) := rfl
     rw [steps_ok h0 (by rw [List.append_assoc, List.drop_left]; exact hb)]
     simp [steps]
    | succ k ih2 =>
     rw [steps, ih2]
     conv => rhs; rw [steps]
     simp only
     split
     ·rfl
     ·split
      ·rfl
      ·rfl
   rw [hfirst]
   exact h3
theorem decList_cut {α : Type} {d : List Int → α × Nat × Int} {c : α → List Int} {size : Nat} (hs : 0 < size) (l : List α) (hl : l.length ≤ 1000000000000) (h : ∀ x ∈ l, Back d c x) (hc : ∀ x ∈ l, Cut d c x) (i : Nat) (hi : i < (code (l.length : Int) ++ l.flatMap c).length) :
  decList d size ((code (l.length : Int) ++ l.flatMap c).take i) = ([], 0, 3) := by
 unfold decList
 by_cases hlt : i < (code (l.length : Int)).length
 ·have : lenOf ((code (l.length : Int) ++ l.flatMap c).take i) size = (0, 0, 3) := by
   refine lenOf_short ?_
   rw [List.take_append_of_le_length (by omega)]
   exact dec_prefix _ _ hlt
  rw [this]
  simp
 ·rw [List.length_append] at hi
  have e : (code (l.length : Int) ++ l.flatMap c).take i = code (l.length : Int) ++ (l.flatMap c).take (i - (code (l.length : Int)).length) := by
   rw [List.take_append, List.take_of_length_le (by omega)]
  rw [e]
  by_cases hfew : ((l.flatMap c).take (i - (code (l.length : Int)).length)).length < l.length * size
  ·rw [lenOf_few _ _ hl _ hfew hs]
   simp
  ·rw [lenOf_code _ _ hl _ (by omega) hs]
   simp only [ne_eq, not_true, if_false, Int.toNat_natCast]
   obtain ⟨k, hk, h3⟩ := steps_cut l h hc (code (l.length : Int)) (i - (code (l.length : Int)).length) (by omega)
   have hst := steps_stuck (d := d) (b := code (l.length : Int) ++ (l.flatMap c).take (i - (code (l.length : Int)).length)) (u := (code (l.length : Int)).length) (k := k) (by rw [h3]; omega) (l.length - k)
   rw [show k + (l.length - k) = l.length by omega] at hst
   rw [hst, h3]
   simp
theorem cut_int (n : Int) : Cut dec code n := fun i hi => by rw [dec_prefix n i hi]
theorem decInts_cut (l : List Int) (hl : l.length ≤ 1000000000000) (h : ∀ z ∈ l, -9223372036854775808 ≤ z ∧ z ≤ 9223372036854775807) (i : Nat) (hi : i < (encInts l).length) : decList dec 1 ((encInts l).take i) = ([], 0, 3) :=
 decList_cut (by omega) l hl (fun x hx => back_int x (h x hx).1 (h x hx).2) (fun x _ => cut_int x) i hi
theorem steps_all {α : Type} {d : List Int → α × Nat × Int} {P : α → Prop} (b : List Int) (hb : Bs b) (u : Nat) (h : ∀ b' x m, Bs b' → d b' = (x, m, 0) → P x) : ∀ k l v e, steps d b u k = (l, v, e) → ∀ x ∈ l, P x
 | 0, l, v, e, hst => by
  simp only [steps, Prod.mk.injEq] at hst
  obtain ⟨rfl, _, _⟩ := hst
  intro x hx
  simp at hx
 | k + 1, l, v, e, hst => by
  rw [steps] at hst
  generalize hs : steps d b u k = r at hst
  obtain ⟨l0, v0, e0⟩ := r
  have ih := steps_all b hb u h k l0 v0 e0 hs
  simp only at hst
  split at hst
  ·simp only [Prod.mk.injEq] at hst
   rw [← hst.1]; exact ih
  ·generalize hd : d (b.drop v0) = q at hst
   obtain ⟨x, m, e1⟩ := q
   simp only at hst
   split at hst
   ·simp only [Prod.mk.injEq] at hst
    rw [← hst.1]; exact ih
   ·rename_i he'
    obtain rfl : e1 = 0 := Decidable.not_not.1 he'
    simp only [Prod.mk.injEq] at hst
    obtain ⟨rfl, _, _⟩ := hst
    intro y hy
    rcases List.mem_append.1 hy with h' | h'
    ·exact ih y h'
    ·simp at h'; subst h'; exact h _ _ _ (hb.drop v0) hd
theorem decList_all {α : Type} {d : List Int → α × Nat × Int} {P : α → Prop} {size : Nat} (b : List Int) (hb : Bs b) (h : ∀ b' x m, Bs b' → d b' = (x, m, 0) → P x) {l : List α} {v : Nat} {e : Int} (hd : decList d size b = (l, v, e)) : ∀ x ∈ l, P x := by
 unfold decList at hd
 split at hd
 ·simp only [Prod.mk.injEq] at hd
  rw [← hd.1]; intro x hx; simp at hx
 ·split at hd
  ·simp only [Prod.mk.injEq] at hd
   rw [← hd.1]; intro x hx; simp at hx
  ·exact steps_all b hb _ h _ _ _ _ hd
theorem decInts_good {b : List Int} (hb : Bs b) {l : List Int} {v : Nat} (h : decList dec 1 b = (l, v, 0)) : v ≤ b.length ∧ b.take v = encInts l ∧ ∀ z ∈ l, -9223372036854775808 ≤ z ∧ z ≤ 9223372036854775807 := by
 have h1 := decList_canonical (c := code) (by omega) b hb (fun b' x m hb' hx => ⟨(dec_canonical b' hb' x m hx).1, (dec_canonical b' hb' x m hx).2.1⟩) h
 exact ⟨h1.1, h1.2, decList_all b hb (fun b' x m hb' hx => (dec_canonical b' hb' x m hx).2.2) h⟩
end Go.Proofs.YtcblbepaigdlgaaGreat.W
