/-
  Plain mathematics of package wire: what is encoded is decoded, what is decoded is encoded so, what is cut off needs more.
-/
import Derived.Test.YtelfpefcjchjbaaGreatDoorWire0
namespace Go.Proofs.YtelfpefcjchjbaaGreatDoor.W

theorem lenOf_code (n size : Nat) (hn : n ≤ 1000000000000) (r : List Int) (h : n * size ≤ r.length) (hs : 0 < size) : lenOf (code (n : Int) ++ r) size = ((n : Int), (code (n : Int)).length, 0) := by
  have hd := dec_code (n : Int) (by omega) (by omega) r
  unfold lenOf
  rw [hd]
  simp only [ne_eq, not_true, if_false]
  rw [if_neg (by omega), if_neg]
  have : n ≤ r.length / size := (Nat.le_div_iff_mul_le hs).2 h
  rw [List.length_append, Nat.add_sub_cancel_left]
  omega

theorem decBytes_enc (s t : List Int) (hs : s.length ≤ 1000000000000) : decBytes (encBytes s ++ t) = (s, (encBytes s).length, 0) := by
  unfold decBytes encBytes
  rw [List.append_assoc, lenOf_code s.length 1 hs (s ++ t) (by rw [List.length_append]; omega) (by omega)]
  simp only [ne_eq, not_true, if_false, Int.toNat_natCast]
  rw [List.length_append]
  refine Prod.ext ?_ rfl
  show List.drop _ (List.take _ _) = s
  rw [List.take_append, List.take_of_length_le (by omega), Nat.add_sub_cancel_left, List.drop_left', List.take_left']
  · rfl
  · rfl

/-- One element is decoded whatever follows it. -/
def Back {α : Type} (d : List Int → α × Nat × Int) (c : α → List Int) (x : α) : Prop := ∀ t, d (c x ++ t) = (x, (c x).length, 0)

theorem steps_enc {α : Type} {d : List Int → α × Nat × Int} {c : α → List Int} (l : List α) (h : ∀ x ∈ l, Back d c x) (p t : List Int) : ∀ k, k ≤ l.length → steps d (p ++ l.flatMap c ++ t) p.length k = (l.take k, p.length + ((l.take k).flatMap c).length, 0)
  | 0, _ => by simp [steps]
  | k + 1, hk => by
    have ih := steps_enc l h p t k (by omega)
    have hlt : k < l.length := by omega
    have hdrop : (p ++ l.flatMap c ++ t).drop (p.length + ((l.take k).flatMap c).length) = c l[k] ++ ((l.drop (k + 1)).flatMap c ++ t) := by
      have e : l.flatMap c = (l.take k).flatMap c ++ (c l[k] ++ (l.drop (k + 1)).flatMap c) := by
        conv => lhs; rw [← List.take_append_drop k l, List.drop_eq_getElem_cons hlt]
        rw [List.flatMap_append, List.flatMap_cons]
      rw [e, List.append_assoc, ← List.drop_drop, List.drop_left, List.append_assoc, List.drop_left, List.append_assoc]
    have hd := h l[k] (List.getElem_mem hlt) ((l.drop (k + 1)).flatMap c ++ t)
    rw [steps_ok ih (by rw [hdrop]; exact hd), List.take_succ_eq_append_getElem hlt, List.flatMap_append, List.length_append]
    simp [Nat.add_assoc]

theorem decList_enc {α : Type} {d : List Int → α × Nat × Int} {c : α → List Int} {size : Nat} (hs : 0 < size) (l : List α) (hl : l.length ≤ 1000000000000) (h : ∀ x ∈ l, Back d c x) (hsz : l.length * size ≤ (l.flatMap c).length) (t : List Int) :
    decList d size (code (l.length : Int) ++ l.flatMap c ++ t) = (l, (code (l.length : Int) ++ l.flatMap c).length, 0) := by
  have h1 := lenOf_code l.length size hl (l.flatMap c ++ t) (by rw [List.length_append]; omega) hs
  rw [← List.append_assoc] at h1
  have h2 := steps_enc l h (code (l.length : Int)) t l.length (Nat.le_refl _)
  rw [List.take_length] at h2
  unfold decList
  rw [h1]
  simp only [ne_eq, not_true, if_false, Int.toNat_natCast, h2]
  rw [List.length_append]

theorem flatMap_size {α : Type} (c : α → List Int) (size : Nat) (l : List α) (h : ∀ x ∈ l, size ≤ (c x).length) : l.length * size ≤ (l.flatMap c).length := by
  induction l with
  | nil => simp
  | cons x l ih =>
    have h1 := h x (List.mem_cons_self ..)
    have h2 := ih (fun y hy => h y (List.mem_cons_of_mem _ hy))
    rw [List.flatMap_cons, List.length_append, List.length_cons, Nat.add_mul]
    omega

theorem code_pos (n : Int) : 1 ≤ (code n).length := by rw [code_length]; omega

theorem back_int (n : Int) (h1 : -9223372036854775808 ≤ n) (h2 : n ≤ 9223372036854775807) : Back dec code n := fun t => dec_code n h1 h2 t
theorem back_bytes (s : List Int) (h : s.length ≤ 1000000000000) : Back decBytes encBytes s := fun t => decBytes_enc s t h
theorem back_dig (d : List Int) (h : d.length = 16) : Back decDig id d := fun t => by
  show (List.take 16 (d ++ t), 16, 0) = (d, d.length, 0)
  rw [← h, List.take_left]

theorem decInts_enc (l : List Int) (hl : l.length ≤ 1000000000000) (h : ∀ z ∈ l, -9223372036854775808 ≤ z ∧ z ≤ 9223372036854775807) (t : List Int) : decList dec 1 (encInts l ++ t) = (l, (encInts l).length, 0) :=
  decList_enc (by omega) l hl (fun x hx => back_int x (h x hx).1 (h x hx).2) (flatMap_size code 1 l (fun x _ => code_pos x)) t

theorem decTexts_enc (l : List (List Int)) (hl : l.length ≤ 1000000000000) (h : ∀ s ∈ l, s.length ≤ 1000000000000) (t : List Int) : decList decBytes 1 (encTexts l ++ t) = (l, (encTexts l).length, 0) :=
  decList_enc (by omega) l hl (fun x hx => back_bytes x (h x hx)) (flatMap_size encBytes 1 l (fun x _ => by have := code_pos (x.length : Int); rw [encBytes, List.length_append]; omega)) t

theorem decDigs_enc (l : List (List Int)) (hl : l.length ≤ 1000000000000) (h : ∀ d ∈ l, d.length = 16) (t : List Int) : decList decDig 16 (encDigs l ++ t) = (l, (encDigs l).length, 0) :=
  decList_enc (by omega) l hl (fun x hx => back_dig x (h x hx)) (flatMap_size id 16 l (fun x hx => by rw [id, h x hx]; omega)) t

/-! ### What is decoded is encoded so -/

theorem lenOf_canonical {b : List Int} {size n u : Nat} (hb : Bs b) (hs : 0 < size) (h : lenOf b size = ((n : Int), u, 0)) : u ≤ b.length ∧ b.take u = code (n : Int) := by
  rcases lenOf_cases b size hs hb with ⟨n', u', h', hd, _, _, _⟩ | h' | h'
  · rw [h] at h'
    simp only [Prod.mk.injEq] at h'
    obtain ⟨hn, rfl, _⟩ := h'
    have := dec_canonical b hb _ _ hd
    rw [hn]
    exact ⟨this.1, this.2.1⟩
  · rw [h] at h'; simp at h'
  · rw [h] at h'; simp at h'

theorem decBytes_canonical {b s : List Int} {u : Nat} (hb : Bs b) (h : decBytes b = (s, u, 0)) : u ≤ b.length ∧ b.take u = encBytes s := by
  unfold decBytes at h
  rcases lenOf_cases b 1 (by omega) hb with ⟨n', u', h', hd, h1, h2, h3⟩ | h' | h'
  · have hc := lenOf_canonical hb (by omega) h'
    rw [h'] at h
    simp only [ne_eq, not_true, if_false, Int.toNat_natCast, Prod.mk.injEq] at h
    obtain ⟨rfl, rfl, _⟩ := h
    refine ⟨by omega, ?_⟩
    have hl : ((b.take (u' + n')).drop u').length = n' := by simp; omega
    rw [encBytes, hl, ← hc.2]
    conv => lhs; rw [← List.take_append_drop u' (b.take (u' + n'))]
    rw [List.take_take, Nat.min_eq_left (by omega)]
  · rw [h'] at h; simp at h
  · rw [h'] at h; simp at h

theorem steps_canonical {α : Type} {d : List Int → α × Nat × Int} {c : α → List Int} (b : List Int) (hb : Bs b) (u : Nat) (hu : u ≤ b.length)
    (h : ∀ b' x m, Bs b' → d b' = (x, m, 0) → m ≤ b'.length ∧ b'.take m = c x) : ∀ k l v, steps d b u k = (l, v, 0) → v ≤ b.length ∧ b.take v = b.take u ++ l.flatMap c
  | 0, l, v, hst => by
    simp only [steps, Prod.mk.injEq] at hst
    obtain ⟨rfl, rfl, _⟩ := hst
    exact ⟨hu, by simp⟩
  | k + 1, l, v, hst => by
    rw [steps] at hst
    generalize hs : steps d b u k = r at hst
    obtain ⟨l0, v0, e0⟩ := r
    simp only at hst
    split at hst
    · rename_i hne
      simp only [Prod.mk.injEq] at hst
      exact absurd hst.2.2 hne
    · rename_i he
      obtain rfl : e0 = 0 := Decidable.not_not.1 he
      generalize hd : d (b.drop v0) = q at hst
      obtain ⟨x, m, e⟩ := q
      simp only at hst
      split at hst
      · rename_i hne
        simp only [Prod.mk.injEq] at hst
        exact absurd hst.2.2 hne
      · rename_i he'
        obtain rfl : e = 0 := Decidable.not_not.1 he'
        simp only [Prod.mk.injEq] at hst
        obtain ⟨rfl, rfl, _⟩ := hst
        have ih := steps_canonical b hb u hu h k l0 v0 hs
        have h1 := h _ _ _ (hb.drop v0) hd
        rw [List.length_drop] at h1
        refine ⟨by omega, ?_⟩
        rw [List.take_add, ih.2, h1.2, List.flatMap_append, List.append_assoc]
        simp

theorem decList_canonical {α : Type} {d : List Int → α × Nat × Int} {c : α → List Int} {size : Nat} (hs : 0 < size) (b : List Int) (hb : Bs b)
    (h : ∀ b' x m, Bs b' → d b' = (x, m, 0) → m ≤ b'.length ∧ b'.take m = c x) {l : List α} {v : Nat} (hd : decList d size b = (l, v, 0)) : v ≤ b.length ∧ b.take v = code (l.length : Int) ++ l.flatMap c := by
  unfold decList at hd
  rcases lenOf_cases b size hs hb with ⟨n', u', h', hdd, h1, h2, h3⟩ | h' | h'
  · have hc := lenOf_canonical hb hs h'
    rw [h'] at hd
    simp only [ne_eq, not_true, if_false, Int.toNat_natCast] at hd
    split at hd
    · rename_i hne
      simp only [Prod.mk.injEq] at hd
      exact absurd hd.2.2 hne
    · have hlen := steps_length d b u' n' (by rw [hd])
      rw [hd] at hlen
      have := steps_canonical b hb u' h2 h n' l v hd
      simp only at hlen
      rw [hlen, ← hc.2]
      exact this
  · rw [h'] at hd; simp at hd
  · rw [h'] at hd; simp at hd

/-! ### What is cut off needs more -/

theorem lenOf_short {b : List Int} {size : Nat} (h : dec b = (0, 0, 3)) : lenOf b size = (0, 0, 3) := by unfold lenOf; rw [h]; simp

theorem lenOf_few (n size : Nat) (hn : n ≤ 1000000000000) (r : List Int) (h : r.length < n * size) (hs : 0 < size) : lenOf (code (n : Int) ++ r) size = (0, 0, 3) := by
  have hd := dec_code (n : Int) (by omega) (by omega) r
  unfold lenOf
  rw [hd]
  simp only [ne_eq, not_true, if_false]
  rw [if_neg (by omega), if_pos]
  have : r.length / size < n := (Nat.div_lt_iff_lt_mul hs).2 h
  rw [List.length_append, Nat.add_sub_cancel_left]
  omega

theorem decBytes_cut (s : List Int) (hs : s.length ≤ 1000000000000) (i : Nat) (hi : i < (encBytes s).length) : decBytes ((encBytes s).take i) = ([], 0, 3) := by
  have : lenOf ((encBytes s).take i) 1 = (0, 0, 3) := by
    by_cases h : i < (code (s.length : Int)).length
    · refine lenOf_short ?_
      rw [encBytes, List.take_append_of_le_length (by omega)]
      exact dec_prefix _ _ h
    · rw [encBytes] at hi ⊢
      rw [List.length_append] at hi
      rw [List.take_append, List.take_of_length_le (by omega)]
      exact lenOf_few s.length 1 hs _ (by simp; omega) (by omega)
  unfold decBytes
  rw [this]
  simp

/-- One element that is cut off needs more. -/
def Cut {α : Type} (d : List Int → α × Nat × Int) (c : α → List Int) (x : α) : Prop := ∀ i, i < (c x).length → (d ((c x).take i)).2.2 = 3

theorem steps_cut {α : Type} {d : List Int → α × Nat × Int} {c : α → List Int} (l : List α) (h : ∀ x ∈ l, Back d c x) (hc : ∀ x ∈ l, Cut d c x) (p : List Int) (i : Nat) (hi : i < (l.flatMap c).length) : ∃ k, k ≤ l.length ∧ (steps d (p ++ (l.flatMap c).take i) p.length k).2.2 = 3 := by
  induction l generalizing p i with
  | nil => simp at hi
  | cons x l ih =>
    rw [List.flatMap_cons, List.length_append] at hi
    by_cases hx : i < (c x).length
    · refine ⟨1, by simp, ?_⟩
      rw [List.flatMap_cons, List.take_append_of_le_length (by omega)]
      have h3 := hc x (List.mem_cons_self ..) i hx
      simp only [steps, List.drop_left]
      rw [if_neg (by simp), if_pos (by rw [h3]; omega)]
      exact h3
    · obtain ⟨k, hk, h3⟩ := ih (fun y hy => h y (List.mem_cons_of_mem _ hy)) (fun y hy => hc y (List.mem_cons_of_mem _ hy)) (p ++ c x) (i - (c x).length) (by omega)
      refine ⟨k + 1, by simp; omega, ?_⟩
      have e : p ++ ((x :: l).flatMap c).take i = p ++ c x ++ (l.flatMap c).take (i - (c x).length) := by
        rw [List.flatMap_cons, List.take_append, List.take_of_length_le (by omega), List.append_assoc]
      rw [e]
      have hb := h x (List.mem_cons_self ..) ((l.flatMap c).take (i - (c x).length))
      have hfirst : ∀ k, steps d (p ++ c x ++ (l.flatMap c).take (i - (c x).length)) p.length (k + 1) = (x :: (steps d (p ++ c x ++ (l.flatMap c).take (i - (c x).length)) (p ++ c x).length k).1, (steps d (p ++ c x ++ (l.flatMap c).take (i - (c x).length)) (p ++ c x).length k).2) := by
        intro k
        induction k with
        | zero =>
          have h0 : steps d (p ++ c x ++ (l.flatMap c).take (i - (c x).length)) p.length 0 = ([], p.length, 0) := rfl
          rw [steps_ok h0 (by rw [List.append_assoc, List.drop_left]; exact hb)]
          simp [steps]
        | succ k ih2 =>
          rw [steps, ih2]
          conv => rhs; rw [steps]
          simp only
          split
          · rfl
          · split
            · rfl
            · rfl
      rw [hfirst]
      exact h3

theorem decList_cut {α : Type} {d : List Int → α × Nat × Int} {c : α → List Int} {size : Nat} (hs : 0 < size) (l : List α) (hl : l.length ≤ 1000000000000) (h : ∀ x ∈ l, Back d c x) (hc : ∀ x ∈ l, Cut d c x) (i : Nat) (hi : i < (code (l.length : Int) ++ l.flatMap c).length) :
    decList d size ((code (l.length : Int) ++ l.flatMap c).take i) = ([], 0, 3) := by
  unfold decList
  by_cases hlt : i < (code (l.length : Int)).length
  · have : lenOf ((code (l.length : Int) ++ l.flatMap c).take i) size = (0, 0, 3) := by
      refine lenOf_short ?_
      rw [List.take_append_of_le_length (by omega)]
      exact dec_prefix _ _ hlt
    rw [this]
    simp
  · rw [List.length_append] at hi
    have e : (code (l.length : Int) ++ l.flatMap c).take i = code (l.length : Int) ++ (l.flatMap c).take (i - (code (l.length : Int)).length) := by
      rw [List.take_append, List.take_of_length_le (by omega)]
    rw [e]
    by_cases hfew : ((l.flatMap c).take (i - (code (l.length : Int)).length)).length < l.length * size
    · rw [lenOf_few _ _ hl _ hfew hs]
      simp
    · rw [lenOf_code _ _ hl _ (by omega) hs]
      simp only [ne_eq, not_true, if_false, Int.toNat_natCast]
      obtain ⟨k, hk, h3⟩ := steps_cut l h hc (code (l.length : Int)) (i - (code (l.length : Int)).length) (by omega)
      have hst := steps_stuck (d := d) (b := code (l.length : Int) ++ (l.flatMap c).take (i - (code (l.length : Int)).length)) (u := (code (l.length : Int)).length) (k := k) (by rw [h3]; omega) (l.length - k)
      rw [show k + (l.length - k) = l.length by omega] at hst
      rw [hst, h3]
      simp

theorem cut_int (n : Int) : Cut dec code n := fun i hi => by rw [dec_prefix n i hi]
theorem cut_bytes (s : List Int) (h : s.length ≤ 1000000000000) : Cut decBytes encBytes s := fun i hi => by rw [decBytes_cut s h i hi]

theorem decInts_cut (l : List Int) (hl : l.length ≤ 1000000000000) (h : ∀ z ∈ l, -9223372036854775808 ≤ z ∧ z ≤ 9223372036854775807) (i : Nat) (hi : i < (encInts l).length) : decList dec 1 ((encInts l).take i) = ([], 0, 3) :=
  decList_cut (by omega) l hl (fun x hx => back_int x (h x hx).1 (h x hx).2) (fun x _ => cut_int x) i hi

theorem decTexts_cut (l : List (List Int)) (hl : l.length ≤ 1000000000000) (h : ∀ s ∈ l, s.length ≤ 1000000000000) (i : Nat) (hi : i < (encTexts l).length) : decList decBytes 1 ((encTexts l).take i) = ([], 0, 3) :=
  decList_cut (by omega) l hl (fun x hx => back_bytes x (h x hx)) (fun x hx => cut_bytes x (h x hx)) i hi

theorem decDigs_cut (l : List (List Int)) (hl : l.length ≤ 1000000000000) (h : ∀ d ∈ l, d.length = 16) (i : Nat) (hi : i < (encDigs l).length) : decList decDig 16 ((encDigs l).take i) = ([], 0, 3) := by
  have hlen : (l.flatMap id).length = 16 * l.length := by
    clear hi hl
    induction l with
    | nil => rfl
    | cons d l ih => rw [List.flatMap_cons, List.length_append, ih (fun x hx => h x (List.mem_cons_of_mem _ hx)), id, h d (List.mem_cons_self ..), List.length_cons]; omega
  unfold encDigs at hi ⊢
  unfold decList
  by_cases hlt : i < (code (l.length : Int)).length
  · have : lenOf ((code (l.length : Int) ++ l.flatMap id).take i) 16 = (0, 0, 3) := by
      refine lenOf_short ?_
      rw [List.take_append_of_le_length (by omega)]
      exact dec_prefix _ _ hlt
    rw [this]
    simp
  · rw [List.length_append] at hi
    rw [List.take_append, List.take_of_length_le (by omega), lenOf_few _ _ hl _ (by rw [List.length_take]; omega) (by omega)]
    simp

end Go.Proofs.YtelfpefcjchjbaaGreatDoor.W
