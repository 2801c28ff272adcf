/-
  Plain mathematics of package wire: what decoded lists are made of.
-/
import Derived.Test.YtpdphbliaibkhaaWire2
namespace Go.Proofs.Ytpdphbliaibkhaa.W

theorem steps_all {α : Type} {d : List Int → α × Nat × Int} {P : α → Prop} (b : List Int) (hb : Bs b) (u : Nat) (h : ∀ b' x m, Bs b' → d b' = (x, m, 0) → P x) : ∀ k l v e, steps d b u k = (l, v, e) → ∀ x ∈ l, P x
  | 0, l, v, e, hst => by
    simp only [steps, Prod.mk.injEq] at hst
    obtain ⟨rfl, _, _⟩ := hst
    intro x hx
    simp at hx
  | k + 1, l, v, e, hst => by
    rw [steps] at hst
    generalize hs : steps d b u k = r at hst
    obtain ⟨l0, v0, e0⟩ := r
    have ih := steps_all b hb u h k l0 v0 e0 hs
    simp only at hst
    split at hst
    · simp only [Prod.mk.injEq] at hst
      rw [← hst.1]; exact ih
    · generalize hd : d (b.drop v0) = q at hst
      obtain ⟨x, m, e1⟩ := q
      simp only at hst
      split at hst
      · simp only [Prod.mk.injEq] at hst
        rw [← hst.1]; exact ih
      · rename_i he'
        obtain rfl : e1 = 0 := Decidable.not_not.1 he'
        simp only [Prod.mk.injEq] at hst
        obtain ⟨rfl, _, _⟩ := hst
        intro y hy
        rcases List.mem_append.1 hy with h' | h'
        · exact ih y h'
        · simp at h'; subst h'; exact h _ _ _ (hb.drop v0) hd

theorem decList_all {α : Type} {d : List Int → α × Nat × Int} {P : α → Prop} {size : Nat} (b : List Int) (hb : Bs b) (h : ∀ b' x m, Bs b' → d b' = (x, m, 0) → P x) {l : List α} {v : Nat} {e : Int} (hd : decList d size b = (l, v, e)) : ∀ x ∈ l, P x := by
  unfold decList at hd
  split at hd
  · simp only [Prod.mk.injEq] at hd
    rw [← hd.1]; intro x hx; simp at hx
  · split at hd
    · simp only [Prod.mk.injEq] at hd
      rw [← hd.1]; intro x hx; simp at hx
    · exact steps_all b hb _ h _ _ _ _ hd

/-- A list is decoded, or it is empty and there is an error. -/
theorem decList_cases {α : Type} (d : List Int → α × Nat × Int) (size : Nat) (b : List Int) : (∃ l v, decList d size b = (l, v, 0)) ∨ ∃ e, e ≠ 0 ∧ decList d size b = ([], 0, e) := by
  unfold decList
  split
  · rename_i h; exact .inr ⟨_, h, rfl⟩
  · split
    · rename_i h; exact .inr ⟨_, h, rfl⟩
    · rename_i h
      left
      generalize hs : steps d b (lenOf b size).2.1 (lenOf b size).1.toNat = r at h ⊢
      obtain ⟨l, v, e⟩ := r
      obtain rfl : e = 0 := Decidable.not_not.1 h
      exact ⟨l, v, rfl⟩

theorem decInts_good {b : List Int} (hb : Bs b) {l : List Int} {v : Nat} (h : decList dec 1 b = (l, v, 0)) : v ≤ b.length ∧ b.take v = encInts l ∧ ∀ z ∈ l, -9223372036854775808 ≤ z ∧ z ≤ 9223372036854775807 := by
  have h1 := decList_canonical (c := code) (by omega) b hb (fun b' x m hb' hx => ⟨(dec_canonical b' hb' x m hx).1, (dec_canonical b' hb' x m hx).2.1⟩) h
  exact ⟨h1.1, h1.2, decList_all b hb (fun b' x m hb' hx => (dec_canonical b' hb' x m hx).2.2) h⟩

theorem decTexts_good {b : List Int} (hb : Bs b) {l : List (List Int)} {v : Nat} (h : decList decBytes 1 b = (l, v, 0)) : v ≤ b.length ∧ b.take v = encTexts l ∧ ∀ s ∈ l, Bs s := by
  have h1 := decList_canonical (c := encBytes) (by omega) b hb (fun b' x m hb' hx => decBytes_canonical hb' hx) h
  refine ⟨h1.1, h1.2, decList_all b hb (fun b' x m hb' hx => ?_) h⟩
  rcases decBytes_cases b' hb' with ⟨s, m', h', _, _, hs⟩ | h' | h'
  · rw [hx] at h'; simp only [Prod.mk.injEq] at h'; rw [h'.1]; exact hs
  · rw [hx] at h'; simp at h'
  · rw [hx] at h'; simp at h'

theorem steps_digs (b : List Int) (u : Nat) : ∀ k, u + 16 * k ≤ b.length → b.take (u + 16 * k) = b.take u ++ (steps decDig b u k).1.flatMap id ∧ ∀ d ∈ (steps decDig b u k).1, d.length = 16 := by
  intro k
  induction k with
  | zero => intro _; simp [steps]
  | succ k ih =>
    intro h
    obtain ⟨ih1, ih2⟩ := ih (by omega)
    have hs : steps decDig b u k = ((steps decDig b u k).1, u + 16 * k, 0) := Prod.ext rfl (steps_dig b u k)
    have hn := steps_ok hs (x := (b.drop (u + 16 * k)).take 16) (m := 16) rfl
    rw [hn]
    refine ⟨?_, fun d hd => ?_⟩
    · rw [show u + 16 * (k + 1) = u + 16 * k + 16 by omega, List.take_add, ih1, List.flatMap_append, List.append_assoc]
      simp
    · rcases List.mem_append.1 hd with h' | h'
      · exact ih2 d h'
      · simp at h'; subst h'; simp; omega

theorem decDigs_good {b : List Int} (hb : Bs b) {l : List (List Int)} {v : Nat} (h : decList decDig 16 b = (l, v, 0)) : v ≤ b.length ∧ b.take v = encDigs l ∧ (∀ d ∈ l, d.length = 16) ∧ ∀ d ∈ l, Bs d := by
  have hall := decList_all (P := fun d => Bs d) b hb (fun b' x m hb' hx => by simp only [decDig, Prod.mk.injEq] at hx; rw [← hx.1]; exact hb'.take 16) h
  unfold decList at h
  rcases lenOf_cases b 16 (by omega) hb with ⟨n', u', h', hdd, h1, h2, h3⟩ | h' | h'
  · have hc := lenOf_canonical hb (by omega) h'
    rw [h'] at h
    have hsd := steps_dig b u' n'
    simp only [ne_eq, not_true, if_false, Int.toNat_natCast] at h
    rw [if_neg (by rw [hsd]; simp)] at h
    have hg := steps_digs b u' n' (by omega)
    have hlen := steps_length decDig b u' n' (by rw [hsd])
    rw [h] at hsd hg hlen
    simp only [Prod.mk.injEq] at hsd hlen
    obtain ⟨rfl, _⟩ := hsd
    refine ⟨by omega, ?_, hg.2, hall⟩
    rw [hg.1, hc.2, encDigs, hlen]
  · rw [h'] at h; simp at h
  · rw [h'] at h; simp at h

theorem encTexts_sum (l : List (List Int)) : (l.map List.length).sum ≤ (encTexts l).length := by
  rw [encTexts, List.length_append]
  have : (l.map List.length).sum ≤ (l.flatMap encBytes).length := by
    induction l with
    | nil => simp
    | cons x l ih => rw [List.flatMap_cons, List.length_append, List.map_cons, List.sum_cons, encBytes, List.length_append]; omega
  omega

theorem list_le {α : Type} (c : α → List Int) (l : List α) (h : ∀ x ∈ l, 1 ≤ (c x).length) : l.length ≤ (code (l.length : Int) ++ l.flatMap c).length := by
  have := flatMap_size c 1 l h
  rw [List.length_append]
  omega

end Go.Proofs.Ytpdphbliaibkhaa.W
