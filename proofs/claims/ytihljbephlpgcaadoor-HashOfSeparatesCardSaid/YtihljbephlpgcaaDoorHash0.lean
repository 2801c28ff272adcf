/-
  Plain mathematics of package hash (numbers and lists alone): SHA-256.
-/
namespace Go.Proofs.YtihljbephlpgcaaDoor.S

def nadd (a b : Nat) : Nat := (a + b) % 4294967296
def nrot (n x : Nat) : Nat := (x * 2 ^ (32 - n)) % 4294967296 ||| x / 2 ^ n
def big1 (e : Nat) : Nat := nrot 6 e ^^^ nrot 11 e ^^^ nrot 25 e
def big0 (a : Nat) : Nat := nrot 2 a ^^^ nrot 13 a ^^^ nrot 22 a
def chs (e f g : Nat) : Nat := (e &&& f) ^^^ ((4294967295 ^^^ e) &&& g)
def major (a b c : Nat) : Nat := (a &&& b) ^^^ (a &&& c) ^^^ (b &&& c)
def small0 (w : Nat) : Nat := nrot 7 w ^^^ nrot 18 w ^^^ w / 8
def small1 (w : Nat) : Nat := nrot 17 w ^^^ nrot 19 w ^^^ w / 1024

/-- The hash value: eight words. -/
structure St where
  (a b c d e f g h : Nat)

def St.ok (s : St) : Prop := s.a < 4294967296 ∧ s.b < 4294967296 ∧ s.c < 4294967296 ∧ s.d < 4294967296 ∧ s.e < 4294967296 ∧ s.f < 4294967296 ∧ s.g < 4294967296 ∧ s.h < 4294967296
def St.list (s : St) : List Nat := [s.a, s.b, s.c, s.d, s.e, s.f, s.g, s.h]

def xOf (s : St) (k w : Nat) : Nat := nadd (nadd (nadd (nadd s.h (big1 s.e)) (chs s.e s.f s.g)) k) w
def yOf (s : St) : Nat := nadd (big0 s.a) (major s.a s.b s.c)
def step (s : St) (k w : Nat) : St := ⟨nadd (xOf s k w) (yOf s), s.a, s.b, s.c, nadd s.d (xOf s k w), s.e, s.f, s.g⟩
def plus (s t : St) : St := ⟨nadd s.a t.a, nadd s.b t.b, nadd s.c t.c, nadd s.d t.d, nadd s.e t.e, nadd s.f t.f, nadd s.g t.g, nadd s.h t.h⟩

theorem nadd_lt (a b : Nat) : nadd a b < 4294967296 := Nat.mod_lt _ (by decide)
theorem nrot_lt (n x : Nat) (h : x < 4294967296) : nrot n x < 4294967296 :=
  Nat.or_lt_two_pow (n := 32) (Nat.mod_lt _ (by decide)) (Nat.lt_of_le_of_lt (Nat.div_le_self _ _) h)
theorem big1_lt (x : Nat) (h : x < 4294967296) : big1 x < 4294967296 := Nat.xor_lt_two_pow (n := 32) (Nat.xor_lt_two_pow (n := 32) (nrot_lt _ _ h) (nrot_lt _ _ h)) (nrot_lt _ _ h)
theorem big0_lt (x : Nat) (h : x < 4294967296) : big0 x < 4294967296 := Nat.xor_lt_two_pow (n := 32) (Nat.xor_lt_two_pow (n := 32) (nrot_lt _ _ h) (nrot_lt _ _ h)) (nrot_lt _ _ h)
theorem small1_lt (x : Nat) (h : x < 4294967296) : small1 x < 4294967296 := Nat.xor_lt_two_pow (n := 32) (Nat.xor_lt_two_pow (n := 32) (nrot_lt _ _ h) (nrot_lt _ _ h)) (Nat.lt_of_le_of_lt (Nat.div_le_self _ _) h)
theorem small0_lt (x : Nat) (h : x < 4294967296) : small0 x < 4294967296 := Nat.xor_lt_two_pow (n := 32) (Nat.xor_lt_two_pow (n := 32) (nrot_lt _ _ h) (nrot_lt _ _ h)) (Nat.lt_of_le_of_lt (Nat.div_le_self _ _) h)

theorem step_ok {s : St} (h : s.ok) (k w : Nat) : (step s k w).ok := by
  obtain ⟨h1, h2, h3, h4, h5, h6, h7, h8⟩ := h
  exact ⟨nadd_lt _ _, h1, h2, h3, nadd_lt _ _, h5, h6, h7⟩
theorem plus_ok (s t : St) : (plus s t).ok := ⟨nadd_lt _ _, nadd_lt _ _, nadd_lt _ _, nadd_lt _ _, nadd_lt _ _, nadd_lt _ _, nadd_lt _ _, nadd_lt _ _⟩

/-- A word that is known for all bytes of a list. -/
def Ws (l : List Nat) : Prop := ∀ x ∈ l, x < 4294967296
def Bn (l : List Nat) : Prop := ∀ x ∈ l, x < 256
theorem Ws.getD {l : List Nat} (h : Ws l) (i : Nat) : l.getD i 0 < 4294967296 := by
  rw [List.getD_eq_getElem?_getD]
  cases hi : l[i]? with
  | none => simp
  | some x => exact h x (List.mem_of_getElem? hi)
theorem Bn.getD {l : List Nat} (h : Bn l) (i : Nat) : l.getD i 0 < 256 := by
  rw [List.getD_eq_getElem?_getD]
  cases hi : l[i]? with
  | none => simp
  | some x => exact h x (List.mem_of_getElem? hi)

/-- The number that bytes stand for. -/
def num (l : List Nat) : Nat := l.foldl (fun n c => n * 256 + c) 0
theorem num_snoc (l : List Nat) (c : Nat) : num (l ++ [c]) = num l * 256 + c := by simp [num]
theorem foldl_lt (l : List Nat) : ∀ n, Bn l → l.foldl (fun n c => n * 256 + c) n < (n + 1) * 256 ^ l.length := by
  induction l with
  | nil => intro n _; simp
  | cons c l ih =>
    intro n h
    have h1 := ih (n * 256 + c) fun x hx => h x (List.mem_cons_of_mem _ hx)
    have h2 := h c (List.mem_cons_self ..)
    simp only [List.foldl_cons, List.length_cons, Nat.pow_succ]
    refine Nat.lt_of_lt_of_le h1 ?_
    rw [Nat.mul_comm (256 ^ l.length) 256, ← Nat.mul_assoc]
    exact Nat.mul_le_mul_right _ (by omega)
theorem num_lt (l : List Nat) (h : Bn l) : num l < 256 ^ l.length := by
  have := foldl_lt l 0 h
  simpa [num] using this

/-- The word at place j of a block. -/
def word (b : List Nat) (j : Nat) : Nat := num ((b.drop (4 * j)).take 4)
theorem word_lt (b : List Nat) (h : Bn b) (j : Nat) : word b j < 4294967296 := by
  have h1 : Bn ((b.drop (4 * j)).take 4) := fun x hx => h x (List.mem_of_mem_drop (List.mem_of_mem_take hx))
  have h2 := num_lt _ h1
  have h3 : ((b.drop (4 * j)).take 4).length ≤ 4 := List.length_take_le _ _
  have h4 : 256 ^ ((b.drop (4 * j)).take 4).length ≤ 256 ^ 4 := Nat.pow_le_pow_right (by decide) h3
  unfold word
  omega

/-- The word that follows. -/
def next (l : List Nat) (t : Nat) : Nat := nadd (nadd (nadd (l.getD (t - 16) 0) (small0 (l.getD (t - 15) 0))) (l.getD (t - 7) 0)) (small1 (l.getD (t - 2) 0))
/-- The words w(0) to w(15 + n). -/
def wordsUpto (b : List Nat) : Nat → List Nat
  | 0 => (List.range 16).map (word b)
  | n + 1 => wordsUpto b n ++ [next (wordsUpto b n) (n + 16)]
theorem wordsUpto_length (b : List Nat) (n : Nat) : (wordsUpto b n).length = n + 16 := by
  induction n with
  | zero => simp [wordsUpto]
  | succ n ih => simp [wordsUpto, ih]
theorem words_succ (b : List Nat) (n : Nat) : wordsUpto b (n + 1) = wordsUpto b n ++ [next (wordsUpto b n) (n + 16)] := by
  rw [wordsUpto]
theorem snoc_at (l : List Nat) (x n j : Nat) (hl : l.length = n) : (l ++ [x]).getD j 0 = if j = n then x else l.getD j 0 := by
  simp only [List.getD_eq_getElem?_getD]
  by_cases hj : j = n
  · subst hj
    rw [if_pos rfl, List.getElem?_append_right (by omega), hl]
    simp
  · rw [if_neg hj]
    by_cases h2 : j < n
    · rw [List.getElem?_append_left (by omega)]
    · rw [List.getElem?_eq_none (by simp; omega), List.getElem?_eq_none (by omega)]
theorem words_snoc (b : List Nat) (n j : Nat) : (wordsUpto b (n + 1)).getD j 0 = if j = n + 16 then next (wordsUpto b n) (n + 16) else (wordsUpto b n).getD j 0 := by
  rw [words_succ, snoc_at _ _ (n + 16) j (wordsUpto_length b n)]
theorem words_step (b : List Nat) (t : Nat) (h : 16 ≤ t) (j : Nat) : (wordsUpto b (t + 1 - 16)).getD j 0 = if j = t then next (wordsUpto b (t - 16)) t else (wordsUpto b (t - 16)).getD j 0 := by
  obtain ⟨n, rfl⟩ : ∃ n, t = n + 16 := ⟨t - 16, by omega⟩
  rw [show n + 16 + 1 - 16 = n + 1 by omega, show n + 16 - 16 = n by omega]
  exact words_snoc b n j
theorem wordsUpto_ws (b : List Nat) (h : Bn b) (n : Nat) : Ws (wordsUpto b n) := by
  induction n with
  | zero =>
    intro x hx
    obtain ⟨j, _, rfl⟩ := List.mem_map.1 hx
    exact word_lt b h j
  | succ n ih =>
    intro x hx
    rcases List.mem_append.1 hx with hx | hx
    · exact ih x hx
    · rw [List.mem_singleton.1 hx]; exact nadd_lt _ _
def sched (b : List Nat) : List Nat := wordsUpto b 48

def ks : List Nat := [1116352408, 1899447441, 3049323471, 3921009573, 961987163, 1508970993, 2453635748, 2870763221, 3624381080, 310598401, 607225278, 1426881987, 1925078388, 2162078206, 2614888103, 3248222580, 3835390401, 4022224774, 264347078, 604807628, 770255983, 1249150122, 1555081692, 1996064986, 2554220882, 2821834349, 2952996808, 3210313671, 3336571891, 3584528711, 113926993, 338241895, 666307205, 773529912, 1294757372, 1396182291, 1695183700, 1986661051, 2177026350, 2456956037, 2730485921, 2820302411, 3259730800, 3345764771, 3516065817, 3600352804, 4094571909, 275423344, 430227734, 506948616, 659060556, 883997877, 958139571, 1322822218, 1537002063, 1747873779, 1955562222, 2024104815, 2227730452, 2361852424, 2428436474, 2756734187, 3204031479, 3329325298]

/-- The variables after t rounds. -/
def rounds (s : St) (w : List Nat) : Nat → St
  | 0 => s
  | t + 1 => step (rounds s w t) (ks.getD t 0) (w.getD t 0)
theorem rounds_ok {s : St} (h : s.ok) (w : List Nat) (t : Nat) : (rounds s w t).ok := by
  induction t with
  | zero => exact h
  | succ t ih => exact step_ok ih _ _
def comp (s : St) (b : List Nat) : St := plus s (rounds s (sched b) 64)
theorem comp_ok (s : St) (b : List Nat) : (comp s b).ok := plus_ok _ _

def iv : St := ⟨1779033703, 3144134277, 1013904242, 2773480762, 1359893119, 2600822924, 528734635, 1541459225⟩
theorem iv_ok : iv.ok := by unfold iv St.ok; decide

/-- The hash value after the first n blocks of a message. -/
def after (m : List Nat) : Nat → St
  | 0 => iv
  | n + 1 => comp (after m n) ((m.drop (64 * n)).take 64)
theorem after_ok (m : List Nat) (n : Nat) : (after m n).ok := by
  cases n with
  | zero => exact iv_ok
  | succ n => exact comp_ok _ _
theorem after_append (m t : List Nat) (n : Nat) (h : 64 * n ≤ m.length) : after (m ++ t) n = after m n := by
  induction n with
  | zero => rfl
  | succ n ih =>
    have e : ((m ++ t).drop (64 * n)).take 64 = (m.drop (64 * n)).take 64 := by
      rw [List.drop_append_of_le_length (by omega), List.take_append_of_le_length (by simp; omega)]
    simp only [after]
    rw [ih (by omega), e]

/-- The bytes of a word, and of eight. -/
def bytes4 (w : Nat) : List Nat := [w / 16777216 % 256, w / 65536 % 256, w / 256 % 256, w % 256]
def bytes32 (s : St) : List Nat := s.list.flatMap bytes4
def bytes8 (n : Nat) : List Nat := [n / 72057594037927936 % 256, n / 281474976710656 % 256, n / 1099511627776 % 256, n / 4294967296 % 256, n / 16777216 % 256, n / 65536 % 256, n / 256 % 256, n % 256]
/-- What follows a message of n bytes. -/
def pad (n : Nat) : List Nat := 128 :: List.replicate ((119 - n % 64) % 64) 0 ++ bytes8 (8 * n)
theorem pad_length (n : Nat) : (n + (pad n).length) % 64 = 0 := by
  simp only [pad, List.length_append, List.length_cons, List.length_replicate, bytes8, List.length_nil]
  omega
def sha (m : List Nat) : List Nat := bytes32 (after (m ++ pad m.length) ((m ++ pad m.length).length / 64))

end Go.Proofs.YtihljbephlpgcaaDoor.S
