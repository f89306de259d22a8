/- Texts of sheets: the mathematics. -/
import Derived.Test.YtiindlbllhbofaaGreatDoorPrn
import Derived.Lib.Split
set_option linter.unusedVariables false
set_option linter.unusedSimpArgs false
namespace Go.Proofs.YtiindlbllhbofaaGreatDoor
open Go.RowKit

/-- A figure. -/
def digB (c : UInt8) : Bool := decide (48 ≤ c.toNat) && decide (c.toNat ≤ 57)
/-- The number of some figures. -/
def decV (l : List UInt8) : Nat := l.foldl (fun n c => 10 * n + (c.toNat - 48)) 0
theorem decV_snoc (l : List UInt8) (c : UInt8) : decV (l ++ [c]) = 10 * decV l + (c.toNat - 48) := by simp [decV, List.foldl_append]
theorem dig_of {u : Nat} (h : u < 10) : (UInt8.ofNat (48 + u)).toNat = 48 + u := by
  rw [UInt8.toNat_ofNat']
  omega
theorem dig_back {c : UInt8} (h : digB c = true) : UInt8.ofNat (48 + (c.toNat - 48)) = c := by
  simp only [digB, Bool.and_eq_true, decide_eq_true_eq] at h
  rw [show 48 + (c.toNat - 48) = c.toNat by omega]
  exact UInt8.ofNat_toNat
theorem dec_val (u : Nat) : decV (Lib.decDigits u) = u := by
  induction u using Nat.strongRecOn with
  | _ u ih =>
    by_cases h : u < 10
    · rw [Lib.decDigits, dif_pos h]
      simp only [decV, List.foldl_cons, List.foldl_nil, dig_of h]
      omega
    · rw [Lib.decDigits, dif_neg h, decV_snoc, ih (u / 10) (by omega), dig_of (by omega)]
      omega
theorem dec_dig (u : Nat) : ∀ c ∈ Lib.decDigits u, digB c = true := by
  induction u using Nat.strongRecOn with
  | _ u ih =>
    intro c hc
    by_cases h : u < 10
    · rw [Lib.decDigits, dif_pos h, List.mem_singleton] at hc
      subst hc
      simp only [digB, dig_of h, Bool.and_eq_true, decide_eq_true_eq]
      omega
    · rw [Lib.decDigits, dif_neg h] at hc
      rcases List.mem_append.1 hc with hc | hc
      · exact ih _ (by omega) c hc
      · rw [List.mem_singleton] at hc
        subst hc
        simp only [digB, dig_of (show u % 10 < 10 by omega), Bool.and_eq_true, decide_eq_true_eq]
        omega
theorem dec_ne (u : Nat) : Lib.decDigits u ≠ [] := by
  rw [Lib.decDigits]
  split <;> simp
theorem dec_head (u : Nat) (h : 1 ≤ u) : ∀ l, Lib.decDigits u ≠ 48 :: l := by
  induction u using Nat.strongRecOn with
  | _ u ih =>
    intro l hl
    by_cases h9 : u < 10
    · rw [Lib.decDigits, dif_pos h9] at hl
      have := (List.cons.inj hl).1
      have q := congrArg UInt8.toNat this
      rw [dig_of h9] at q
      simp at q
      omega
    · rw [Lib.decDigits, dif_neg h9] at hl
      cases hd : Lib.decDigits (u / 10) with
      | nil => exact dec_ne _ hd
      | cons a t =>
        rw [hd, List.cons_append] at hl
        obtain ⟨rfl, -⟩ := List.cons.inj hl
        exact ih (u / 10) (by omega) (by omega) t hd
theorem snoc_ind {α : Type} {P : List α → Prop} (h0 : P []) (h1 : ∀ l c, P l → P (l ++ [c])) (l : List α) : P l := by
  have h : ∀ m : List α, P m.reverse := fun m => by
    induction m with
    | nil => exact h0
    | cons c m ih => rw [List.reverse_cons]; exact h1 _ _ ih
  have := h l.reverse
  rwa [List.reverse_reverse] at this
theorem decV_lt (l : List UInt8) (h : ∀ c ∈ l, digB c = true) : decV l < 10 ^ l.length := by
  induction l using snoc_ind with
  | h0 => simp [decV]
  | h1 l c ih =>
    have h1 := ih fun x hx => h x (List.mem_append_left _ hx)
    have h2 := h c (by simp)
    simp only [digB, Bool.and_eq_true, decide_eq_true_eq] at h2
    rw [decV_snoc, List.length_append, List.length_singleton, Nat.pow_succ]
    omega
/-- The figures of a number, as they are written. -/
def CanB (l : List UInt8) : Prop := l ≠ [] ∧ (∀ c ∈ l, digB c = true) ∧ ∀ t, l = 48 :: t → t = []
theorem dec_can (u : Nat) : CanB (Lib.decDigits u) := by
  refine ⟨dec_ne u, dec_dig u, fun t ht => ?_⟩
  by_cases h : u = 0
  · subst h
    rw [Lib.decDigits, dif_pos (by omega)] at ht
    exact (List.cons.inj ht).2.symm
  · exact absurd ht (dec_head u (by omega) t)
theorem can_dec (l : List UInt8) (h : CanB l) : Lib.decDigits (decV l) = l := by
  induction l using snoc_ind with
  | h0 => exact absurd rfl h.1
  | h1 l c ih =>
    obtain ⟨-, h2, h3⟩ := h
    have hc := h2 c (by simp)
    have hc' := hc
    simp only [digB, Bool.and_eq_true, decide_eq_true_eq] at hc'
    by_cases hl : l = []
    · subst hl
      simp only [List.nil_append, decV, List.foldl_cons, List.foldl_nil]
      rw [Lib.decDigits, dif_pos (by omega)]
      rw [show 10 * 0 + (c.toNat - 48) = c.toNat - 48 by omega, dig_back hc]
    · have hcan : CanB l := ⟨hl, fun x hx => h2 x (List.mem_append_left _ hx), fun t ht => by
        subst ht
        have q := h3 (t ++ [c]) (by simp)
        simp at q⟩
      have e := ih hcan
      have hv : 1 ≤ decV l := by
        rcases Nat.eq_zero_or_pos (decV l) with hz | hz
        · rw [hz, Lib.decDigits, dif_pos (by omega)] at e
          subst e
          have q := h3 [c] (by simp)
          simp at q
        · exact hz
      rw [decV_snoc, Lib.decDigits, dif_neg (by omega), show (10 * decV l + (c.toNat - 48)) / 10 = decV l by omega, show (10 * decV l + (c.toNat - 48)) % 10 = c.toNat - 48 by omega, e, dig_back hc]

/-- The number that a word is, if it is one. -/
def goodW (w : List UInt8) : Prop := ∃ n : Int, -99999 ≤ n ∧ n ≤ 99999 ∧ w = Lib.itoa n
theorem dec_small {u : Nat} (h : u ≤ 99999) : (Lib.decDigits u).length ≤ 5 := by
  rw [Lib.decDigits_length]
  by_cases h1 : u < 10
  · rw [Lib.nDigits_small h1]; omega
  · rw [Lib.nDigits_big h1]
    by_cases h2 : u / 10 < 10
    · rw [Lib.nDigits_small h2]; omega
    · rw [Lib.nDigits_big h2]
      by_cases h3 : u / 10 / 10 < 10
      · rw [Lib.nDigits_small h3]; omega
      · rw [Lib.nDigits_big h3]
        by_cases h4 : u / 10 / 10 / 10 < 10
        · rw [Lib.nDigits_small h4]; omega
        · rw [Lib.nDigits_big h4, Lib.nDigits_small (by omega)]; omega
theorem can_small {l : List UInt8} (h : CanB l) (h5 : l.length ≤ 5) : decV l ≤ 99999 := by
  have q := decV_lt l h.2.1
  have : (10 : Nat) ^ l.length ≤ 10 ^ 5 := Nat.pow_le_pow_right (by omega) h5
  omega
theorem itoa_pos0 (l : List UInt8) (h : CanB l) : Lib.itoa (decV l : Int) = l := by rw [Lib.itoa_nonneg, can_dec l h]
theorem itoa_neg0 (l : List UInt8) (h : CanB l) (h0 : ∀ t, l ≠ 48 :: t) : Lib.itoa (-(decV l : Int)) = 45 :: l := by
  have e := can_dec l h
  have hv : 1 ≤ decV l := by
    rcases Nat.eq_zero_or_pos (decV l) with hz | hz
    · rw [hz, Lib.decDigits, dif_pos (by omega)] at e
      exact absurd e.symm (h0 [])
    · exact hz
  rw [Lib.itoa_neg _ hv, e]
theorem itoa_inj {a b : Int} (h : Lib.itoa a = Lib.itoa b) : a = b := by
  have key : ∀ x y : Nat, 45 :: Lib.decDigits x ≠ Lib.decDigits y := fun x y e => by
    have := dec_dig y 45 (by rw [← e]; simp)
    simp [digB] at this
  have dinj : ∀ x y : Nat, Lib.decDigits x = Lib.decDigits y → x = y := fun x y e => by rw [← dec_val x, e, dec_val]
  unfold Lib.itoa at h
  split at h <;> split at h
  · have := dinj _ _ (List.cons.inj h).2; omega
  · exact absurd h (key _ _)
  · exact absurd h.symm (key _ _)
  · have := dinj _ _ h; omega

/-- A list cut at each instance of a byte. -/
def spl (b : UInt8) : List UInt8 → List (List UInt8)
  | [] => [[]]
  | c :: l => if c = b then [] :: spl b l else match spl b l with
    | [] => [[c]]
    | w :: ws => (c :: w) :: ws
theorem spl_cons (b c : UInt8) (l : List UInt8) : spl b (c :: l) = if c = b then [] :: spl b l else match spl b l with
    | [] => [[c]]
    | w :: ws => (c :: w) :: ws := rfl
theorem spl_ne (b : UInt8) (l : List UInt8) : spl b l ≠ [] := by
  cases l with
  | nil => simp [spl]
  | cons c l =>
    unfold spl
    split
    · simp
    · split <;> simp
theorem spl_no (b : UInt8) (l : List UInt8) (h : b ∉ l) : spl b l = [l] := by
  induction l with
  | nil => rfl
  | cons c l ih =>
    have h1 : c ≠ b := fun e => h (by simp [e])
    have h2 : b ∉ l := fun e => h (List.mem_cons_of_mem _ e)
    unfold spl
    rw [if_neg h1, ih h2]
theorem spl_app (b : UInt8) (u l : List UInt8) (h : b ∉ u) : spl b (u ++ b :: l) = u :: spl b l := by
  induction u with
  | nil => simp [spl]
  | cons c u ih =>
    have h1 : c ≠ b := fun e => h (by simp [e])
    have h2 : b ∉ u := fun e => h (List.mem_cons_of_mem _ e)
    rw [List.cons_append, spl_cons, if_neg h1, ih h2]
theorem spl_join (b : UInt8) (l : List UInt8) : Lib.join (spl b l) [b] = l := by
  induction l with
  | nil => rfl
  | cons c l ih =>
    unfold spl
    split
    · next e =>
      subst e
      cases hs : spl c l with
      | nil => exact absurd hs (spl_ne _ _)
      | cons w ws =>
        rw [hs] at ih
        rw [Lib.join] at ih ⊢
        rw [← ih]
        simp [List.intercalate, List.intersperse]
    · cases hs : spl b l with
      | nil => exact absurd hs (spl_ne _ _)
      | cons w ws =>
        rw [hs] at ih
        rw [Lib.join] at ih ⊢
        rw [← ih]
        cases ws <;> simp [List.intercalate, List.intersperse]
theorem join_spl (b : UInt8) : ∀ (ws : List (List UInt8)), ws ≠ [] → (∀ w ∈ ws, b ∉ w) → spl b (Lib.join ws [b]) = ws
  | [], h, _ => absurd rfl h
  | [w], _, h => by
    have : Lib.join [w] [b] = w := by simp [Lib.join, List.intercalate]
    rw [this]
    exact spl_no b w (h w (by simp))
  | w :: v :: ws, _, h => by
    have e : Lib.join (w :: v :: ws) [b] = w ++ b :: Lib.join (v :: ws) [b] := by simp [Lib.join, List.intercalate, List.intersperse]
    rw [e, spl_app b w _ (h w (by simp)), join_spl b (v :: ws) (by simp) fun x hx => h x (List.mem_cons_of_mem _ hx)]

open Go.RowKit

theorem index_one (b c : UInt8) (l : List UInt8) : Lib.index (c :: l) [b] = if c = b then 0 else if Lib.index l [b] = -1 then -1 else Lib.index l [b] + 1 := by
  have e : ([b] : List UInt8).isPrefixOf (c :: l) = decide (c = b) := by
    simp only [List.isPrefixOf, Bool.and_true]
    by_cases h : c = b
    · subst h; simp
    · have h' : (b == c) = false := by simpa using fun e => h e.symm
      rw [h']
      simp [h]
  rw [Lib.index, e]
  by_cases h : c = b <;> simp [h]
theorem index_no (b : UInt8) (l : List UInt8) (h : b ∉ l) : Lib.index l [b] = -1 := by
  induction l with
  | nil => rfl
  | cons c l ih =>
    have h1 : c ≠ b := fun e => h (by simp [e])
    rw [index_one, if_neg h1, if_pos (ih fun e => h (List.mem_cons_of_mem _ e))]
theorem index_at (b : UInt8) (u l : List UInt8) (h : b ∉ u) : Lib.index (u ++ b :: l) [b] = u.length := by
  induction u with
  | nil => rw [List.nil_append, index_one, if_pos rfl]; rfl
  | cons c u ih =>
    have h1 : c ≠ b := fun e => h (by simp [e])
    have e := ih fun e => h (List.mem_cons_of_mem _ e)
    rw [List.cons_append, index_one, if_neg h1, e, if_neg (by omega), List.length_cons]
    omega
theorem split_mem (b : UInt8) : ∀ l : List UInt8, b ∈ l → ∃ u v, l = u ++ b :: v ∧ b ∉ u
  | [], h => by cases h
  | c :: l, h => by
    by_cases e : c = b
    · subst e; exact ⟨[], l, rfl, by simp⟩
    · obtain ⟨u, v, rfl, hu⟩ := split_mem b l (by simpa [Ne.symm e] using h)
      exact ⟨c :: u, v, rfl, by simp [Ne.symm e, hu]⟩
/-- strings.Cut at a byte. -/
theorem cut_at (b : UInt8) (u l : List UInt8) (h : b ∉ u) : Lib.cut (u ++ b :: l) [b] = (u, l, true) := by
  unfold Lib.cut
  rw [index_at b u l h, if_pos (by omega)]
  simp [List.drop_append]
theorem cut_no (b : UInt8) (l : List UInt8) (h : b ∉ l) : Lib.cut l [b] = (l, [], false) := by
  unfold Lib.cut
  rw [index_no b l h, if_neg (by omega)]
theorem countFrom_no (b : UInt8) (l : List UInt8) (h : b ∉ l) (f : Nat) : Lib.countFrom [b] f l = 0 := by
  cases f with
  | zero => rfl
  | succ f => rw [Lib.countFrom, index_no b l h]; rfl
/-- strings.Split at a byte. -/
theorem splitK_spl (b : UInt8) : ∀ (n : Nat) (l : List UInt8), l.length ≤ n → ∀ f, l.length < f → Lib.splitK [b] 0 (Lib.countFrom [b] f l) l = spl b l
  | n, l, hn, f, hf => by
    by_cases h : b ∈ l
    · obtain ⟨u, v, rfl, hu⟩ := split_mem b l h
      obtain ⟨f, rfl⟩ : ∃ g, f = g + 1 := ⟨f - 1, by omega⟩
      have hi := index_at b u v hu
      have hl : (u ++ b :: v).length = u.length + 1 + v.length := by simp; omega
      have hd : (u ++ b :: v).drop ((Lib.index (u ++ b :: v) [b]).toNat + 1) = v := by
        rw [hi]
        simp [List.drop_append]
      have hc : Lib.countFrom [b] (f + 1) (u ++ b :: v) = Lib.countFrom [b] f v + 1 := by
        rw [Lib.countFrom, if_neg (by rw [hi]; simp), List.length_singleton, hd]
        omega
      rw [hc, Lib.splitK, if_neg (by rw [hi]; simp), List.length_singleton, hd, spl_app b u v hu]
      obtain ⟨n, rfl⟩ : ∃ m, n = m + 1 := ⟨n - 1, by omega⟩
      rw [splitK_spl b n v (by omega) f (by omega), hi]
      simp
    · rw [countFrom_no b l h, spl_no b l h]
      rfl
theorem split_spl (b : UInt8) (l : List UInt8) : Lib.split l [b] = spl b l := splitK_spl b l.length l (Nat.le_refl _) _ (Nat.lt_succ_self _)

/-- A reading whose numbers a text can hold. -/
structure PrR (r : Rdg) : Prop where
  c0 : 1 ≤ r.cl
  c1 : r.cl ≤ 3
  n : ∀ x ∈ [r.day, r.mi, r.me, r.al, r.ah, r.dl, r.dh, r.wl, r.wh], -99999 ≤ x ∧ x ≤ 99999
theorem PrR.of_good {r : Rdg} (h : r.Good) : PrR r := by
  obtain ⟨d0, d1, m0, m1, c0, c1, b0, b1, a0, a1, a2, t0, t1, t2, w0, w1, w2⟩ := h
  refine ⟨c0, c1, fun x hx => ?_⟩
  simp only [List.mem_cons, List.not_mem_nil, or_false] at hx
  rcases hx with rfl | rfl | rfl | rfl | rfl | rfl | rfl | rfl | rfl <;> omega
theorem itoa_chars (n : Int) : ∀ c ∈ Lib.itoa n, digB c = true ∨ c = 45 := fun c hc => by
  unfold Lib.itoa at hc
  split at hc
  · rcases List.mem_cons.1 hc with rfl | hc
    · exact .inr rfl
    · exact .inl (dec_dig _ c hc)
  · exact .inl (dec_dig _ c hc)
theorem itoa_not {n : Int} {b : UInt8} (h1 : digB b = false) (h2 : b ≠ 45) : b ∉ Lib.itoa n := fun h => by
  rcases itoa_chars n b h with h | h
  · rw [h1] at h; cases h
  · exact h2 h
theorem itoa_ne (n : Int) : Lib.itoa n ≠ [] := by
  unfold Lib.itoa
  split
  · simp
  · exact dec_ne _
/-- The line of a reading without its line feed. -/
def rowF (r : Rdg) : List UInt8 := Lib.join (wordsF r) [32]
theorem lineF_row (r : Rdg) : lineF r = rowF r ++ [10] := rfl
theorem words_not (r : Rdg) {b : UInt8} (h1 : digB b = false) (h2 : b ≠ 45) (h3 : b ∉ letF r.cl) : ∀ w ∈ wordsF r, b ∉ w := fun w hw => by
  simp only [wordsF, List.mem_cons, List.not_mem_nil, or_false] at hw
  rcases hw with rfl | rfl | rfl | rfl | rfl | rfl | rfl | rfl | rfl | rfl
  all_goals first | exact itoa_not h1 h2 | exact h3
theorem let_not (cl : Int) {b : UInt8} (h1 : b ≠ 114) (h2 : b ≠ 115) (h3 : b ≠ 101) : b ∉ letF cl := by
  unfold letF
  split
  · simpa using h1
  split
  · simpa using h2
  · simpa using h3
theorem row_spl (r : Rdg) : spl 32 (rowF r) = wordsF r :=
  join_spl 32 _ (by simp [wordsF]) (words_not r (by decide) (by decide) (let_not _ (by decide) (by decide) (by decide)))
theorem join_not {b c : UInt8} (hbc : b ≠ c) : ∀ ws : List (List UInt8), (∀ w ∈ ws, b ∉ w) → b ∉ Lib.join ws [c]
  | [], _ => by simp [Lib.join, List.intercalate]
  | [w], h => by
    have e : Lib.join [w] [c] = w := by simp [Lib.join, List.intercalate]
    rw [e]; exact h w (by simp)
  | w :: v :: ws, h => by
    have e : Lib.join (w :: v :: ws) [c] = w ++ c :: Lib.join (v :: ws) [c] := by simp [Lib.join, List.intercalate, List.intersperse]
    rw [e]
    have q := join_not hbc (v :: ws) fun x hx => h x (List.mem_cons_of_mem _ hx)
    have p := h w (by simp)
    simp [p, q, hbc]
theorem row_feed (r : Rdg) : 10 ∉ rowF r := join_not (by decide) _ (words_not r (by decide) (by decide) (let_not _ (by decide) (by decide) (by decide)))
theorem letF_inj {a b : Int} (ha : 1 ≤ a ∧ a ≤ 3) (hb : 1 ≤ b ∧ b ≤ 3) (h : letF a = letF b) : a = b := by
  rcases (by omega : a = 1 ∨ a = 2 ∨ a = 3) with rfl | rfl | rfl <;> rcases (by omega : b = 1 ∨ b = 2 ∨ b = 3) with rfl | rfl | rfl <;> first | rfl | (exact absurd h (by decide))
theorem row_inj {r t : Rdg} (hr : PrR r) (ht : PrR t) (h : rowF r = rowF t) : r = t := by
  have e : wordsF r = wordsF t := by rw [← row_spl, h, row_spl]
  simp only [wordsF, List.cons.injEq, and_true] at e
  obtain ⟨e1, e2, e3, e4, e5, e6, e7, e8, e9, e0⟩ := e
  have := letF_inj ⟨hr.c0, hr.c1⟩ ⟨ht.c0, ht.c1⟩ e3
  cases r; cases t
  simp only [Rdg.mk.injEq] at *
  exact ⟨itoa_inj e1, itoa_inj e2, this, itoa_inj e4, itoa_inj e5, itoa_inj e6, itoa_inj e7, itoa_inj e8, itoa_inj e9, itoa_inj e0⟩
/-- No line begins as the last one does. -/
theorem row_head (r : Rdg) (l : List UInt8) : Lib.hasPrefix (lineF r ++ l) [101, 110, 100] = false := by
  obtain ⟨c, t, hc⟩ : ∃ c t, Lib.itoa r.day = c :: t := by
    cases h : Lib.itoa r.day with
    | nil => exact absurd h (itoa_ne _)
    | cons c t => exact ⟨c, t, rfl⟩
  have e : ∃ t', lineF r = c :: t' := by
    unfold lineF
    simp only [wordsF, Lib.join, List.intercalate, List.intersperse, hc, List.flatten_cons, List.cons_append]
    exact ⟨_, rfl⟩
  obtain ⟨t', e⟩ := e
  have hc' : c ≠ 101 := fun h => by
    rcases itoa_chars r.day c (by rw [hc]; simp) with q | q
    · rw [h] at q; exact absurd q (by decide)
    · rw [h] at q; exact absurd q (by decide)
  rw [e, Lib.hasPrefix]
  simp only [List.cons_append, List.isPrefixOf]
  have : ((101 : UInt8) == c) = false := by simpa using fun e => hc' e.symm
  rw [this]; rfl
theorem end_head (l : List UInt8) : Lib.hasPrefix (endF l) [101, 110, 100] = true := by
  simp [endF, Lib.hasPrefix, List.isPrefixOf]
theorem lines_cons (r : Rdg) (rs : List Rdg) : linesF (r :: rs) = lineF r ++ linesF rs := by simp [linesF]
theorem lines_app (a b : List Rdg) : linesF (a ++ b) = linesF a ++ linesF b := by simp [linesF]
/-- A text can be of one sheet only. -/
theorem text_inj_aux : ∀ (a b : List Rdg) (x y : List UInt8), (∀ r ∈ a, PrR r) → (∀ r ∈ b, PrR r) → Lib.hasPrefix x [101, 110, 100] = true → Lib.hasPrefix y [101, 110, 100] = true → linesF a ++ x = linesF b ++ y → a = b ∧ x = y
  | [], [], x, y, _, _, _, _, h => ⟨rfl, by simpa [linesF] using h⟩
  | [], t :: b, x, y, _, _, hx, _, h => by
    rw [lines_cons, List.append_assoc, show linesF [] = [] from rfl, List.nil_append] at h
    rw [h, row_head] at hx; cases hx
  | r :: a, [], x, y, _, _, _, hy, h => by
    rw [lines_cons, List.append_assoc, show linesF [] = [] from rfl, List.nil_append] at h
    rw [← h, row_head] at hy; cases hy
  | r :: a, t :: b, x, y, ha, hb, hx, hy, h => by
    rw [lines_cons, lines_cons, List.append_assoc, List.append_assoc, lineF_row, lineF_row, List.append_assoc, List.append_assoc, List.singleton_append, List.singleton_append] at h
    have e := congrArg (fun l => Lib.cut l [10]) h
    rw [cut_at 10 _ _ (row_feed r), cut_at 10 _ _ (row_feed t)] at e
    simp only [Prod.mk.injEq, and_true] at e
    obtain rfl := row_inj (ha r (by simp)) (hb t (by simp)) e.1
    obtain ⟨rfl, q⟩ := text_inj_aux a b x y (fun z hz => ha z (List.mem_cons_of_mem _ hz)) (fun z hz => hb z (List.mem_cons_of_mem _ hz)) hx hy e.2
    exact ⟨rfl, q⟩
/-- What stands behind some lines of a text of a sheet. -/
theorem text_split : ∀ (rs l : List Rdg) (left x : List UInt8), (∀ r ∈ rs, PrR r) → (∀ r ∈ l, PrR r) → Lib.hasPrefix x [101, 110, 100] = true → linesF rs ++ left = linesF l ++ x → ∃ l', l = rs ++ l' ∧ left = linesF l' ++ x
  | [], l, left, x, _, _, _, h => ⟨l, rfl, by simpa [linesF] using h⟩
  | r :: rs, [], left, x, _, _, hx, h => by
    rw [lines_cons, List.append_assoc, show linesF [] = [] from rfl, List.nil_append] at h
    rw [← h, row_head] at hx; cases hx
  | r :: rs, t :: l, left, x, ha, hb, hx, h => by
    rw [lines_cons, lines_cons, List.append_assoc, List.append_assoc, lineF_row, lineF_row, List.append_assoc, List.append_assoc, List.singleton_append, List.singleton_append] at h
    have e := congrArg (fun l => Lib.cut l [10]) h
    rw [cut_at 10 _ _ (row_feed r), cut_at 10 _ _ (row_feed t)] at e
    simp only [Prod.mk.injEq, and_true] at e
    obtain rfl := row_inj (ha r (by simp)) (hb t (by simp)) e.1
    obtain ⟨l', rfl, q⟩ := text_split rs l left x (fun z hz => ha z (List.mem_cons_of_mem _ hz)) (fun z hz => hb z (List.mem_cons_of_mem _ hz)) hx e.2
    exact ⟨l', rfl, q⟩
theorem text_inj {a b : List Rdg} (ha : ∀ r ∈ a, PrR r) (hb : ∀ r ∈ b, PrR r) (h : textF a = textF b) : a = b :=
  (text_inj_aux a b _ _ ha hb (end_head _) (end_head _) h).1

open Go.RowKit

theorem fold_shift : ∀ (l : List UInt8) (s k : Int), l.foldl digStep (s, k) = (s + (l.foldl digStep (0, k)).1, (l.foldl digStep (0, k)).2)
  | [], s, k => by simp
  | c :: l, s, k => by
    rw [List.foldl_cons, List.foldl_cons]
    by_cases h : 48 ≤ c.toNat ∧ c.toNat ≤ 57
    · have e1 : digStep (s, k) c = (s + ((c.toNat : Int) - 48) * (1 + k % 8), k + 1) := by simp [digStep, h]
      have e2 : digStep (0, k) c = (((c.toNat : Int) - 48) * (1 + k % 8), k + 1) := by simp [digStep, h]
      rw [e1, e2, fold_shift l (s + _), fold_shift l (((c.toNat : Int) - 48) * (1 + k % 8))]
      simp only [Int.add_assoc]
    · have e1 : digStep (s, k) c = (s, k) := by simp only [digStep, h, if_false]
      have e2 : digStep (0, k) c = (0, k) := by simp only [digStep, h, if_false]
      rw [e1, e2, fold_shift l s]
theorem digs_mid (u v : List UInt8) (c : UInt8) (hc : digB c = true) : (digs (u ++ c :: v)).1 = (digs u).1 + ((c.toNat : Int) - 48) * (1 + (digs u).2 % 8) + (v.foldl digStep (0, (digs u).2 + 1)).1 := by
  have h : 48 ≤ c.toNat ∧ c.toNat ≤ 57 := by simpa [digB] using hc
  have e : digStep (digs u) c = ((digs u).1 + ((c.toNat : Int) - 48) * (1 + (digs u).2 % 8), (digs u).2 + 1) := by simp [digStep, h]
  unfold digs at e ⊢
  rw [List.foldl_append, List.foldl_cons, e, fold_shift]
theorem digs_changed (u v : List UInt8) (c d : UInt8) (hc : digB c = true) (hd : digB d = true) (hne : c ≠ d) : checkF (u ++ c :: v) ≠ checkF (u ++ d :: v) := fun h => by
  unfold checkF at h
  rw [digs_mid u v c hc, digs_mid u v d hd] at h
  have hk := (digs_bd u).2.2.1
  simp only [digB, Bool.and_eq_true, decide_eq_true_eq] at hc hd
  have hcd : c.toNat ≠ d.toNat := fun e => hne (UInt8.toNat_inj.1 e)
  generalize (v.foldl digStep (0, (digs u).2 + 1)).1 = R at h
  generalize (digs u).1 = S at h
  obtain ⟨m, hm⟩ : ∃ m, (digs u).2 % 8 = m := ⟨_, rfl⟩
  rw [hm] at h
  have m0 : 0 ≤ m ∧ m ≤ 7 := by omega
  rcases (by omega : m = 0 ∨ m = 1 ∨ m = 2 ∨ m = 3 ∨ m = 4 ∨ m = 5 ∨ m = 6 ∨ m = 7) with rfl | rfl | rfl | rfl | rfl | rfl | rfl | rfl <;> omega
theorem itoa_three {x : Int} (h0 : 0 ≤ x) (h1 : x < 100) : ∃ a b : UInt8, Lib.itoa (100 + x) = [49, a, b] ∧ digB a = true ∧ digB b = true := by
  obtain ⟨n, rfl⟩ : ∃ n : Nat, x = n := ⟨x.toNat, by omega⟩
  have e : Lib.decDigits (100 + n) = [49, UInt8.ofNat (48 + (100 + n) / 10 % 10), UInt8.ofNat (48 + (100 + n) % 10)] := by
    rw [Lib.decDigits, dif_neg (by omega), Lib.decDigits, dif_neg (by omega), Lib.decDigits, dif_pos (by omega)]
    rw [show (100 + n) / 10 / 10 = 1 by omega]
    rfl
  refine ⟨UInt8.ofNat (48 + (100 + n) / 10 % 10), UInt8.ofNat (48 + (100 + n) % 10), ?_, ?_, ?_⟩
  · rw [show (100 + (n : Int)) = ((100 + n : Nat) : Int) by omega, Lib.itoa_nonneg, e]
  · simp only [digB, dig_of (show (100 + n) / 10 % 10 < 10 by omega), Bool.and_eq_true, decide_eq_true_eq]; omega
  · simp only [digB, dig_of (show (100 + n) % 10 < 10 by omega), Bool.and_eq_true, decide_eq_true_eq]; omega
theorem check_of (l : List UInt8) : ∃ x, checkF l = 100 + x ∧ 0 ≤ x ∧ x < 100 := by
  have h := (digs_bd l).1
  exact ⟨(digs l).1 % 97, rfl, by omega, by omega⟩
theorem end_len (l : List UInt8) : (endF l).length = 7 := by
  obtain ⟨x, hx, h0, h1⟩ := check_of l
  obtain ⟨a, b, e, -, -⟩ := itoa_three h0 h1
  unfold endF
  rw [hx, e]
  rfl
theorem end_inj {l t : List UInt8} (h : endF l = endF t) : checkF l = checkF t := by
  obtain ⟨x, hx, h0, h1⟩ := check_of l
  obtain ⟨a, b, e, -, -⟩ := itoa_three h0 h1
  obtain ⟨y, hy, k0, k1⟩ := check_of t
  obtain ⟨a', b', e', -, -⟩ := itoa_three k0 k1
  unfold endF at h
  rw [hx, hy, e, e'] at h
  simp only [List.drop_succ_cons, List.drop_zero, List.append_cancel_left_eq, List.cons_append, List.nil_append, List.cons.injEq, and_true, true_and] at h
  rw [hx, hy]
  refine itoa_inj ?_
  rw [e, e']
  simp [h]
/-- A text of a sheet of which one digit was changed to another one is no text of a sheet. -/
theorem spoilt {rs l : List Rdg} {u v : List UInt8} {c d : UInt8} (h : textF rs = u ++ c :: v) (hc : digB c = true) (hd : digB d = true) (hne : c ≠ d) : textF l ≠ u ++ d :: v := fun e => by
  have k1 := congrArg List.length h
  have k2 := congrArg List.length e
  unfold textF at h e k1 k2
  simp only [List.length_append, List.length_cons, end_len] at k1 k2
  rcases Nat.lt_or_ge u.length (linesF rs).length with hlt | hge
  · obtain ⟨p, hp⟩ : ∃ p, linesF rs = u ++ c :: p := by
      have q := congrArg (List.take (linesF rs).length) h
      rw [List.take_left, List.take_append] at q
      obtain ⟨m, hm⟩ : ∃ m, (linesF rs).length - u.length = m + 1 := ⟨(linesF rs).length - u.length - 1, by omega⟩
      rw [hm, List.take_succ_cons, List.take_of_length_le (by omega)] at q
      exact ⟨_, q⟩
    have hv : v = p ++ endF (linesF rs) := by
      have q := h
      rw [hp, List.append_assoc, List.cons_append] at q
      have := List.append_cancel_left q
      simp only [List.cons.injEq, true_and] at this
      rw [hp]
      exact this.symm
    have hl : (linesF l).length = (u ++ d :: p).length := by
      have := congrArg List.length hp
      simp only [List.length_append, List.length_cons] at this ⊢
      omega
    rw [hv, ← List.cons_append, ← List.append_assoc] at e
    obtain ⟨e1, e2⟩ := List.append_inj e hl
    have e3 := end_inj e2
    rw [e1, hp] at e3
    exact digs_changed u p c d hc hd hne e3.symm
  · have hl : (linesF l).length = (linesF rs).length := by omega
    have q1 := congrArg (List.take (linesF rs).length) h
    have q2 := congrArg (List.take (linesF rs).length) e
    rw [List.take_left, List.take_append_of_le_length hge] at q1
    rw [← hl, List.take_left, hl, List.take_append_of_le_length hge] at q2
    have e1 : linesF l = linesF rs := by rw [q1, q2]
    rw [e1, h] at e
    have := List.append_cancel_left e
    simp only [List.cons.injEq] at this
    exact hne this.1
end Go.Proofs.YtiindlbllhbofaaGreatDoor
