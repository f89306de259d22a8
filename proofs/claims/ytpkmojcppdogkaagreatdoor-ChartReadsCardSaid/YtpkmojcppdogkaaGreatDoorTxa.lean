/- Texts of a field: words, numerals, lines, their form; number, split, ending, joined. -/
import Derived.Test.YtpkmojcppdogkaaGreatDoorKi
import Derived.Test.YtpkmojcppdogkaaGreatDoorCa
import Derived.Laws.IdiomStrings
import Derived.Lib.ItoaLen
import Derived.Deep.AppendLies
import Derived.Test.YtpkmojcppdogkaaGreatDoorRwb
import Derived.Lib.OthersKept
import Derived.Laws.RangeAny
import Derived.Test.YtpkmojcppdogkaaGreatDoorShelf
import Derived.Lib.Split
import Derived.Lib.SplitLaws
set_option linter.unusedVariables false
set_option linter.unusedSimpArgs false
namespace Go.Proofs.YtpkmojcppdogkaaGreatDoor
section PartOfSte
open Go.RowKit Go.Maps
@[reducible] def str (l : List UInt8) : Value := .string ⟨l.toArray⟩
theorem str_app (a b : List UInt8) : Value.string ((⟨a.toArray⟩ : ByteArray) ++ ⟨b.toArray⟩) = str (a ++ b) := by
  congr 1
/-- What stands of a number's figures but the last one. -/
def preD (n : Nat) : List UInt8 := if n < 10 then [] else Lib.decDigits (n / 10)
/-- A number's last figure. -/
def digC (n : Nat) : UInt8 := UInt8.ofNat (48 + n % 10)
theorem dec_pre (n : Nat) : Lib.decDigits n = preD n ++ [digC n] := by
  unfold preD digC
  by_cases h : n < 10
  · rw [Lib.decDigits, dif_pos h, if_pos h, Nat.mod_eq_of_lt h]
    rfl
  · rw [Lib.decDigits, dif_neg h, if_neg h]
theorem preD_step {n : Nat} (h : 10 ≤ n) : preD n = preD (n / 10) ++ [digC (n / 10)] := by
  rw [← dec_pre]
  unfold preD
  rw [if_neg (by omega)]
theorem preD_small {n : Nat} (h : n < 10) : preD n = [] := by
  unfold preD
  rw [if_pos h]


theorem digit_byte (n : Nat) : 48 + (n : Int) % 10 = ((digC n).toNat : Int) := by
  unfold digC
  rw [UInt8.toNat_ofNat']
  omega
theorem one_back (W : World) (x : Int) (d : UInt8) (h : x = (d.toNat : Int)) :
    (convert 81 9 (.slice (some ⟨W.heap.size, 0, none⟩) 1 1)).run Tryz.prog (W.alloc (.cells #[.int .u8 x] 5)) = .ok (str [d]) (W.alloc (.cells #[.int .u8 x] 5)) := by
  refine run_convert_bytes_back (P := Tryz.prog) _ 81 9 5 ⟨W.heap.size, 0, none⟩ 1 [d] Tryz.underlying81 (by kernel_rfl) (by kernel_rfl) (fun j hj => ?_)
  obtain rfl : j = 0 := by simpa using hj
  rw [Go.WideShapes.add_plain, (boxCells (heap_new W _ rfl)).1, h]
  rfl
theorem dec_len (u : Nat) (h1 : u ≤ 1000000000000000) : (Lib.decDigits u).length ≤ 21 := by
  have := Lib.itoa_length_le (u : Int) (by omega) (by omega)
  rwa [Lib.itoa_nonneg] at this
set_option maxHeartbeats 1000000 in
set_option maxRecDepth 100000 in
theorem rDec_pos (u : Nat) (w : World) (h1 : u ≤ 1000000000000000) :
    Calls Tryz.prog 81 #[.int .i64 (u : Int)] w fun e w' => e = .returned (str (Lib.decDigits u)) ∧ Below w.heap.size w w' := by
  have HL := Lib.hid (dec_len u h1)
  have HP := Lib.hid (dec_pre u)
  go_enter Tryz.func81, Tryz.ntmps81
  go_upto_region 1 with fail
  have e1 := one_back w _ _ (digit_byte u)
  go_upto_region 2 with fail
  clear e1
  go_loopw [0, 3] (fun a s wr => ∃ (k : Nat) (l : List UInt8), k ≤ u ∧ a = .int .i64 (k : Int) ∧ s = str l ∧ Lib.decDigits u = preD k ++ l ∧ Below w.heap.size w wr) (fun a _ _ => (intOf a).toNat)
  case atStart => exact ⟨u, _, Nat.le_refl _, rfl, rfl, HP.out, below_al (Below.refl _ _) _⟩
  case round =>
    obtain ⟨k, l, hk, rfl, rfl, hd, hb⟩ := hrel
    have HD := Lib.hid hd
    have HB := Lib.hid hb
    have hl : l.length ≤ 21 := by
      have q := HL.out
      rw [hd, List.length_append] at q
      omega
    clear hd hb
    by_cases h10 : 10 ≤ k
    · have e1 := one_back wr (48 + (k : Int) / 10 % 10) (digC (k / 10)) (by rw [← digit_byte]; omega)
      go_wp2_with fail
      go_roundw
      case rel => exact ⟨k / 10, _, by omega, by go_num, str_app _ _, by rw [HD.out, preD_step h10, List.append_assoc], below_al HB.out _⟩
      case measure => simp [intOf]; omega
    · have HK := Lib.hid (preD_small (n := k) (by omega))
      go_wp2_with fail
      go_ret
      exact ⟨by rw [HD.out, HK.out]; rfl, HB.out⟩

end PartOfSte

section PartOfTmt
open Go.RowKit

/-- A figure. -/
def digB (c : UInt8) : Bool := decide (48 ≤ c.toNat) && decide (c.toNat ≤ 57)
/-- The number of some figures. -/
def decV (l : List UInt8) : Nat := l.foldl (fun n c => 10 * n + (c.toNat - 48)) 0
theorem decV_snoc (l : List UInt8) (c : UInt8) : decV (l ++ [c]) = 10 * decV l + (c.toNat - 48) := by simp [decV, List.foldl_append]
theorem dig_of {u : Nat} (h : u < 10) : (UInt8.ofNat (48 + u)).toNat = 48 + u := by
  rw [UInt8.toNat_ofNat']
  omega
theorem dig_back {c : UInt8} (h : digB c = true) : UInt8.ofNat (48 + (c.toNat - 48)) = c := by
  simp only [digB, Bool.and_eq_true, decide_eq_true_eq] at h
  rw [show 48 + (c.toNat - 48) = c.toNat by omega]
  exact UInt8.ofNat_toNat
theorem dec_val (u : Nat) : decV (Lib.decDigits u) = u := by
  induction u using Nat.strongRecOn with
  | _ u ih =>
    by_cases h : u < 10
    · rw [Lib.decDigits, dif_pos h]
      simp only [decV, List.foldl_cons, List.foldl_nil, dig_of h]
      omega
    · rw [Lib.decDigits, dif_neg h, decV_snoc, ih (u / 10) (by omega), dig_of (by omega)]
      omega
theorem dec_dig (u : Nat) : ∀ c ∈ Lib.decDigits u, digB c = true := by
  induction u using Nat.strongRecOn with
  | _ u ih =>
    intro c hc
    by_cases h : u < 10
    · rw [Lib.decDigits, dif_pos h, List.mem_singleton] at hc
      subst hc
      simp only [digB, dig_of h, Bool.and_eq_true, decide_eq_true_eq]
      omega
    · rw [Lib.decDigits, dif_neg h] at hc
      rcases List.mem_append.1 hc with hc | hc
      · exact ih _ (by omega) c hc
      · rw [List.mem_singleton] at hc
        subst hc
        simp only [digB, dig_of (show u % 10 < 10 by omega), Bool.and_eq_true, decide_eq_true_eq]
        omega
theorem dec_ne (u : Nat) : Lib.decDigits u ≠ [] := by
  rw [Lib.decDigits]
  split <;> simp
theorem dec_head (u : Nat) (h : 1 ≤ u) : ∀ l, Lib.decDigits u ≠ 48 :: l := by
  induction u using Nat.strongRecOn with
  | _ u ih =>
    intro l hl
    by_cases h9 : u < 10
    · rw [Lib.decDigits, dif_pos h9] at hl
      have := (List.cons.inj hl).1
      have q := congrArg UInt8.toNat this
      rw [dig_of h9] at q
      simp at q
      omega
    · rw [Lib.decDigits, dif_neg h9] at hl
      cases hd : Lib.decDigits (u / 10) with
      | nil => exact dec_ne _ hd
      | cons a t =>
        rw [hd, List.cons_append] at hl
        obtain ⟨rfl, -⟩ := List.cons.inj hl
        exact ih (u / 10) (by omega) (by omega) t hd
theorem snoc_ind {α : Type} {P : List α → Prop} (h0 : P []) (h1 : ∀ l c, P l → P (l ++ [c])) (l : List α) : P l := by
  have h : ∀ m : List α, P m.reverse := fun m => by
    induction m with
    | nil => exact h0
    | cons c m ih => rw [List.reverse_cons]; exact h1 _ _ ih
  have := h l.reverse
  rwa [List.reverse_reverse] at this
theorem decV_lt (l : List UInt8) (h : ∀ c ∈ l, digB c = true) : decV l < 10 ^ l.length := by
  induction l using snoc_ind with
  | h0 => simp [decV]
  | h1 l c ih =>
    have h1 := ih fun x hx => h x (List.mem_append_left _ hx)
    have h2 := h c (by simp)
    simp only [digB, Bool.and_eq_true, decide_eq_true_eq] at h2
    rw [decV_snoc, List.length_append, List.length_singleton, Nat.pow_succ]
    omega
/-- The figures of a number, as they are written. -/
def CanB (l : List UInt8) : Prop := l ≠ [] ∧ (∀ c ∈ l, digB c = true) ∧ ∀ t, l = 48 :: t → t = []
theorem dec_can (u : Nat) : CanB (Lib.decDigits u) := by
  refine ⟨dec_ne u, dec_dig u, fun t ht => ?_⟩
  by_cases h : u = 0
  · subst h
    rw [Lib.decDigits, dif_pos (by omega)] at ht
    exact (List.cons.inj ht).2.symm
  · exact absurd ht (dec_head u (by omega) t)
theorem can_dec (l : List UInt8) (h : CanB l) : Lib.decDigits (decV l) = l := by
  induction l using snoc_ind with
  | h0 => exact absurd rfl h.1
  | h1 l c ih =>
    obtain ⟨-, h2, h3⟩ := h
    have hc := h2 c (by simp)
    have hc' := hc
    simp only [digB, Bool.and_eq_true, decide_eq_true_eq] at hc'
    by_cases hl : l = []
    · subst hl
      simp only [List.nil_append, decV, List.foldl_cons, List.foldl_nil]
      rw [Lib.decDigits, dif_pos (by omega)]
      rw [show 10 * 0 + (c.toNat - 48) = c.toNat - 48 by omega, dig_back hc]
    · have hcan : CanB l := ⟨hl, fun x hx => h2 x (List.mem_append_left _ hx), fun t ht => by
        subst ht
        have q := h3 (t ++ [c]) (by simp)
        simp at q⟩
      have e := ih hcan
      have hv : 1 ≤ decV l := by
        rcases Nat.eq_zero_or_pos (decV l) with hz | hz
        · rw [hz, Lib.decDigits, dif_pos (by omega)] at e
          subst e
          have q := h3 [c] (by simp)
          simp at q
        · exact hz
      rw [decV_snoc, Lib.decDigits, dif_neg (by omega), show (10 * decV l + (c.toNat - 48)) / 10 = decV l by omega, show (10 * decV l + (c.toNat - 48)) % 10 = c.toNat - 48 by omega, e, dig_back hc]

/-- The number that a word is, if it is one. -/
def goodW (w : List UInt8) : Prop := ∃ n : Int, -99999 ≤ n ∧ n ≤ 99999 ∧ w = Lib.itoa n
theorem dec_small {u : Nat} (h : u ≤ 99999) : (Lib.decDigits u).length ≤ 5 := by
  rw [Lib.decDigits_length]
  by_cases h1 : u < 10
  · rw [Lib.nDigits_small h1]; omega
  · rw [Lib.nDigits_big h1]
    by_cases h2 : u / 10 < 10
    · rw [Lib.nDigits_small h2]; omega
    · rw [Lib.nDigits_big h2]
      by_cases h3 : u / 10 / 10 < 10
      · rw [Lib.nDigits_small h3]; omega
      · rw [Lib.nDigits_big h3]
        by_cases h4 : u / 10 / 10 / 10 < 10
        · rw [Lib.nDigits_small h4]; omega
        · rw [Lib.nDigits_big h4, Lib.nDigits_small (by omega)]; omega
theorem can_small {l : List UInt8} (h : CanB l) (h5 : l.length ≤ 5) : decV l ≤ 99999 := by
  have q := decV_lt l h.2.1
  have : (10 : Nat) ^ l.length ≤ 10 ^ 5 := Nat.pow_le_pow_right (by omega) h5
  omega
theorem itoa_pos0 (l : List UInt8) (h : CanB l) : Lib.itoa (decV l : Int) = l := by rw [Lib.itoa_nonneg, can_dec l h]
theorem itoa_neg0 (l : List UInt8) (h : CanB l) (h0 : ∀ t, l ≠ 48 :: t) : Lib.itoa (-(decV l : Int)) = 45 :: l := by
  have e := can_dec l h
  have hv : 1 ≤ decV l := by
    rcases Nat.eq_zero_or_pos (decV l) with hz | hz
    · rw [hz, Lib.decDigits, dif_pos (by omega)] at e
      exact absurd e.symm (h0 [])
    · exact hz
  rw [Lib.itoa_neg _ hv, e]
theorem itoa_inj {a b : Int} (h : Lib.itoa a = Lib.itoa b) : a = b := by
  have key : ∀ x y : Nat, 45 :: Lib.decDigits x ≠ Lib.decDigits y := fun x y e => by
    have := dec_dig y 45 (by rw [← e]; simp)
    simp [digB] at this
  have dinj : ∀ x y : Nat, Lib.decDigits x = Lib.decDigits y → x = y := fun x y e => by rw [← dec_val x, e, dec_val]
  unfold Lib.itoa at h
  split at h <;> split at h
  · have := dinj _ _ (List.cons.inj h).2; omega
  · exact absurd h (key _ _)
  · exact absurd h.symm (key _ _)
  · have := dinj _ _ h; omega

/-- A list cut at each instance of a byte. -/
def spl (b : UInt8) : List UInt8 → List (List UInt8)
  | [] => [[]]
  | c :: l => if c = b then [] :: spl b l else match spl b l with
    | [] => [[c]]
    | w :: ws => (c :: w) :: ws
theorem spl_cons (b c : UInt8) (l : List UInt8) : spl b (c :: l) = if c = b then [] :: spl b l else match spl b l with
    | [] => [[c]]
    | w :: ws => (c :: w) :: ws := rfl
theorem spl_ne (b : UInt8) (l : List UInt8) : spl b l ≠ [] := by
  cases l with
  | nil => simp [spl]
  | cons c l =>
    unfold spl
    split
    · simp
    · split <;> simp
theorem spl_no (b : UInt8) (l : List UInt8) (h : b ∉ l) : spl b l = [l] := by
  induction l with
  | nil => rfl
  | cons c l ih =>
    have h1 : c ≠ b := fun e => h (by simp [e])
    have h2 : b ∉ l := fun e => h (List.mem_cons_of_mem _ e)
    unfold spl
    rw [if_neg h1, ih h2]
theorem spl_app (b : UInt8) (u l : List UInt8) (h : b ∉ u) : spl b (u ++ b :: l) = u :: spl b l := by
  induction u with
  | nil => simp [spl]
  | cons c u ih =>
    have h1 : c ≠ b := fun e => h (by simp [e])
    have h2 : b ∉ u := fun e => h (List.mem_cons_of_mem _ e)
    rw [List.cons_append, spl_cons, if_neg h1, ih h2]
theorem spl_join (b : UInt8) (l : List UInt8) : Lib.join (spl b l) [b] = l := by
  induction l with
  | nil => rfl
  | cons c l ih =>
    unfold spl
    split
    · next e =>
      subst e
      cases hs : spl c l with
      | nil => exact absurd hs (spl_ne _ _)
      | cons w ws =>
        rw [hs] at ih
        rw [Lib.join] at ih ⊢
        rw [← ih]
        simp [List.intercalate, List.intersperse]
    · cases hs : spl b l with
      | nil => exact absurd hs (spl_ne _ _)
      | cons w ws =>
        rw [hs] at ih
        rw [Lib.join] at ih ⊢
        rw [← ih]
        cases ws <;> simp [List.intercalate, List.intersperse]
theorem join_spl (b : UInt8) : ∀ (ws : List (List UInt8)), ws ≠ [] → (∀ w ∈ ws, b ∉ w) → spl b (Lib.join ws [b]) = ws
  | [], h, _ => absurd rfl h
  | [w], _, h => by
    have : Lib.join [w] [b] = w := by simp [Lib.join, List.intercalate]
    rw [this]
    exact spl_no b w (h w (by simp))
  | w :: v :: ws, _, h => by
    have e : Lib.join (w :: v :: ws) [b] = w ++ b :: Lib.join (v :: ws) [b] := by simp [Lib.join, List.intercalate, List.intersperse]
    rw [e, spl_app b w _ (h w (by simp)), join_spl b (v :: ws) (by simp) fun x hx => h x (List.mem_cons_of_mem _ hx)]

end PartOfTmt

section PartOfTsp
open Go.RowKit Go.Maps
theorem Tryz.infoStr : (Tryz.prog.info? 9).map (fun i => (i.zero, i.size, i.bytes)) = some (some (.string ⟨#[]⟩), 1, 16) := by kernel_rfl
theorem spl_at {b : UInt8} {s : List UInt8} {f i : Nat} {L : List (List UInt8)} (h : spl b s = L ++ spl b (s.drop f)) (hf : f ≤ i) (hi : i < s.length) (hb : s[i] = b) (hno : b ∉ (s.drop f).take (i - f)) :
    spl b s = (L ++ [(s.drop f).take (i - f)]) ++ spl b (s.drop (i + 1)) := by
  have e : s.drop f = (s.drop f).take (i - f) ++ b :: s.drop (i + 1) := by
    have q := (List.take_append_drop (i - f) (s.drop f)).symm
    rw [List.drop_drop, show f + (i - f) = i by omega, List.drop_eq_getElem_cons hi, hb] at q
    exact q
  rw [h]
  conv => lhs; rw [e]
  rw [spl_app _ _ _ hno]
  simp
theorem spl_on {b : UInt8} {s : List UInt8} {f i : Nat} (hf : f ≤ i) (hi : i < s.length) (hb : s[i] ≠ b) (hno : b ∉ (s.drop f).take (i - f)) : b ∉ (s.drop f).take (i + 1 - f) := by
  rw [show i + 1 - f = i - f + 1 by omega, List.take_add_one]
  intro h
  rcases List.mem_append.1 h with h | h
  · exact hno h
  · rw [List.getElem?_drop, show f + (i - f) = i by omega, List.getElem?_eq_getElem hi] at h
    simp at h
    exact hb h.symm
theorem spl_last {b : UInt8} {s : List UInt8} {f : Nat} {L : List (List UInt8)} (h : spl b s = L ++ spl b (s.drop f)) (hno : b ∉ (s.drop f).take (s.length - f)) : spl b s = L ++ [s.drop f] := by
  rw [List.take_of_length_le (by simp)] at hno
  rw [h, spl_no _ _ hno]
theorem spl_len (b : UInt8) (l : List UInt8) : (spl b l).length ≤ l.length + 1 := by
  induction l with
  | nil => simp [spl]
  | cons c l ih =>
    rw [spl_cons]
    split
    · simp; omega
    · split
      · simp
      · next w ws hs =>
        rw [hs] at ih
        simp at ih ⊢
        omega

theorem ext_list (S : ByteArray) (f i : Nat) : S.extract f i = ⟨((S.data.toList.drop f).take (i - f)).toArray⟩ := by
  apply ByteArray.ext
  apply Array.ext'
  simp [ByteArray.data_extract, List.extract]
/-- A list of words of the call's own. -/
@[reducible] def OwnW (w : World) (base : Nat) (v : Value) (ws : List (List UInt8)) : Prop := w.ownsRow base 9 1 v ws.length (ws.map str)
section
variable {w : World} {ops : Array Oper} {rest : List Oper} {o : Oper} {a : Act} {Q : Exit → Act → World → Prop}
/-- append(out, s). -/
theorem app_str (hgd : o.guard = none) (s x : Operand) (ho : o.op = .call { callee := .builtin .append, args := #[s, x], argTypes := #[117, 117] })
    {base N : Nat} {v y : Value} {ws : List (List UInt8)} {u : List UInt8} (hs : a.eval s = v) (hown : OwnW w base v ws) (hx : a.eval x = .slice (some ⟨N, 0, none⟩) 1 1) (hN : w.heap[N]? = some (.cells #[y] 9)) (hy : y = str u) (hn : ws.length ≤ 4000) (hbase : base ≤ w.heap.size)
    (h : ∀ g cap w', OwnW w' base (.slice (some ⟨g, 0, none⟩) (ws.length + 1) cap) (ws ++ [u]) → w.grownBy w' v.ownBlock → wpList Tryz.prog ops Q rest (a.put o.dst (.slice (some ⟨g, 0, none⟩) (ws.length + 1) cap)) w') : wpList Tryz.prog ops Q (o :: rest) a w := by
  obtain ⟨i0, hi0, hz0, hz1, hz2⟩ := info_parts Tryz.infoStr
  subst hy
  obtain ⟨hc, _⟩ := boxCells hN
  refine wpList_append_lies w hgd s x _ ho base 9 i0 _ 1 16 Tryz.underlying117 hi0 hz0 hz1 hz2 rfl (by omega) v ws.length (ws.map str) hs hown ⟨N, 0, none⟩ 1 1 [str u] hx rfl (fun j z hj => ?_) (fun z hz => by simp at hz; subst hz; rfl) (by omega) (by unfold maxLen; omega) (by omega) hbase _ rfl ?_
  · rw [Go.WideShapes.add_plain, Nat.zero_add, hc j]
    simpa using hj
  · intro g cap w1 hown1 hgrow _ _
    refine h g cap w1 ?_ hgrow
    show w1.ownsRow _ _ _ _ (ws ++ [u]).length ((ws ++ [u]).map str)
    rw [List.length_append, List.map_append]
    exact hown1
end
theorem OwnW.below {w w' : World} {base : Nat} {v : Value} {ws : List (List UInt8)} (h : OwnW w base v ws) (hb : Below w.heap.size w w') : OwnW w' base v ws :=
  h.kept (row := none) ⟨hb.os, hb.tape, hb.output, hb.size, fun k hk _ => hb.block k hk⟩ (by cases v.ownBlock <;> simp)
theorem OwnW.own {w : World} {base : Nat} {v : Value} {ws : List (List UInt8)} (h : OwnW w base v ws) : ∀ k, v.ownBlock = some k → base ≤ k := fun k hk => (World.ownsRow.lt h k hk).1
/-- A list of words at an address of its own. -/
theorem OwnW.cells {w : World} {base : Nat} {v : Value} {ws : List (List UInt8)} (h : OwnW w base v ws) (hne : ws ≠ []) : ∃ g cap, v = .slice (some ⟨g, 0, none⟩) ws.length cap ∧ base ≤ g ∧ g < w.heap.size ∧ ws.length ≤ cap ∧ cap ≤ maxLen ∧ ∀ i x, ws[i]? = some x → w.cell? ⟨g, i, none⟩ = some (str x) := by
  rcases h.2 with ⟨_, hz⟩ | ⟨g, cap, cur, hv, hb0, hg, h1, h2, h3, h4⟩
  · exact absurd (List.length_eq_zero_iff.1 hz) hne
  · refine ⟨g, cap, hv, hb0, (Array.getElem?_eq_some_iff.1 hg).1, h1, h2, fun i x hi => ?_⟩
    have hil := (List.getElem?_eq_some_iff.1 hi).1
    have q : (cur.toList.take ws.length)[i]? = (ws.map str)[i]? := by
      rw [← h4]
      simp
    rw [List.getElem?_take_of_lt hil, Array.getElem?_toList, List.getElem?_map, hi] at q
    rw [(boxCells hg).1]
    exact q
/-- What split returns. -/
def SplPost (w : World) (ws : List (List UInt8)) (e : Ending) (w' : World) : Prop := ∃ v, e = .returned v ∧ OwnW w' w.heap.size v ws ∧ Below w.heap.size w w'
set_option maxHeartbeats 4000000 in
set_option maxRecDepth 100000 in
theorem rSplit_any (S : ByteArray) (b : UInt8) (c : Int) (hbc : c = (b.toNat : Int)) (w : World) (hs : S.size ≤ 3200) :
    Calls Tryz.prog 82 #[.string S, .int .u8 c] w fun e w' => SplPost w (spl b S.data.toList) e w' := by
  have hlen : S.data.toList.length = S.size := by simp
  have HBC := Lib.hid hbc
  clear hbc
  have HLN : Hid (∀ L f, spl b S.data.toList = L ++ spl b (S.data.toList.drop f) → L.length ≤ 3300) := Lib.hid (fun L f h => by
    have q := spl_len b S.data.toList
    rw [h, List.length_append] at q
    omega)
  go_enter Tryz.func82, Tryz.ntmps82
  go_wp2_with fail
  go_loopw [5, 6, 7] (fun v f i wr => ∃ (p q : Nat) (L : List (List UInt8)), p ≤ q ∧ q ≤ S.size ∧ f = .int .i64 (p : Int) ∧ i = .int .i64 (q : Int) ∧ spl b S.data.toList = L ++ spl b (S.data.toList.drop p) ∧ b ∉ (S.data.toList.drop p).take (q - p) ∧ OwnW wr w.heap.size v L ∧ Below w.heap.size w wr) (fun _ _ i _ => S.size - (intOf i).toNat)
  case atStart => exact ⟨0, 0, [], by omega, by omega, rfl, rfl, by simp, by simp, World.ownsRow_nil .., Below.refl _ _⟩
  case round =>
    obtain ⟨p, q, L, hpq, hq, rfl, rfl, hL, hno, hO, hB⟩ := hrel
    have hll := HLN.out _ _ hL
    have HL := Lib.hid hL
    have HN := Lib.hid hno
    have HB := Lib.hid hB
    have hz := hB.size
    have HM := Lib.hid hO.own
    clear hL hno hB
    by_cases hlt : q < S.size
    · have hq2 : (q : Int) < S.size := by omega
      obtain ⟨y, hy⟩ : ∃ y, S[q]'hlt = y := ⟨_, rfl⟩
      have hyq : ∀ h, S[q]'h = y := fun _ => hy
      have HY := Lib.hid (show S.data.toList[q]'(by omega) = y from hy)
      clear hy
      by_cases hyb : y = b
      · have hdb : ((y.toNat : Int) == c) = true := by rw [hyb, HBC.out]; simp
        have HE := Lib.hid (spl_at HL.out hpq (by omega) (HY.out.trans hyb) HN.out)
        have HOa := Lib.hid hO
        clear hO hyb
        go_wp2_with (at_builtin; go_must (refine app_str (by rfl) _ _ (by rfl) ?_ (World.ownsRow.alloc HOa.out _) ?_ (heap_new _ _ rfl) (congrArg Value.string (ext_list S p q)) (by omega) (by simp <;> omega) ?_); rfl; rfl; intro g cap wa hO2 hg2; have HO2 := Lib.hid hO2; have HB2 := Lib.hid ((below_al HB.out _).grown hg2 (by simp <;> omega) HM.out); clear hO2 hg2)
        go_roundw
        case rel => exact ⟨q + 1, q + 1, _, by omega, by omega, by go_num, by go_num, HE.out, by simp, HO2.out, HB2.out⟩
        case measure => simp [intOf]; omega
      · have hdb : ((y.toNat : Int) == c) = false := by
          rw [HBC.out]
          simpa using fun h => hyb (UInt8.toNat_inj.1 (by omega))
        have HE := Lib.hid (spl_on hpq (by omega) (by rw [HY.out]; exact hyb) HN.out)
        have HOa := Lib.hid hO
        clear hO hyb
        go_wp2_with fail
        go_roundw
        case rel => exact ⟨p, q + 1, L, by omega, by omega, rfl, by go_num, HL.out, HE.out, HOa.out, HB.out⟩
        case measure => simp [intOf]; omega
    · obtain rfl : q = S.size := by omega
      have HE := Lib.hid (spl_last HL.out (by rw [hlen]; exact HN.out))
      have HOa := Lib.hid hO
      have HX := Lib.hid (show Value.string (S.extract p S.size) = str (S.data.toList.drop p) by
        rw [ext_list, List.take_of_length_le (by simp)])
      clear hO
      go_wp2_with (at_builtin; go_must (refine app_str (by rfl) _ _ (by rfl) ?_ (World.ownsRow.alloc HOa.out _) ?_ (heap_new _ _ rfl) HX.out (by omega) (by simp <;> omega) ?_); rfl; rfl; intro g cap wa hO2 hg2; have HO2 := Lib.hid hO2; have HB2 := Lib.hid ((below_al HB.out _).grown hg2 (by simp <;> omega) HM.out); clear hO2 hg2)
      go_ret
      refine ⟨_, rfl, ?_, HB2.out⟩
      rw [HE.out]
      exact HO2.out

end PartOfTsp

section PartOfTnm
open Go.RowKit
/-- A numeral of at most five figures. -/
def goodN (x : List UInt8) : Prop := CanB x ∧ x.length ≤ 5
/-- What number returns. -/
def NumN (w : World) (x : List UInt8) (e : Ending) (w' : World) : Prop :=
  Below w.heap.size w w' ∧ ((goodN x ∧ e = .returned (.tuple #[.int .i64 (decV x : Nat), .bool true])) ∨ (¬ goodN x ∧ ∃ n : Int, e = .returned (.tuple #[.int .i64 n, .bool false])))
set_option maxHeartbeats 4000000 in
set_option maxRecDepth 100000 in
theorem rNum_any (x : List UInt8) (w : World) (hx : x.length ≤ 3200) :
    Calls Tryz.prog 115 #[str x] w fun e w' => NumN w x e w' := by
  by_cases h0 : x = []
  · subst h0
    go_enter Tryz.func115, Tryz.ntmps115
    go_wp2_with fail
    go_ret2
    exact ⟨Below.refl _ _, .inr ⟨fun h => h.1.1 rfl, _, rfl⟩⟩
  have t1 : 0 < x.length := List.length_pos_iff.2 h0
  have hdsz : (⟨x.toArray⟩ : ByteArray).size = x.length := rfl
  have hz0 : ((x.length : Int) == 0) = false := beq_eq_false_iff_ne.2 (by omega)
  by_cases d5 : 5 < x.length
  · go_enter Tryz.func115, Tryz.ntmps115
    go_wp2_with fail
    go_ret2
    exact ⟨Below.refl _ _, .inr ⟨fun h => by have := h.2; omega, _, rfl⟩⟩
  have d5' : x.length ≤ 5 := by omega
  clear d5 h0
  have HX5 := Lib.hid d5'
  go_enter Tryz.func115, Tryz.ntmps115
  go_wp2_with fail
  go_loopw [4, 5] (fun n i wr => ∃ k : Nat, k ≤ x.length ∧ wr = w ∧ i = .int .i64 (k : Int) ∧ n = .int .i64 (decV (x.take k) : Nat) ∧ ∀ y ∈ x.take k, digB y = true) (fun _ i _ => x.length - (intOf i).toNat)
  case atStart => exact ⟨0, Nat.zero_le _, rfl, rfl, rfl, by simp⟩
  case round =>
    obtain ⟨k, hk, rfl, rfl, rfl, hall⟩ := hrel
    have HALL := Lib.hid hall
    have hl2 : (x.take k).length = k := by simp; omega
    have hv := decV_lt _ hall
    rw [hl2] at hv
    clear hall hl2
    by_cases hlt : k < x.length
    · have hsz : k < (⟨x.toArray⟩ : ByteArray).size := hlt
      obtain ⟨y, hy⟩ : ∃ y, (⟨x.toArray⟩ : ByteArray)[k]'hsz = y := ⟨_, rfl⟩
      have hyq : ∀ h, (⟨x.toArray⟩ : ByteArray)[k]'h = y := fun _ => hy
      have hk2 : (k : Int) < x.length := by omega
      have hy2 : x[k]? = some y := by rw [List.getElem?_eq_getElem hlt, ← hy]; rfl
      have hv4 : decV (x.take k) < 10000 := Nat.lt_of_lt_of_le hv (Nat.pow_le_pow_right (by omega) (show k ≤ 4 by omega))
      have HT := Lib.hid (show x.take (k + 1) = x.take k ++ [y] by rw [List.take_add_one, hy2]; rfl)
      have HDV := Lib.hid (decV_snoc (x.take k) y)
      have HM := Lib.hid (show y ∈ x from List.mem_of_getElem? hy2)
      have hy8 : (y.toNat : Int) ≤ 255 := by have := y.toNat_lt; omega
      clear hv hy2 hy
      generalize decV (x.take k) = v at *
      have bad : digB y = false → ¬ goodN x := fun hd hg => by rw [hg.1.2.1 y HM.out] at hd; cases hd
      by_cases d1 : (y.toNat : Int) < 48
      · have K := Lib.hid (bad (by simp [digB]; omega))
        clear bad
        go_wp2_with fail
        go_ret2
        exact ⟨Below.refl _ _, .inr ⟨K.out, _, rfl⟩⟩
      by_cases d2 : (57 : Int) < y.toNat
      · have K := Lib.hid (bad (by simp [digB]; omega))
        clear bad
        go_wp2_with fail
        go_ret2
        exact ⟨Below.refl _ _, .inr ⟨K.out, _, rfl⟩⟩
      clear bad
      have HY9 := Lib.hid (show digB y = true by simp [digB]; omega)
      have e1 : IntKind.u8.wrap ((y.toNat : Int) - 48) = (y.toNat : Int) - 48 := by
        have h1 : (0 : Int) ≤ (y.toNat : Int) - 48 := by omega
        have h2 : (y.toNat : Int) - 48 < 256 := by omega
        simp only [IntKind.wrap, IntKind.signed, IntKind.bits]
        simp
        omega
      have e2 : IntKind.i64.wrap ((y.toNat : Int) - 48) = (y.toNat : Int) - 48 := IntWalk.i64_in _ (by omega)
      go_wp2_with fail
      go_roundw
      case rel =>
        refine ⟨k + 1, by omega, trivial, by go_num, ?_, ?_⟩
        · rw [HT.out, HDV.out]
          congr 1
          omega
        · rw [HT.out]
          intro z hz
          rcases List.mem_append.1 hz with hz | hz
          · exact HALL.out z hz
          · rw [List.mem_singleton] at hz; subst hz; exact HY9.out
      case measure => simp [intOf]; omega
    · obtain rfl : k = x.length := by omega
      have hft : x.take x.length = x := List.take_of_length_le (by simp)
      have hv5 : decV (x.take x.length) < 100000 := Nat.lt_of_lt_of_le hv (Nat.pow_le_pow_right (by omega) (show x.length ≤ 5 by omega))
      rw [hft] at hv5 ⊢
      clear hv hft
      obtain ⟨v, hv⟩ : ∃ v, decV x = v := ⟨_, rfl⟩
      rw [hv] at hv5 ⊢
      have HV := Lib.hid hv
      clear hv
      have hli := dec_len v (by omega)
      go_wp2_with fail
      refine (rDec_pos v _ (by omega)).mono ?_
      rintro e w1 ⟨rfl, hb1⟩
      have HB1 := Lib.hid hb1
      clear hb1
      cases xe : (Lib.decDigits v == x)
      · have K := Lib.hid (show ¬ goodN x from fun hg => by
          have := can_dec x hg.1
          rw [HV.out] at this
          rw [this] at xe
          simp at xe)
        go_wp2_with fail
        go_ret2
        exact ⟨HB1.out, .inr ⟨K.out, _, rfl⟩⟩
      · have K := Lib.hid (show goodN x from ⟨by rw [← beq_iff_eq.1 xe]; exact dec_can v, HX5.out⟩)
        go_wp2_with fail
        go_ret2
        exact ⟨HB1.out, .inl ⟨K.out, by rw [HV.out]; rfl⟩⟩

end PartOfTnm

section PartOfTnb
open Go.RowKit Go.Maps
theorem RW.lapp_int {w W : World} {base N n : Nat} {bs : List (Nat × Obj)} {rest : List Rw} {v : Value} {L : List Int} {y : Int} {ops : Array Oper} {l : List Oper} {o : Oper} {a : Act} {Q : Exit → Act → World → Prop} (hgd : o.guard = none) (s x : Operand) (ho : o.op = .call { callee := .builtin .append, args := #[s, x], argTypes := #[25, 25] })
    (h : RW w base bs (rwI v n L :: rest) W) (hn : L.length = n) (hs : a.eval s = v) (hx : a.eval x = .slice (some ⟨N, 0, none⟩) 1 1) (hN : (N, Obj.cells #[.int .i64 y] 3) ∈ bs) (hl : n ≤ 1000)
    (hk : ∀ g cap W1, RW w base bs (rwI (.slice (some ⟨g, 0, none⟩) (n + 1) cap) (n + 1) (L ++ [y]) :: rest) W1 → wpList Tryz.prog ops Q l (a.put o.dst (.slice (some ⟨g, 0, none⟩) (n + 1) cap)) W1) : wpList Tryz.prog ops Q (o :: l) a W :=
  wpList_plain hgd fun _ hK => RW.app_int s x ho h hn hs hx hN hl fun g cap W1 hr => hK _ _ (hk g cap W1 hr)
/-- A slice of words in memory. -/
def WdsAt (w : World) (b off : Nat) (ws : List (List UInt8)) : Prop := b < w.heap.size ∧ ∀ (i : Nat) x, ws[i]? = some x → w.cell? ⟨b, off + i, none⟩ = some (str x)
theorem WdsAt.below {w W : World} {b off : Nat} {ws : List (List UInt8)} (h : WdsAt w b off ws) (hb : Below w.heap.size w W) : WdsAt W b off ws :=
  ⟨Nat.lt_of_lt_of_le h.1 hb.size, fun i x hx => (hb.cell (p := ⟨b, _, none⟩) h.1).trans (h.2 i x hx)⟩
def valsF (ws : List (List UInt8)) : List Int := ws.map fun x => (decV x : Int)
theorem valsF_len (ws : List (List UInt8)) : (valsF ws).length = ws.length := by simp [valsF]
theorem valsF_snoc {ws : List (List UInt8)} {n : Nat} {x : List UInt8} (h : ws[n]? = some x) : valsF (ws.take (n + 1)) = valsF (ws.take n) ++ [(decV x : Int)] := by
  rw [List.take_add_one, h]; simp [valsF]
/-- What numbers returns. -/
def NumsN (w : World) (ws : List (List UInt8)) (e : Ending) (w' : World) : Prop :=
  Below w.heap.size w w' ∧ (((∀ x ∈ ws, goodN x) ∧ ∃ E ec, e = .returned (.tuple #[.slice E ws.length ec, .bool true]) ∧ w'.ownsRow w.heap.size 3 1 (.slice E ws.length ec) ws.length (vI (valsF ws))) ∨ ((∃ x ∈ ws, ¬ goodN x) ∧ e = .returned (.tuple #[.slice none 0 0, .bool false])))
set_option maxHeartbeats 4000000 in
set_option maxRecDepth 100000 in
theorem rNumbers_any (b off c : Nat) (ws : List (List UInt8)) (w : World) (hat : WdsAt w b off ws) (hn : ws.length ≤ 900) (hc1 : ws.length ≤ c) (hc2 : c ≤ maxLen) (hl : ∀ x ∈ ws, x.length ≤ 3200) :
    Calls Tryz.prog 83 #[.slice (some ⟨b, off, none⟩) ws.length c] w fun e w' => NumsN w ws e w' := by
  unfold maxLen at hc2
  have HAT := Lib.hid hat
  have HL := Lib.hid hl
  clear hat hl
  have hRW := (RW.start (Frm.nil w)).nil 3 1
  go_enter Tryz.func83, Tryz.ntmps83
  go_wp2_with fail
  go_loopw [4, 5] (fun v i wr => ∃ n E ec, n ≤ ws.length ∧ i = .int .i64 (n : Int) ∧ v = .slice E n ec ∧ (∀ x ∈ ws.take n, goodN x) ∧ RW w w.heap.size [] [rwI (.slice E n ec) n (valsF (ws.take n))] wr) (fun _ i _ => ws.length - (intOf i).toNat)
  case atStart => exact ⟨0, none, 0, Nat.zero_le _, rfl, rfl, by simp, hRW⟩
  case round =>
    obtain ⟨n, E, ec, hnn, rfl, rfl, hall, hF⟩ := hrel
    clear hRW
    have HR := Lib.hid hF
    have HA := Lib.hid hall
    clear hF hall
    by_cases hlt : n < ws.length
    · have hlt2 : (n : Int) < ws.length := by omega
      obtain ⟨x, hx⟩ : ∃ x, ws[n]? = some x := ⟨_, List.getElem?_eq_getElem hlt⟩
      have hxm := List.mem_of_getElem? hx
      have c0 := (HAT.out.below HR.out.frm.b).2 n x hx
      have hxl := HL.out x hxm
      have HX := Lib.hid hx
      have HXM := Lib.hid hxm
      clear hx hxm
      by_cases hg : goodN x
      · have HG := Lib.hid hg
        have HNM : Hid (∀ W, Calls Tryz.prog 115 #[str x] W fun e w' => e = .returned (.tuple #[.int .i64 (decV x : Nat), .bool true]) ∧ Below W.heap.size W w') := Lib.hid (fun W => (rNum_any x W hxl).mono fun e w' ⟨hb, h⟩ => by
          rcases h with ⟨_, he⟩ | ⟨hno, _⟩
          · exact ⟨he, hb⟩
          · exact absurd HG.out hno)
        have HV := Lib.hid (valsF_snoc HX.out)
        clear hg
        go_wp2_with (first | (go_at_call 115; refine (HNM.out _).mono ?_; rintro e wa ⟨rfl, hba⟩; have HRq := Lib.hid (HR.out.below hba); clear HR c0 hba; have HR := HRq; clear HRq) | (at_builtin; go_must (refine RW.lapp_int (y := (decV x : Nat)) (by rfl) _ _ (by rfl) (HR.out.add (.cells #[.int .i64 (decV x : Nat)] 3) rfl) (by rw [valsF_len, List.length_take]; omega) (by rfl) (by rfl) (List.mem_cons_self ..) (by omega) ?_); intro g cap wb hRn; have HRq := Lib.hid (RW.less (bs' := []) hRn (by simp)); clear HR hRn; have HR := HRq; clear HRq))
        go_roundw
        case rel => exact ⟨n + 1, some ⟨g, 0, none⟩, cap, by omega, by go_num, rfl, fun y hy => by
          rw [List.take_add_one, HX.out] at hy
          rcases List.mem_append.1 hy with h | h
          · exact HA.out y h
          · have e : y = x := by simpa [eq_comm] using h
            rw [e]; exact HG.out, by rw [HV.out]; exact HR.out⟩
        case measure => simp [intOf]; omega
      · have HG := Lib.hid hg
        have HNM : Hid (∀ W, Calls Tryz.prog 115 #[str x] W fun e w' => ∃ k : Int, e = .returned (.tuple #[.int .i64 k, .bool false]) ∧ Below W.heap.size W w') := Lib.hid (fun W => (rNum_any x W hxl).mono fun e w' ⟨hb, h⟩ => by
          rcases h with ⟨hy, _⟩ | ⟨_, k, he⟩
          · exact absurd hy HG.out
          · exact ⟨k, he, hb⟩)
        clear hg
        go_wp2_with (go_at_call 115; refine (HNM.out _).mono ?_; rintro e wa ⟨k, rfl, hba⟩; have HRq := Lib.hid (HR.out.below hba); clear HR c0 hba; have HR := HRq; clear HRq)
        go_ret2
        exact ⟨HR.out.frm.b, .inr ⟨⟨x, HXM.out, HG.out⟩, rfl⟩⟩
    · obtain rfl : n = ws.length := by omega
      have HT := Lib.hid (show ws.take ws.length = ws from List.take_length)
      go_wp2_with fail
      go_ret2
      refine ⟨HR.out.frm.b, .inl ⟨by have := HA.out; rwa [HT.out] at this, E, ec, rfl, ?_⟩⟩
      have := HR.out.own _ (List.mem_cons_self ..)
      rw [HT.out] at this
      exact this

end PartOfTnb

section PartOfPnu
open Go.RowKit
theorem bad_zero {t : List UInt8} (h : t ≠ []) : ¬ goodN (48 :: t) := fun hg => h (hg.1.2.2 t rfl)
theorem iter_below (w : World) (s : ByteArray) (p : Nat) : Below w.heap.size w (w.iter s p) := (Below.refl _ _).alloc (Nat.le_refl _) _
set_option maxHeartbeats 4000000 in
set_option maxRecDepth 100000 in
theorem num_any (x : List UInt8) (w : World) (hx : x.length ≤ 3200) :
    Calls Tryz.prog 148 #[str x] w fun e w' => NumN w x e w' := by
  by_cases h0 : x = []
  · subst h0
    go_enter Tryz.func148, Tryz.ntmps148
    go_wp2_with fail
    go_ret2
    exact ⟨Below.refl _ _, .inr ⟨fun h => h.1.1 rfl, _, rfl⟩⟩
  have t1 : 0 < x.length := List.length_pos_iff.2 h0
  have hdsz : (⟨x.toArray⟩ : ByteArray).size = x.length := rfl
  have hb0 : (x == []) = false := by simpa using h0
  by_cases d5 : 5 < x.length
  · go_enter Tryz.func148, Tryz.ntmps148
    go_wp2_with fail
    go_ret2
    exact ⟨Below.refl _ _, .inr ⟨fun h => by have := h.2; omega, _, rfl⟩⟩
  have d5' : x.length ≤ 5 := by omega
  clear d5
  have hs0 : 0 < (⟨x.toArray⟩ : ByteArray).size := t1
  obtain ⟨c, hc⟩ : ∃ c, (⟨x.toArray⟩ : ByteArray)[0]'hs0 = c := ⟨_, rfl⟩
  have hcq : ∀ h, (⟨x.toArray⟩ : ByteArray)[0]'h = c := fun _ => hc
  have HC : Hid (∃ t, x = c :: t) := Lib.hid (by
    cases x with
    | nil => exact absurd rfl h0
    | cons a t => exact ⟨t, by rw [← hc]; rfl⟩)
  clear hc h0
  by_cases hz : ((c.toNat : Int) = 48 ∧ x ≠ [48])
  · obtain ⟨hz1, hz2⟩ := hz
    have hz1b : ((c.toNat : Int) == 48) = true := by simp [hz1]
    have hz2b : (x == [48]) = false := by simpa using hz2
    have K : Hid (¬ goodN x) := Lib.hid (by
      obtain ⟨t, rfl⟩ := HC.out
      obtain rfl : c = 48 := UInt8.toNat_inj.1 (by show c.toNat = 48; omega)
      exact bad_zero fun e => hz2 (by rw [e]))
    clear hz2
    go_enter Tryz.func148, Tryz.ntmps148
    go_wp2_with fail
    go_ret2
    exact ⟨Below.refl _ _, .inr ⟨K.out, _, rfl⟩⟩
  have HZ : Hid (∀ t, x = 48 :: t → t = []) := Lib.hid (by
    obtain ⟨t, ht⟩ := HC.out
    rintro u rfl
    by_cases hu : u = []
    · exact hu
    · obtain ⟨rfl, rfl⟩ := List.cons.inj ht
      exact absurd ⟨by decide, by simpa using hu⟩ hz)
  have HX0 := Lib.hid t1
  have HX5 := Lib.hid d5'
  have key : ∀ (q1 : (((c.toNat : Int) == 48) = false) ∨ ((((c.toNat : Int) == 48) = true) ∧ (x == [48]) = true)), Calls Tryz.prog 148 #[str x] w fun e w' => NumN w x e w' := by
    intro q1
    clear hz HC
    rcases q1 with q1 | ⟨q1, q2⟩
    all_goals
      go_enter Tryz.func148, Tryz.ntmps148
      go_wp2_with fail
      clear q1 hcq
      go_loopw [4] (fun n wr => ∃ k : Nat, k ≤ x.length ∧ wr = w.iter ⟨x.toArray⟩ k ∧ n = .int .i64 (decV (x.take k) : Nat) ∧ ∀ y ∈ x.take k, digB y = true) (fun _ wr => x.length - wr.iterPos w.heap.size)
      case atStart => exact ⟨0, Nat.zero_le _, rfl, rfl, by simp⟩
      case round =>
        obtain ⟨k, hk, rfl, rfl, hall⟩ := hrel
        have HALL := Lib.hid hall
        have hl2 : (x.take k).length = k := by simp; omega
        have hv := decV_lt _ hall
        rw [hl2] at hv
        clear hall hl2
        by_cases hlt : k < x.length
        · have hsz : k < (⟨x.toArray⟩ : ByteArray).size := hlt
          obtain ⟨y, hy⟩ : ∃ y, (⟨x.toArray⟩ : ByteArray)[k]'hsz = y := ⟨_, rfl⟩
          have hy2 : x[k]? = some y := by rw [List.getElem?_eq_getElem hlt, ← hy]; rfl
          have hv4 : decV (x.take k) < 10000 := Nat.lt_of_lt_of_le hv (Nat.pow_le_pow_right (by omega) (show k ≤ 4 by omega))
          have HT := Lib.hid (show x.take (k + 1) = x.take k ++ [y] by rw [List.take_add_one, hy2]; rfl)
          have HDV := Lib.hid (decV_snoc (x.take k) y)
          have HM := Lib.hid (show y ∈ x from List.mem_of_getElem? hy2)
          have hy8 : y.toNat ≤ 255 := by have := y.toNat_lt; omega
          have bad : digB y = false → ¬ goodN x := fun hd hg => by rw [hg.1.2.1 y HM.out] at hd; cases hd
          by_cases d128 : 128 ≤ y.toNat
          · have hnx : ∀ ty, (Instr.next (.pointer (some ⟨w.heap.size, 0, none⟩)) true ty).run Tryz.prog (w.iter ⟨x.toArray⟩ k) = _ := fun ty => run_next_any w ⟨x.toArray⟩ k ty hsz
            have hd := (decode_high ⟨x.toArray⟩ k hsz (by rw [hy]; exact d128)).1
            have hd2 := decode_le ⟨x.toArray⟩ k
            have K := Lib.hid (bad (by simp [digB]; omega))
            clear bad hv hy2 hy
            generalize (Utf8.decode ⟨x.toArray⟩ k).1 = r at *
            generalize (Utf8.decode ⟨x.toArray⟩ k).2 = r2 at *
            generalize decV (x.take k) = v at *
            go_wp2_with fail
            go_ret2
            exact ⟨iter_below _ _ _, .inr ⟨K.out, _, rfl⟩⟩
          have hnx : ∀ ty, (Instr.next (.pointer (some ⟨w.heap.size, 0, none⟩)) true ty).run Tryz.prog (w.iter ⟨x.toArray⟩ k) = .ok (.tuple #[.bool true, .int .i64 k, .int .i32 (y.toNat : Nat)]) (w.iter ⟨x.toArray⟩ (k + 1)) := fun ty => by rw [← hy]; exact run_next_ascii w ⟨x.toArray⟩ k ty hsz (by rw [hy]; omega)
          clear hv hy2 hy
          generalize decV (x.take k) = v at *
          by_cases d1 : (y.toNat : Int) < 48
          · have K := Lib.hid (bad (by simp [digB]; omega))
            clear bad
            go_wp2_with fail
            go_ret2
            exact ⟨iter_below _ _ _, .inr ⟨K.out, _, rfl⟩⟩
          by_cases d2 : (57 : Int) < y.toNat
          · have K := Lib.hid (bad (by simp [digB]; omega))
            clear bad
            go_wp2_with fail
            go_ret2
            exact ⟨iter_below _ _ _, .inr ⟨K.out, _, rfl⟩⟩
          clear bad
          have HY9 := Lib.hid (show digB y = true by simp [digB]; omega)
          have e1 : IntKind.i32.wrap ((y.toNat : Int) - 48) = (y.toNat : Int) - 48 := by
            have h1 : (0 : Int) ≤ (y.toNat : Int) - 48 := by omega
            have h2 : (y.toNat : Int) - 48 < 256 := by omega
            simp only [IntKind.wrap, IntKind.signed, IntKind.bits]
            simp
            omega
          have e2 : IntKind.i64.wrap ((y.toNat : Int) - 48) = (y.toNat : Int) - 48 := IntWalk.i64_in _ (by omega)
          go_wp2_with fail
          go_roundw
          case rel =>
            refine ⟨k + 1, by omega, rfl, ?_, ?_⟩
            · rw [HT.out, HDV.out]
              congr 1
              omega
            · rw [HT.out]
              intro z hz
              rcases List.mem_append.1 hz with hz | hz
              · exact HALL.out z hz
              · rw [List.mem_singleton] at hz; subst hz; exact HY9.out
          case measure => simp; omega
        · obtain rfl : k = x.length := by omega
          have hnx : ∀ ty, (Instr.next (.pointer (some ⟨w.heap.size, 0, none⟩)) true ty).run Tryz.prog (w.iter ⟨x.toArray⟩ x.length) = _ := fun ty => run_next_end w ⟨x.toArray⟩ x.length ty (fun h => Nat.lt_irrefl _ h)
          have hft : x.take x.length = x := List.take_of_length_le (by simp)
          rw [hft] at hv HALL ⊢
          have HG : Hid (goodN x) := Lib.hid ⟨⟨fun e => by have := HX0.out; rw [e] at this; exact Nat.lt_irrefl _ this, HALL.out, HZ.out⟩, HX5.out⟩
          clear hft hv
          go_wp2_with fail
          go_ret2
          exact ⟨iter_below _ _ _, .inl ⟨HG.out, rfl⟩⟩
  refine key ?_
  obtain ⟨t, ht⟩ := HC.out
  by_cases hc48 : (c.toNat : Int) = 48
  · refine .inr ⟨by simp [hc48], ?_⟩
    have hx2 : x = [48] := Decidable.byContradiction fun h => hz ⟨hc48, h⟩
    rw [hx2]; rfl
  · exact .inl (by simpa using hc48)

end PartOfPnu

section PartOfTen
open Go.RowKit Go.Maps
theorem itoa_any (n : Int) (w : World) (h0 : -1000000000000000 ≤ n) (h1 : n ≤ 1000000000000000) (ht : Tab w) :
    Calls Tryz.prog 142 #[.int .i64 n] w fun e w' => e = .returned (.string ⟨(Lib.itoa n).toArray⟩) ∧ Below w.heap.size w w' :=
  (Tryz.strconv_Itoa n (by omega) (by omega) w ht).mono fun _ _ h => h.elim fun he h => ⟨he, h.elim fun k h => h.elim fun os h => h ▸ Lib.below_grow _ w (Nat.le_refl _) k os⟩

theorem itoa_pos (n : Int) : 1 ≤ (Lib.itoa n).length := by
  unfold Lib.itoa
  split
  · simp
  · rw [Lib.decDigits_length]; exact Lib.nDigits_pos _

theorem endStr (l : List UInt8) : (({ data := #[101, 110, 100, 32] } : ByteArray) ++ ({ data := l.toArray } : ByteArray).extract 1 l.length ++ { data := #[10] }) = { data := ([101, 110, 100, 32] ++ l.drop 1 ++ [10]).toArray } := by
  apply ByteArray.ext
  apply Array.ext'
  simp [ByteArray.data_extract]
  exact List.take_of_length_le (by simp)

/-- The sum of a field's values, each as often as its row says. -/
def sumN (wd : Int) (zs : List Int) : Nat → Int
  | 0 => wd
  | n + 1 => sumN wd zs n + ev zs n * (1 + (n : Int) / wd)
def endL (wd : Int) (zs : List Int) : List UInt8 := [101, 110, 100, 32] ++ (Lib.itoa (100 + sumN wd zs zs.length % 97)).drop 1 ++ [10]
theorem sumN_bd {wd : Int} {zs : List Int} (hw : 0 ≤ wd ∧ wd ≤ 99999) (hv : ∀ z ∈ zs, 0 ≤ z ∧ z ≤ 99999) (hl : zs.length ≤ 1000) : ∀ n : Nat, n ≤ zs.length → 0 ≤ sumN wd zs n ∧ sumN wd zs n ≤ 99999 + n * 100098999
  | 0, _ => by simp only [sumN]; omega
  | n + 1, h => by
    obtain ⟨h1, h2⟩ := sumN_bd hw hv hl n (by omega)
    have hz := hv _ (List.mem_of_getElem? (ev_is (vs := zs) (p := n) (by omega)))
    have q0 : 0 ≤ (n : Int) / wd := Int.ediv_nonneg (by omega) hw.1
    have q1 : (n : Int) / wd ≤ n := Int.ediv_le_self _ (by omega)
    have m1 : 0 ≤ ev zs n * (1 + (n : Int) / wd) := Int.mul_nonneg hz.1 (by omega)
    have m2 : ev zs n * (1 + (n : Int) / wd) ≤ 99999 * 1001 := Int.mul_le_mul hz.2 (by omega) (by omega) (by omega)
    simp only [sumN]
    omega
set_option maxHeartbeats 4000000 in
set_option maxRecDepth 100000 in
theorem ending_any (wd : Int) (A : Option Addr) (c : Nat) (zs : List Int) (w : World) (hz : Ints w (.slice A zs.length c) zs) (hw : 0 ≤ wd ∧ wd ≤ 99999) (hw0 : zs ≠ [] → 1 ≤ wd) (hv : ∀ z ∈ zs, 0 ≤ z ∧ z ≤ 99999) (hl : zs.length ≤ 1000) (ht : Tab w) :
    Calls Tryz.prog 111 #[.agg #[.int .i64 wd, .slice A zs.length c]] w fun e w' => e = .returned (str (endL wd zs)) ∧ Below w.heap.size w w' := by
  have HZ0 := Lib.hid hz
  have HV := Lib.hid hv
  have HT := Lib.hid ht
  have HBD := Lib.hid (fun n h => sumN_bd hw hv hl n h)
  clear hz hv ht
  have HR := Lib.hid ((Frm.nil w).add (.cells #[.int .i64 wd, .slice A zs.length c] 27) rfl)
  have x0 := HR.out.cells (List.mem_cons_self ..)
  go_enter Tryz.func111, Tryz.ntmps111
  go_wp2_with fail
  go_loopw [3, 11] (fun v i wr => ∃ n : Nat, n ≤ zs.length ∧ i = .int .i64 (n : Int) ∧ v = .int .i64 (sumN wd zs n) ∧ Frm w [(w.heap.size, (.cells #[.int .i64 wd, .slice A zs.length c] 27))] wr) (fun _ i _ => zs.length - (intOf i).toNat)
  case atStart => exact ⟨0, Nat.zero_le _, rfl, rfl, HR.out⟩
  case round =>
    obtain ⟨n, hn, rfl, rfl, hF⟩ := hrel
    clear HR x0
    have HR := Lib.hid hF
    have x0 := HR.out.cells (List.mem_cons_self ..)
    clear hF
    have hb := HBD.out n hn
    by_cases hnl : n < zs.length
    · have hx := ev_is (vs := zs) (p := n) hnl
      obtain ⟨b, off, hA, hcap, hmx, c0⟩ := ints_cells (HZ0.out.below HR.out.b) hx
      unfold maxLen at hmx
      subst hA
      have hz := HV.out _ (List.mem_of_getElem? hx)
      have hwd : 1 ≤ wd := hw0 (fun e => by rw [e] at hnl; simp at hnl)
      have q0 : 0 ≤ (n : Int) / wd := Int.ediv_nonneg (by omega) hw.1
      have q1 : (n : Int) / wd ≤ n := Int.ediv_le_self _ (by omega)
      have m1 : 0 ≤ ev zs n * (1 + (n : Int) / wd) := Int.mul_nonneg hz.1 (by omega)
      have m2 : ev zs n * (1 + (n : Int) / wd) ≤ 99999 * 1001 := Int.mul_le_mul hz.2 (by omega) (by omega) (by omega)
      have HS := Lib.hid (show sumN wd zs (n + 1) = sumN wd zs n + ev zs n * (1 + (n : Int) / wd) from rfl)
      have t2 : (n : Int).tdiv wd = (n : Int) / wd := Int.tdiv_eq_ediv_of_nonneg (by omega)
      have t5 : (wd == 0) = false := beq_eq_false_iff_ne.2 (by omega)
      have t6 : ¬ wd = 0 := by omega
      obtain ⟨q, hq⟩ : ∃ q, (n : Int) / wd = q := ⟨_, rfl⟩
      rw [hq] at q0 q1 m1 m2 HS t2
      have t3 : IntKind.i64.wrap q = q := IntWalk.i64_in _ (by omega)
      have t4 : IntKind.i64.wrap (1 + q) = 1 + q := IntWalk.i64_in _ (by omega)
      have t7 : IntKind.i64.wrap (ev zs n * (1 + q)) = ev zs n * (1 + q) := IntWalk.i64_in _ (by omega)
      have t8 : IntKind.i64.wrap (sumN wd zs n + ev zs n * (1 + q)) = sumN wd zs n + ev zs n * (1 + q) := IntWalk.i64_in _ (by omega)
      clear hq hx
      go_wp2_with fail
      go_roundw
      case rel => exact ⟨n + 1, by omega, by go_num, by rw [HS.out], HR.out⟩
      case measure => simp [intOf]; omega
    · obtain rfl : n = zs.length := by omega
      have HE := Lib.hid (show endL wd zs = [101, 110, 100, 32] ++ (Lib.itoa (100 + sumN wd zs zs.length % 97)).drop 1 ++ [10] from rfl)
      generalize sumN wd zs zs.length = sm at *
      have t1 : sm.tmod 97 = sm % 97 := Int.tmod_eq_emod_of_nonneg (by omega)
      have hlen := Lib.itoa_length_le (100 + sm % 97) (by omega) (by omega)
      have hlen1 : 1 ≤ (Lib.itoa (100 + sm % 97)).length := itoa_pos _
      have Ht := Lib.hid (HT.out.below HR.out.b)
      go_wp2_with (go_at_call 142; refine (itoa_any _ _ (by omega) (by omega) Ht.out).mono ?_; rintro e w1 ⟨rfl, hb1⟩)
      go_ret
      exact ⟨by rw [HE.out]; exact congrArg (fun x => Ending.returned (.string x)) (endStr _), HR.out.b.trans (hb1.mono HR.out.size)⟩

end PartOfTen

section PartOfTjo
open Go.RowKit Go.Maps
theorem join_len (ws : List (List UInt8)) (h : ∀ x ∈ ws, x.length ≤ 21) : (Lib.join ws [32]).length ≤ ws.length * 22 := by
  induction ws with
  | nil => simp [Lib.join, List.intercalate]
  | cons x r ih =>
    have h1 := h x (by simp)
    have h2 := ih (fun y hy => h y (by simp [hy]))
    cases r with
    | nil => rw [Lib.join_one]; simp; omega
    | cons y r =>
      rw [Lib.join_cons] at h2 ⊢
      simp only [Lib.joinTail, List.map_cons, List.flatten_cons, List.length_append, List.length_cons, List.length_nil] at *
      omega
@[reducible] def rwW (v : Value) (n : Nat) (ws : List (List UInt8)) : Rw := ⟨9, 1, v, n, ws.map str⟩
theorem RW.app_str {w W : World} {base N n : Nat} {bs : List (Nat × Obj)} {rest : List Rw} {v : Value} {ws : List (List UInt8)} {u : List UInt8} {o : Oper} {a : Act} {K : Act → World → Prop} {Q : Exit → Act → World → Prop} (s x : Operand) (ho : o.op = .call { callee := .builtin .append, args := #[s, x], argTypes := #[117, 117] })
    (h : RW w base bs (rwW v n ws :: rest) W) (hn : ws.length = n) (hs : a.eval s = v) (hx : a.eval x = .slice (some ⟨N, 0, none⟩) 1 1) (hN : (N, Obj.cells #[str u] 9) ∈ bs) (hl : n ≤ 1000)
    (hk : ∀ g cap W1, RW w base bs (rwW (.slice (some ⟨g, 0, none⟩) (n + 1) cap) (n + 1) (ws ++ [u]) :: rest) W1 → K (a.put o.dst (.slice (some ⟨g, 0, none⟩) (n + 1) cap)) W1) : o.wp Tryz.prog a W K Q := by
  obtain ⟨i0, hi0, hz0, hz1, hz2⟩ := info_parts Tryz.infoStr
  obtain ⟨hc, _⟩ := boxCells (h.frm.h _ hN)
  refine wp_append_lies W s x _ ho base 9 i0 _ 1 16 Tryz.underlying117 hi0 hz0 hz1 hz2 rfl (by omega) v n (ws.map str) hs (h.own _ (List.mem_cons_self ..)) ⟨N, 0, none⟩ 1 1 [str u] hx rfl (fun j z hj => ?_) (fun z hz => by simp at hz; subst hz; rfl) (by omega) (by unfold maxLen; omega) (by omega) h.hi _ rfl ?_
  · rw [Go.WideShapes.add_plain, Nat.zero_add, hc j]
    simpa using hj
  · intro g cap w1 hown1 hgrow hat hlt
    refine hk g cap w1 (h.app hgrow ?_ fun k hk => ?_)
    · show w1.ownsRow base 9 1 (.slice (some ⟨g, 0, none⟩) (n + 1) cap) (n + 1) ((ws ++ [u]).map str)
      rw [List.map_append]; exact hown1
    · obtain rfl : g = k := by simpa [Value.ownBlock] using hk
      exact hat
theorem RW.lapp_str {w W : World} {base N n : Nat} {bs : List (Nat × Obj)} {rest : List Rw} {v : Value} {ws : List (List UInt8)} {u : List UInt8} {ops : Array Oper} {l : List Oper} {o : Oper} {a : Act} {Q : Exit → Act → World → Prop} (hgd : o.guard = none) (s x : Operand) (ho : o.op = .call { callee := .builtin .append, args := #[s, x], argTypes := #[117, 117] })
    (h : RW w base bs (rwW v n ws :: rest) W) (hn : ws.length = n) (hs : a.eval s = v) (hx : a.eval x = .slice (some ⟨N, 0, none⟩) 1 1) (hN : (N, Obj.cells #[str u] 9) ∈ bs) (hl : n ≤ 1000)
    (hk : ∀ g cap W1, RW w base bs (rwW (.slice (some ⟨g, 0, none⟩) (n + 1) cap) (n + 1) (ws ++ [u]) :: rest) W1 → wpList Tryz.prog ops Q l (a.put o.dst (.slice (some ⟨g, 0, none⟩) (n + 1) cap)) W1) : wpList Tryz.prog ops Q (o :: l) a W :=
  wpList_plain hgd fun _ hK => RW.app_str s x ho h hn hs hx hN hl fun g cap W1 hr => hK _ _ (hk g cap W1 hr)
theorem join_call {W : World} {g cap : Nat} {ws : List (List UInt8)} (hc : ∀ i x, ws[i]? = some x → W.cell? ⟨g, i, none⟩ = some (str x)) (hg : g < W.heap.size) (h1 : ws.length ≤ cap) (hs : ws.length ≤ 1000) (hl : ∀ x ∈ ws, x.length ≤ 21) :
    Calls Tryz.prog 143 #[.slice (some ⟨g, 0, none⟩) ws.length cap, .string ⟨#[32]⟩] W fun e w' => e = .returned (str (Lib.join ws [32])) ∧ Below W.heap.size W w' := by
  have hlen : (ws.map fun l => (⟨l.toArray⟩ : ByteArray)).length = ws.length := by simp
  have hmap : (ws.map fun l => (⟨l.toArray⟩ : ByteArray)).map (·.data.toList) = ws := by
    rw [List.map_map]
    exact (List.map_congr_left (fun _ _ => rfl)).trans (List.map_id ws)
  have := Tryz.strings_Join g 0 cap (ws.map fun l => (⟨l.toArray⟩ : ByteArray)) ⟨#[32]⟩ W (fun j x hx => by
    rw [List.getElem?_map] at hx
    cases hw : ws[j]? with
    | none => rw [hw] at hx; cases hx
    | some y => rw [hw] at hx; cases hx; rw [Nat.zero_add]; exact hc j y hw) hg (by omega) (by omega) (by
    rw [hmap]
    have := join_len ws hl
    show (Lib.join ws [32]).length ≤ _
    omega)
  rw [hlen, hmap] at this
  exact this
def itosL (zs : List Int) : List (List UInt8) := zs.map Lib.itoa
theorem itosL_len (zs : List Int) : (itosL zs).length = zs.length := by simp [itosL]
theorem itosL_snoc {zs : List Int} {n : Nat} {x : Int} (h : zs[n]? = some x) : itosL (zs.take (n + 1)) = itosL (zs.take n) ++ [Lib.itoa x] := by
  rw [List.take_add_one, h]; simp [itosL]
set_option maxHeartbeats 4000000 in
set_option maxRecDepth 100000 in
theorem joined_any (A : Option Addr) (c : Nat) (zs : List Int) (w : World) (hz : Ints w (.slice A zs.length c) zs) (h0 : 0 < zs.length) (hl : zs.length ≤ 900) (hv : ∀ z ∈ zs, -1000000000000 ≤ z ∧ z ≤ 1000000000000) (ht : Tab w) :
    Calls Tryz.prog 109 #[.slice A zs.length c] w fun e w' => e = .returned (str (Lib.join (itosL zs) [32])) ∧ Below w.heap.size w w' := by
  have HZ0 := Lib.hid hz
  have HV := Lib.hid hv
  have HT := Lib.hid ht
  clear hz hv ht
  have hRW := (RW.start (Frm.nil w)).nil 9 1
  go_enter Tryz.func109, Tryz.ntmps109
  go_wp2_with fail
  go_loopw [3, 8] (fun v i wr => ∃ n E ec, n ≤ zs.length ∧ i = .int .i64 (n : Int) ∧ v = .slice E n ec ∧ RW w w.heap.size [] [rwW (.slice E n ec) n (itosL (zs.take n))] wr) (fun _ i _ => zs.length - (intOf i).toNat)
  case atStart => exact ⟨0, none, 0, Nat.zero_le _, rfl, rfl, hRW⟩
  case round =>
    obtain ⟨n, E, ec, hnn, rfl, rfl, hF⟩ := hrel
    clear hRW
    have HR := Lib.hid hF
    clear hF
    by_cases hlt : n < zs.length
    · have hlt2 : (n : Int) < zs.length := by omega
      obtain ⟨x, hx⟩ : ∃ x, zs[n]? = some x := ⟨_, List.getElem?_eq_getElem hlt⟩
      obtain ⟨b, off, hA, hcap, hmx, c0⟩ := ints_cells (HZ0.out.below HR.out.frm.b) hx
      unfold maxLen at hmx
      subst hA
      have hxv := HV.out x (List.mem_of_getElem? hx)
      have HX := Lib.hid (itosL_snoc hx)
      have Ht := Lib.hid (HT.out.below HR.out.frm.b)
      clear hx
      go_wp2_with (first | (go_at_call 142; refine (itoa_any _ _ (by omega) (by omega) Ht.out).mono ?_; rintro e wa ⟨rfl, hba⟩; have HRq := Lib.hid (HR.out.below hba); clear HR c0 hba; have HR := HRq; clear HRq) | (at_builtin; go_must (refine RW.lapp_str (u := Lib.itoa x) (by rfl) _ _ (by rfl) (HR.out.add (.cells #[str (Lib.itoa x)] 9) rfl) (by rw [itosL_len, List.length_take]; omega) (by rfl) (by rfl) (List.mem_cons_self ..) (by omega) ?_); intro g cap wb hRn; have HRq := Lib.hid (RW.less (bs' := []) hRn (by simp)); clear HR hRn; have HR := HRq; clear HRq))
      go_roundw
      case rel => exact ⟨n + 1, some ⟨g, 0, none⟩, cap, by omega, by go_num, rfl, by rw [HX.out]; exact HR.out⟩
      case measure => simp [intOf]; omega
    · obtain rfl : n = zs.length := by omega
      have hrow : OwnW wr w.heap.size (.slice E zs.length ec) (itosL zs) := by
        have := HR.out.own _ (List.mem_cons_self ..)
        rw [List.take_length] at this
        show wr.ownsRow w.heap.size 9 1 (.slice E zs.length ec) (itosL zs).length ((itosL zs).map str)
        rw [itosL_len]
        exact this
      obtain ⟨g, cap, hE, hg1, hg2, hc1, hc2, hcs⟩ := hrow.cells (fun e => by have := itosL_len zs; rw [e] at this; simp at this; omega)
      rw [itosL_len] at hE hc1
      obtain ⟨rfl, -, rfl⟩ : E = some ⟨g, 0, none⟩ ∧ zs.length = zs.length ∧ ec = cap := by simpa using hE
      have HJ := Lib.hid (join_call (ws := itosL zs) (cap := ec) hcs hg2 (by rw [itosL_len]; exact hc1) (by rw [itosL_len]; omega) (fun x hx => by
        obtain ⟨z, hz, rfl⟩ := List.mem_map.1 hx
        have := HV.out z hz
        exact Lib.itoa_length_le z (by omega) (by omega)))
      rw [itosL_len] at HJ
      unfold maxLen at hc2
      clear hrow hcs hE
      go_wp2_with (go_at_call 143; refine HJ.out.mono ?_; rintro e w1 ⟨rfl, hb1⟩)
      go_ret
      exact ⟨rfl, HR.out.frm.b.trans (hb1.mono HR.out.le)⟩

end PartOfTjo

section PartOfTwd
open Go.RowKit Go.Maps
/-- The words of a line: an empty one has none. -/
def wdsF (l : List UInt8) : List (List UInt8) := if l = [] then [] else spl 32 l
set_option maxHeartbeats 1000000 in
set_option maxRecDepth 100000 in
theorem rWords_any (l : List UInt8) (w : World) (hl : l.length ≤ 3200) :
    Calls Tryz.prog 84 #[str l] w fun e w' => ∃ v, e = .returned v ∧ OwnW w' w.heap.size v (wdsF l) ∧ Below w.heap.size w w' := by
  by_cases h0 : l = []
  · subst h0
    go_enter Tryz.func84, Tryz.ntmps84
    go_wp2_with fail
    go_ret
    exact ⟨_, rfl, World.ownsRow_nil .., Below.refl _ _⟩
  · have HW := Lib.hid (show wdsF l = spl 32 l by unfold wdsF; rw [if_neg h0])
    have hb : (l == []) = false := by simpa using h0
    have HS := Lib.hid (rSplit_any (⟨l.toArray⟩ : ByteArray) 32 32 rfl w hl)
    go_enter Tryz.func84, Tryz.ntmps84
    go_wp2_with (go_at_call 82; refine HS.out.mono ?_; rintro e w1 ⟨v, rfl, hO, hb1⟩)
    go_ret
    exact ⟨v, rfl, by rw [HW.out]; exact hO, hb1⟩

end PartOfTwd

section PartOfTgd
open Go.RowKit
/-- A line of numbers. -/
def lineF (zs : List Int) : List UInt8 := Lib.join (itosL zs) [32]
/-- The values of a row. -/
def rowOf (wd : Nat) (zs : List Int) (r : Nat) : List Int := (zs.drop (r * wd)).take wd
def chartW : List UInt8 := [99, 104, 97, 114, 116, 32]
def headF (wd rw : Int) : List UInt8 := chartW ++ lineF [wd, rw]
/-- The last line. -/
def endW (wd : Int) (zs : List Int) : List UInt8 := [101, 110, 100, 32] ++ (Lib.itoa (100 + sumN wd zs zs.length % 97)).drop 1
theorem endL_eq (wd : Int) (zs : List Int) : endL wd zs = endW wd zs ++ [10] := rfl
/-- The first rows with their line feeds. -/
def rowsT (wd : Nat) (zs : List Int) : Nat → List UInt8
  | 0 => []
  | n + 1 => rowsT wd zs n ++ lineF (rowOf wd zs n) ++ [10]
/-- The text of a field. -/
def textP (wd rw : Nat) (zs : List Int) : List UInt8 := headF wd rw ++ [10] ++ rowsT wd zs rw ++ endL wd zs
def rowsF (wd : Nat) (zs : List Int) (n : Nat) : List (List UInt8) := (List.range n).map fun r => lineF (rowOf wd zs r)
def linesF (wd rw : Nat) (zs : List Int) : List (List UInt8) := headF wd rw :: (rowsF wd zs rw ++ [endW wd zs, []])

def rowL (ls : List (List UInt8)) (r : Nat) : List UInt8 := ls.getD (r + 1) []
def rowOk (wd : Nat) (l : List UInt8) : Prop := (wdsF l).length = wd ∧ ∀ x ∈ wdsF l, goodN x
def valsN (ls : List (List UInt8)) : Nat → List Int
  | 0 => []
  | n + 1 => valsN ls n ++ valsF (wdsF (rowL ls n))
/-- The lines of a field's text. -/
structure GoodL (ls : List (List UInt8)) (wd rw : Nat) : Prop where
  len : ls.length = rw + 3
  head : ∃ a b, ls.getD 0 [] = chartW ++ (a ++ [32] ++ b) ∧ goodN a ∧ goodN b ∧ decV a = wd ∧ decV b = rw
  rows : ∀ r, r < rw → rowOk wd (rowL ls r)
  last : ls.getD (rw + 1) [] = endW wd (valsN ls rw)
  nil : ls.getD (rw + 2) [] = []

theorem dig_not {l : List UInt8} {b : UInt8} (h : ∀ c ∈ l, digB c = true) (hb : digB b = false) : b ∉ l := fun hm => by
  rw [h b hm] at hb; cases hb
theorem good_not {x : List UInt8} (h : goodN x) {b : UInt8} (hb : digB b = false) : b ∉ x := dig_not h.1.2.1 hb
theorem dec_good {n : Nat} (h : n ≤ 99999) : goodN (Lib.decDigits n) := ⟨dec_can n, dec_small h⟩
theorem good_val {x : List UInt8} (h : goodN x) : decV x ≤ 99999 := can_small h.1 h.2
theorem good_dec {x : List UInt8} (h : goodN x) : Lib.itoa (decV x : Int) = x := itoa_pos0 x h.1
theorem itoa_good {z : Int} (h : 0 ≤ z ∧ z ≤ 99999) : goodN (Lib.itoa z) := by
  obtain ⟨n, rfl⟩ : ∃ n : Nat, z = n := ⟨z.toNat, by omega⟩
  rw [Lib.itoa_nonneg]
  exact dec_good (by omega)
theorem decV_itoa {z : Int} (h : 0 ≤ z ∧ z ≤ 99999) : (decV (Lib.itoa z) : Int) = z := by
  obtain ⟨n, rfl⟩ : ∃ n : Nat, z = n := ⟨z.toNat, by omega⟩
  rw [Lib.itoa_nonneg, dec_val]
theorem join_two (a b : List UInt8) (c : UInt8) : Lib.join [a, b] [c] = a ++ [c] ++ b := by simp [Lib.join, List.intercalate, List.intersperse]
theorem join_nil (c : UInt8) : Lib.join [] [c] = [] := rfl
theorem join_ne {c : UInt8} : ∀ ws : List (List UInt8), (∀ w ∈ ws, w ≠ []) → ws ≠ [] → Lib.join ws [c] ≠ []
  | [], _, h => absurd rfl h
  | [w], h, _ => by
    have : Lib.join [w] [c] = w := by simp [Lib.join, List.intercalate]
    rw [this]; exact h w (by simp)
  | w :: v :: ws, h, _ => by
    have e : Lib.join (w :: v :: ws) [c] = w ++ c :: Lib.join (v :: ws) [c] := by simp [Lib.join, List.intercalate, List.intersperse]
    rw [e]; simp
theorem join_not {b c : UInt8} (hbc : b ≠ c) : ∀ ws : List (List UInt8), (∀ w ∈ ws, b ∉ w) → b ∉ Lib.join ws [c]
  | [], _ => by simp [Lib.join, List.intercalate]
  | [w], h => by
    have : Lib.join [w] [c] = w := by simp [Lib.join, List.intercalate]
    rw [this]; exact h w (by simp)
  | w :: v :: ws, h => by
    have e : Lib.join (w :: v :: ws) [c] = w ++ c :: Lib.join (v :: ws) [c] := by simp [Lib.join, List.intercalate, List.intersperse]
    have h1 := h w (by simp)
    have h2 := join_not hbc (v :: ws) (fun x hx => h x (List.mem_cons_of_mem _ hx))
    rw [e]
    simp only [List.mem_append, List.mem_cons, not_or]
    exact ⟨h1, hbc, h2⟩
theorem wds_join {ws : List (List UInt8)} (h : ∀ w ∈ ws, goodN w) : wdsF (Lib.join ws [32]) = ws := by
  unfold wdsF
  by_cases h0 : ws = []
  · subst h0; rfl
  · rw [if_neg (join_ne ws (fun w hw => (h w hw).1.1) h0), join_spl 32 ws h0 (fun w hw => good_not (h w hw) (by decide))]
theorem join_wds (l : List UInt8) : Lib.join (wdsF l) [32] = l := by
  unfold wdsF
  split
  · next h => subst h; rfl
  · exact spl_join 32 l
theorem wds_inj {a b : List UInt8} (h : wdsF a = wdsF b) : a = b := by rw [← join_wds a, h, join_wds]
theorem itos_vals {ws : List (List UInt8)} (h : ∀ w ∈ ws, goodN w) : itosL (valsF ws) = ws := by
  unfold itosL valsF
  rw [List.map_map]
  exact (List.map_congr_left (fun x hx => good_dec (h x hx))).trans (List.map_id ws)
theorem vals_itos {zs : List Int} (h : ∀ z ∈ zs, 0 ≤ z ∧ z ≤ 99999) : valsF (itosL zs) = zs := by
  unfold itosL valsF
  rw [List.map_map]
  exact (List.map_congr_left (fun x hx => decV_itoa (h x hx))).trans (List.map_id zs)
theorem itos_good {zs : List Int} (h : ∀ z ∈ zs, 0 ≤ z ∧ z ≤ 99999) : ∀ w ∈ itosL zs, goodN w := fun w hw => by
  obtain ⟨z, hz, rfl⟩ := List.mem_map.1 hw
  exact itoa_good (h z hz)
theorem vals_bd {ws : List (List UInt8)} (h : ∀ w ∈ ws, goodN w) : ∀ z ∈ valsF ws, 0 ≤ z ∧ z ≤ 99999 := fun z hz => by
  obtain ⟨w, hw, rfl⟩ := List.mem_map.1 hz
  have := good_val (h w hw)
  omega
theorem line_wds {zs : List Int} (h : ∀ z ∈ zs, 0 ≤ z ∧ z ≤ 99999) : wdsF (lineF zs) = itosL zs := wds_join (itos_good h)
theorem line_of {l : List UInt8} (h : ∀ x ∈ wdsF l, goodN x) : lineF (valsF (wdsF l)) = l := by
  unfold lineF
  rw [itos_vals h, join_wds]
theorem line_feed {zs : List Int} (h : ∀ z ∈ zs, 0 ≤ z ∧ z ≤ 99999) : 10 ∉ lineF zs := join_not (by decide) _ fun w hw => good_not (itos_good h w hw) (by decide)

theorem rowOf_mem {wd r : Nat} {zs : List Int} {z : Int} (h : z ∈ rowOf wd zs r) : z ∈ zs := List.mem_of_mem_drop (List.mem_of_mem_take h)
theorem rowOf_len {wd rw r : Nat} {zs : List Int} (hl : zs.length = rw * wd) (hr : r < rw) : (rowOf wd zs r).length = wd := by
  have : (r + 1) * wd ≤ rw * wd := Nat.mul_le_mul_right _ (by omega)
  rw [Nat.add_mul, Nat.one_mul] at this
  simp [rowOf]
  omega
theorem rowOf_at {wd r i : Nat} {zs : List Int} (hi : i < wd) : (rowOf wd zs r)[i]? = zs[r * wd + i]? := by
  unfold rowOf
  rw [List.getElem?_take_of_lt hi, List.getElem?_drop]

theorem three (x : Int) (h0 : 0 ≤ x) (h1 : x < 100) : ∃ a b : UInt8, Lib.itoa (100 + x) = [49, a, b] ∧ digB a = true ∧ digB b = true := by
  obtain ⟨n, rfl⟩ : ∃ n : Nat, x = n := ⟨x.toNat, by omega⟩
  have e : (100 : Int) + n = ((100 + n : Nat) : Int) := by omega
  rw [e, Lib.itoa_nonneg, Lib.decDigits, dif_neg (by omega), Lib.decDigits, dif_neg (by omega), Lib.decDigits, dif_pos (by omega)]
  have h3 : (100 + n) / 10 / 10 = 1 := by omega
  rw [h3]
  refine ⟨_, _, rfl, ?_, ?_⟩ <;> simp only [digB, dig_of (show (100 + n) / 10 % 10 < 10 by omega), dig_of (show (100 + n) % 10 < 10 by omega), Bool.and_eq_true, decide_eq_true_eq] <;> omega
theorem endW_feed (wd : Int) (zs : List Int) : 10 ∉ endW wd zs := by
  obtain ⟨a, b, e, h1, h2⟩ := three (sumN wd zs zs.length % 97) (by omega) (by omega)
  unfold endW
  rw [e]
  intro h
  simp only [List.drop_succ_cons, List.drop_zero, List.mem_append, List.mem_cons, List.not_mem_nil, or_false] at h
  rcases h with h | h | h
  · revert h; decide
  · rw [← h] at h1; revert h1; decide
  · rw [← h] at h2; revert h2; decide
theorem endW_inj {wd wd' : Int} {zs zs' : List Int} (h : endW wd zs = endW wd' zs') : sumN wd zs zs.length % 97 = sumN wd' zs' zs'.length % 97 := by
  obtain ⟨a, b, e, -, -⟩ := three (sumN wd zs zs.length % 97) (by omega) (by omega)
  obtain ⟨a', b', e', -, -⟩ := three (sumN wd' zs' zs'.length % 97) (by omega) (by omega)
  unfold endW at h
  rw [e, e'] at h
  have h2 := List.append_cancel_left h
  have h3 : Lib.itoa (100 + sumN wd zs zs.length % 97) = Lib.itoa (100 + sumN wd' zs' zs'.length % 97) := by
    rw [e, e']
    simpa using h2
  have := itoa_inj h3
  omega
theorem headF_eq (wd rw : Int) : headF wd rw = chartW ++ (Lib.itoa wd ++ [32] ++ Lib.itoa rw) := by
  unfold headF lineF itosL
  rw [List.map_cons, List.map_cons, List.map_nil, join_two]
theorem headF_feed {wd rw : Nat} (h1 : wd ≤ 99999) (h2 : rw ≤ 99999) : 10 ∉ headF wd rw := by
  rw [headF_eq]
  have a := good_not (itoa_good (z := wd) (by omega)) (b := 10) (by decide)
  have b := good_not (itoa_good (z := rw) (by omega)) (b := 10) (by decide)
  simp only [List.mem_append, not_or]
  exact ⟨by decide, ⟨a, by decide⟩, b⟩

theorem rowsT_spl {wd : Nat} {zs : List Int} (hz : ∀ z ∈ zs, 0 ≤ z ∧ z ≤ 99999) (x : List UInt8) : ∀ n, spl 10 (rowsT wd zs n ++ x) = rowsF wd zs n ++ spl 10 x := by
  intro n
  induction n generalizing x with
  | zero => simp [rowsT, rowsF]
  | succ n ih =>
    have e : rowsT wd zs (n + 1) ++ x = rowsT wd zs n ++ (lineF (rowOf wd zs n) ++ 10 :: x) := by simp [rowsT]
    rw [e, ih, spl_app 10 _ _ (line_feed fun z h => hz z (rowOf_mem h))]
    simp [rowsF, List.range_succ]
theorem text_spl {wd rw : Nat} {zs : List Int} (hz : ∀ z ∈ zs, 0 ≤ z ∧ z ≤ 99999) (h1 : wd ≤ 99999) (h2 : rw ≤ 99999) : spl 10 (textP wd rw zs) = linesF wd rw zs := by
  have e : textP wd rw zs = headF wd rw ++ 10 :: (rowsT wd zs rw ++ (endW wd zs ++ 10 :: [])) := by simp [textP, endL_eq]
  rw [e, spl_app 10 _ _ (headF_feed h1 h2), rowsT_spl hz, spl_app 10 _ _ (endW_feed _ _)]
  rfl
theorem linesF_len (wd rw : Nat) (zs : List Int) : (linesF wd rw zs).length = rw + 3 := by simp [linesF, rowsF]
theorem linesF_row {wd rw r : Nat} {zs : List Int} (hr : r < rw) : rowL (linesF wd rw zs) r = lineF (rowOf wd zs r) := by
  simp [rowL, linesF, rowsF, List.getElem?_append, hr]
theorem linesF_end (wd rw : Nat) (zs : List Int) : (linesF wd rw zs).getD (rw + 1) [] = endW wd zs := by
  simp [linesF, rowsF, List.getElem?_append]
theorem linesF_nil (wd rw : Nat) (zs : List Int) : (linesF wd rw zs).getD (rw + 2) [] = [] := by
  simp [linesF, rowsF, List.getElem?_append]
theorem take_row {wd n : Nat} {zs : List Int} : zs.take ((n + 1) * wd) = zs.take (n * wd) ++ rowOf wd zs n := by
  rw [Nat.add_mul, Nat.one_mul, List.take_add]
  rfl
theorem linesF_vals {wd rw : Nat} {zs : List Int} (hz : ∀ z ∈ zs, 0 ≤ z ∧ z ≤ 99999) : ∀ n, n ≤ rw → valsN (linesF wd rw zs) n = zs.take (n * wd)
  | 0, _ => by simp [valsN]
  | n + 1, h => by
    have hb : ∀ z ∈ rowOf wd zs n, 0 ≤ z ∧ z ≤ 99999 := fun z h => hz z (rowOf_mem h)
    rw [valsN, linesF_vals hz n (by omega), linesF_row (by omega), line_wds hb, vals_itos hb, take_row]
theorem linesF_good {wd rw : Nat} {zs : List Int} (hz : ∀ z ∈ zs, 0 ≤ z ∧ z ≤ 99999) (h1 : wd ≤ 99999) (h2 : rw ≤ 99999) (hl : zs.length = rw * wd) : GoodL (linesF wd rw zs) wd rw ∧ valsN (linesF wd rw zs) rw = zs := by
  have hv : valsN (linesF wd rw zs) rw = zs := by
    rw [linesF_vals hz rw (Nat.le_refl _), ← hl, List.take_length]
  refine ⟨⟨linesF_len _ _ _, ⟨Lib.itoa wd, Lib.itoa rw, headF_eq _ _, itoa_good (by omega), itoa_good (by omega), ?_, ?_⟩, fun r hr => ?_, ?_, linesF_nil _ _ _⟩, hv⟩
  · have := decV_itoa (z := (wd : Int)) (by omega); omega
  · have := decV_itoa (z := (rw : Int)) (by omega); omega
  · have hb : ∀ z ∈ rowOf wd zs r, 0 ≤ z ∧ z ≤ 99999 := fun z h => hz z (rowOf_mem h)
    rw [linesF_row hr]
    unfold rowOk
    rw [line_wds hb]
    exact ⟨(itosL_len _).trans (rowOf_len hl hr), itos_good hb⟩
  · rw [linesF_end, hv]
theorem valsN_ok {ls : List (List UInt8)} {wd : Nat} : ∀ n, (∀ r, r < n → rowOk wd (rowL ls r)) → (valsN ls n).length = n * wd ∧ (∀ z ∈ valsN ls n, 0 ≤ z ∧ z ≤ 99999) ∧ ∀ r, r < n → rowOf wd (valsN ls n) r = valsF (wdsF (rowL ls r))
  | 0, _ => ⟨by simp [valsN], by simp [valsN], fun r h => absurd h (Nat.not_lt_zero _)⟩
  | n + 1, h => by
    obtain ⟨h1, h2, h3⟩ := valsN_ok n fun r hr => h r (by omega)
    obtain ⟨hw, hg⟩ := h n (Nat.lt_succ_self n)
    have hlen : (valsF (wdsF (rowL ls n))).length = wd := by rw [valsF_len, hw]
    refine ⟨by rw [valsN, List.length_append, h1, hlen, Nat.add_mul, Nat.one_mul], fun z hz => ?_, fun r hr => ?_⟩
    · rw [valsN] at hz
      rcases List.mem_append.1 hz with hz | hz
      · exact h2 z hz
      · exact vals_bd hg z hz
    · rcases Nat.lt_or_ge r n with hrn | hrn
      · rw [← h3 r hrn]
        have hle : (r + 1) * wd ≤ n * wd := Nat.mul_le_mul_right _ (by omega)
        rw [Nat.add_mul, Nat.one_mul] at hle
        unfold rowOf
        rw [valsN, List.drop_append_of_le_length (by omega), List.take_append_of_le_length (by rw [List.length_drop]; omega)]
      · obtain rfl : r = n := by omega
        unfold rowOf
        rw [valsN, ← h1, List.drop_left]
        exact List.take_of_length_le (by omega)
theorem good_lines {ls : List (List UInt8)} {wd rw : Nat} (h : GoodL ls wd rw) : ls = linesF wd rw (valsN ls rw) ∧ (valsN ls rw).length = rw * wd ∧ (∀ z ∈ valsN ls rw, 0 ≤ z ∧ z ≤ 99999) ∧ wd ≤ 99999 ∧ rw ≤ 99999 := by
  obtain ⟨h1, h2, h3⟩ := valsN_ok rw h.rows
  obtain ⟨a, b, e0, ga, gb, ea, eb⟩ := h.head
  refine ⟨?_, h1, h2, ea ▸ good_val ga, eb ▸ good_val gb⟩
  apply List.ext_getElem?
  intro i
  have e : ∀ (l m : List (List UInt8)), l.length = m.length → (∀ i, i < l.length → l.getD i [] = m.getD i []) → ∀ i : Nat, l[i]? = m[i]? := fun l m hl hh i => by
    rcases Nat.lt_or_ge i l.length with hi | hi
    · have := hh i hi
      rw [List.getD_eq_getElem?_getD, List.getD_eq_getElem?_getD, List.getElem?_eq_getElem hi, List.getElem?_eq_getElem (hl ▸ hi)] at this
      rw [List.getElem?_eq_getElem hi, List.getElem?_eq_getElem (hl ▸ hi)]
      simpa using this
    · rw [List.getElem?_eq_none hi, List.getElem?_eq_none (hl ▸ hi)]
  refine e _ _ (by rw [h.len, linesF_len]) (fun i hi => ?_) i
  rw [h.len] at hi
  rcases Nat.lt_or_ge i 1 with hi0 | hi0
  · obtain rfl : i = 0 := by omega
    rw [e0, show (linesF wd rw (valsN ls rw)).getD 0 [] = headF wd rw from rfl, headF_eq, ← ea, ← eb, good_dec ga, good_dec gb]
  · obtain ⟨r, rfl⟩ : ∃ r, i = r + 1 := ⟨i - 1, by omega⟩
    rcases Nat.lt_or_ge r rw with hr | hr
    · have := linesF_row (wd := wd) (zs := valsN ls rw) hr
      unfold rowL at this
      rw [this, h3 r hr, line_of (h.rows r hr).2]
      rfl
    · rcases Nat.lt_or_ge r (rw + 1) with hr2 | hr2
      · obtain rfl : r = rw := by omega
        rw [h.last, linesF_end]
      · obtain rfl : r = rw + 1 := by omega
        rw [h.nil, linesF_nil]
/-- Which texts are those of a field. -/
theorem good_text {T : List UInt8} {wd rw : Nat} (h : GoodL (spl 10 T) wd rw) : T = textP wd rw (valsN (spl 10 T) rw) := by
  obtain ⟨h1, -, h3, h4, h5⟩ := good_lines h
  have := text_spl (rw := rw) h3 h4 h5
  have e := congrArg (fun x => Lib.join x [10]) (h1.trans this.symm)
  simpa only [spl_join] using e
theorem good_uniq {ls : List (List UInt8)} {wd rw wd' rw' : Nat} (h : GoodL ls wd rw) (h' : GoodL ls wd' rw') : wd = wd' ∧ rw = rw' := by
  obtain ⟨a, b, e0, ga, gb, ea, eb⟩ := h.head
  obtain ⟨a', b', e0', ga', gb', ea', eb'⟩ := h'.head
  rw [e0] at e0'
  have e1 := List.append_cancel_left e0'
  have e2 : spl 32 (a ++ 32 :: b) = spl 32 (a' ++ 32 :: b') := congrArg (spl 32) (by simpa using e1)
  rw [spl_app 32 a b (good_not ga (by decide)), spl_app 32 a' b' (good_not ga' (by decide)), spl_no 32 b (good_not gb (by decide)), spl_no 32 b' (good_not gb' (by decide))] at e2
  obtain ⟨rfl, e3⟩ := List.cons.inj e2
  obtain ⟨rfl, -⟩ := List.cons.inj e3
  exact ⟨ea.symm.trans ea', eb.symm.trans eb'⟩

/-! One digit changed. -/
theorem spl_mid (b c d : UInt8) (hc : c ≠ b) (hd : d ≠ b) (v : List UInt8) : ∀ u : List UInt8, ∃ L p q R, spl b (u ++ c :: v) = L ++ (p ++ c :: q) :: R ∧ spl b (u ++ d :: v) = L ++ (p ++ d :: q) :: R
  | [] => by
    cases hs : spl b v with
    | nil => exact absurd hs (spl_ne _ _)
    | cons w ws =>
      refine ⟨[], [], w, ws, ?_, ?_⟩
      · rw [List.nil_append, spl_cons, if_neg hc, hs]; rfl
      · rw [List.nil_append, spl_cons, if_neg hd, hs]; rfl
  | x :: u => by
    obtain ⟨L, p, q, R, h1, h2⟩ := spl_mid b c d hc hd v u
    by_cases hx : x = b
    · refine ⟨[] :: L, p, q, R, ?_, ?_⟩
      · rw [List.cons_append, spl_cons, if_pos hx, h1]; rfl
      · rw [List.cons_append, spl_cons, if_pos hx, h2]; rfl
    · cases L with
      | nil =>
        refine ⟨[], x :: p, q, R, ?_, ?_⟩
        · rw [List.cons_append, spl_cons, if_neg hx, h1]; rfl
        · rw [List.cons_append, spl_cons, if_neg hx, h2]; rfl
      | cons w ws =>
        refine ⟨(x :: w) :: ws, p, q, R, ?_, ?_⟩
        · rw [List.cons_append, spl_cons, if_neg hx, h1]; rfl
        · rw [List.cons_append, spl_cons, if_neg hx, h2]; rfl
theorem decV_app (a b : List UInt8) : decV (a ++ b) = decV a * 10 ^ b.length + decV b := by
  induction b using snoc_ind with
  | h0 => simp [decV]
  | h1 l c ih =>
    rw [← List.append_assoc, decV_snoc, ih, decV_snoc, List.length_append, List.length_singleton, Nat.pow_succ, Nat.mul_add, ← Nat.mul_assoc, Nat.mul_comm 10 (decV a), Nat.mul_assoc (decV a), Nat.mul_comm 10 (10 ^ l.length)]
    omega
theorem decV_change (p q : List UInt8) (c d : UInt8) (hc : digB c = true) (hd : digB d = true) : (decV (p ++ c :: q) : Int) - decV (p ++ d :: q) = ((c.toNat : Int) - d.toNat) * 10 ^ q.length := by
  have e : ∀ x : UInt8, digB x = true → (decV (p ++ x :: q) : Int) = (decV p : Int) * 10 ^ (q.length + 1) + ((x.toNat : Int) - 48) * 10 ^ q.length + decV q := fun x hx => by
    have hx' := hx
    simp only [digB, Bool.and_eq_true, decide_eq_true_eq] at hx'
    have h1 := decV_app p (x :: q)
    have h2 := decV_app [x] q
    have h3 : decV [x] = x.toNat - 48 := by simp [decV]
    rw [List.singleton_append] at h2
    rw [h3] at h2
    rw [h2, List.length_cons] at h1
    have : ((x.toNat - 48 : Nat) : Int) = (x.toNat : Int) - 48 := by omega
    have h4 := congrArg (fun n : Nat => (n : Int)) h1
    simp only [Int.natCast_add, Int.natCast_mul, Int.natCast_pow, this, Int.cast_ofNat_Int] at h4
    rw [h4]
    omega
  rw [e c hc, e d hd]
  have : ((c.toNat : Int) - d.toNat) * 10 ^ q.length = ((c.toNat : Int) - 48) * 10 ^ q.length - ((d.toNat : Int) - 48) * 10 ^ q.length := by
    rw [← Int.sub_mul]; congr 1; omega
  rw [this]; omega
theorem sum_diff {wd : Int} {zs zs' : List Int} {q : Nat} (h : ∀ p, p ≠ q → ev zs p = ev zs' p) : ∀ n : Nat, sumN wd zs n - sumN wd zs' n = if q < n then (ev zs q - ev zs' q) * (1 + (q : Int) / wd) else 0
  | 0 => by simp [sumN]
  | n + 1 => by
    have ih := sum_diff (wd := wd) h n
    simp only [sumN]
    by_cases hq : q = n
    · subst hq
      rw [if_neg (Nat.lt_irrefl _)] at ih
      rw [if_pos (Nat.lt_succ_self _), Int.sub_mul]
      omega
    · rw [h n (fun e => hq e.symm)]
      by_cases hlt : q < n
      · rw [if_pos hlt] at ih
        rw [if_pos (by omega)]
        omega
      · rw [if_neg hlt] at ih
        rw [if_neg (by omega)]
        omega
theorem no97 {x r : Int} {j : Nat} (hj : j ≤ 4) (h0 : x ≠ 0) (h1 : -9 ≤ x) (h2 : x ≤ 9) (r1 : 1 ≤ r) (r2 : r ≤ 5) : (x * 10 ^ j * r) % 97 ≠ 0 := by
  have hr : r = 1 ∨ r = 2 ∨ r = 3 ∨ r = 4 ∨ r = 5 := by omega
  have hjj : j = 0 ∨ j = 1 ∨ j = 2 ∨ j = 3 ∨ j = 4 := by omega
  rcases hr with rfl | rfl | rfl | rfl | rfl <;> rcases hjj with rfl | rfl | rfl | rfl | rfl <;> simp only [Int.reducePow] <;> omega
theorem getD_mid {L : List (List UInt8)} {x y : List UInt8} {R : List (List UInt8)} {i : Nat} (h : i ≠ L.length) : (L ++ x :: R).getD i [] = (L ++ y :: R).getD i [] := by
  rcases Nat.lt_or_ge i L.length with hi | hi
  · simp [List.getElem?_append, hi]
  · obtain ⟨k, rfl⟩ : ∃ k, i = L.length + (k + 1) := ⟨i - L.length - 1, by omega⟩
    simp [List.getElem?_append]
theorem getD_at {L : List (List UInt8)} {x : List UInt8} {R : List (List UInt8)} : (L ++ x :: R).getD L.length [] = x := by simp
theorem mid_ne {p q : List UInt8} {c d : UInt8} (h : c ≠ d) : p ++ c :: q ≠ p ++ d :: q := fun e => h (List.cons.inj (List.append_cancel_left e)).1
theorem ev_row {wd rw r i : Nat} {zs : List Int} (hl : zs.length = rw * wd) (hr : r < rw) (hi : i < wd) : (rowOf wd zs r)[i]? = some (ev zs (r * wd + i)) := by
  rw [rowOf_at hi]
  have : (r + 1) * wd ≤ rw * wd := Nat.mul_le_mul_right _ (by omega)
  rw [Nat.add_mul, Nat.one_mul] at this
  exact ev_is (by omega)
theorem spoilt {wd rw wd' rw' : Nat} {zs zs' : List Int} {u v : List UInt8} {c d : UInt8} (hz : ∀ z ∈ zs, 0 ≤ z ∧ z ≤ 99999) (hz' : ∀ z ∈ zs', 0 ≤ z ∧ z ≤ 99999) (hl : zs.length = rw * wd) (hl' : zs'.length = rw' * wd') (w1 : 1 ≤ wd) (w2 : wd ≤ 99999) (r1 : 1 ≤ rw) (r2 : rw ≤ 5) (w3 : wd' ≤ 99999) (r3 : rw' ≤ 99999)
    (h : textP wd rw zs = u ++ c :: v) (hc : digB c = true) (hd : digB d = true) (hne : c ≠ d) : textP wd' rw' zs' ≠ u ++ d :: v := fun h' => by
  have hb : ∀ b : UInt8, digB b = false → c ≠ b ∧ d ≠ b := fun b hb => ⟨(fun e => by rw [e, hb] at hc; cases hc), (fun e => by rw [e, hb] at hd; cases hd)⟩
  obtain ⟨L, p, q, R, e1, e2⟩ := spl_mid 10 c d (hb 10 (by decide)).1 (hb 10 (by decide)).2 v u
  rw [← h, text_spl hz w2 (by omega)] at e1
  rw [← h', text_spl hz' w3 r3] at e2
  have n1 := congrArg List.length e1
  have n2 := congrArg List.length e2
  rw [linesF_len] at n1 n2
  simp only [List.length_append, List.length_cons] at n1 n2
  obtain rfl : rw' = rw := by omega
  have g : ∀ i, i ≠ L.length → (linesF wd rw' zs).getD i [] = (linesF wd' rw' zs').getD i [] := fun i hi => by rw [e1, e2]; exact getD_mid hi
  have g1 : (linesF wd rw' zs).getD L.length [] = p ++ c :: q := by rw [e1]; exact getD_at
  have g2 : (linesF wd' rw' zs').getD L.length [] = p ++ d :: q := by rw [e2]; exact getD_at
  have hbr : ∀ r, ∀ z ∈ rowOf wd zs r, 0 ≤ z ∧ z ≤ 99999 := fun r z h => hz z (rowOf_mem h)
  have hbr' : ∀ r, ∀ z ∈ rowOf wd' zs' r, 0 ≤ z ∧ z ≤ 99999 := fun r z h => hz' z (rowOf_mem h)
  have rowEq : ∀ r, r < rw' → r + 1 ≠ L.length → rowOf wd zs r = rowOf wd' zs' r := fun r hr hk => by
    have e := g (r + 1) hk
    have a := linesF_row (wd := wd) (zs := zs) hr
    have b := linesF_row (wd := wd') (zs := zs') hr
    unfold rowL at a b
    rw [a, b] at e
    have := congrArg wdsF e
    rw [line_wds (hbr r), line_wds (hbr' r)] at this
    rw [← vals_itos (hbr r), this, vals_itos (hbr' r)]
  have lens : ∀ r, r < rw' → r + 1 ≠ L.length → wd = wd' := fun r hr hk => by
    rw [← rowOf_len hl hr, rowEq r hr hk, rowOf_len hl' hr]
  by_cases k0 : L.length = 0
  · have := lens 0 (by omega) (by omega)
    subst this
    rw [k0] at g1 g2
    exact mid_ne hne (g1.symm.trans g2)
  · have h0 := g 0 (fun e => k0 e.symm)
    have hww : wd = wd' := by
      have a : headF wd rw' = headF wd' rw' := h0
      rw [headF_eq, headF_eq] at a
      have a2 := List.append_cancel_left a
      have a3 := List.append_cancel_right (List.append_cancel_right a2)
      have := itoa_inj a3
      omega
    subst hww
    obtain ⟨k, hk⟩ : ∃ k, L.length = k + 1 := ⟨L.length - 1, by omega⟩
    rcases Nat.lt_or_ge k rw' with hkr | hkr
    · have a := linesF_row (wd := wd) (zs := zs) hkr
      have b := linesF_row (wd := wd) (zs := zs') hkr
      unfold rowL at a b
      rw [hk, a] at g1
      rw [hk, b] at g2
      have a2 := line_wds (hbr k)
      have b2 := line_wds (hbr' k)
      obtain ⟨L2, p2, q2, R2, s1, s2⟩ := spl_mid 32 c d (hb 32 (by decide)).1 (hb 32 (by decide)).2 q p
      rw [g1] at a2
      rw [g2] at b2
      unfold wdsF at a2 b2
      rw [if_neg (by simp), s1] at a2
      rw [if_neg (by simp), s2] at b2
      have hi : L2.length < wd := by
        have := congrArg List.length a2
        rw [itosL_len, rowOf_len hl hkr] at this
        simp at this; omega
      have x1 : Lib.itoa (ev zs (k * wd + L2.length)) = p2 ++ c :: q2 := by
        have e := congrArg (fun l => l[L2.length]?) a2
        simp only [itosL, List.getElem?_map, ev_row hl hkr hi] at e
        simpa using e.symm
      have x2 : Lib.itoa (ev zs' (k * wd + L2.length)) = p2 ++ d :: q2 := by
        have e := congrArg (fun l => l[L2.length]?) b2
        simp only [itosL, List.getElem?_map, ev_row hl' hkr hi] at e
        simpa using e.symm
      have kl : k * wd + L2.length < rw' * wd := by
        have : (k + 1) * wd ≤ rw' * wd := Nat.mul_le_mul_right _ (by omega)
        rw [Nat.add_mul, Nat.one_mul] at this
        omega
      have hm := hz _ (List.mem_of_getElem? (ev_is (vs := zs) (p := k * wd + L2.length) (by omega)))
      have hm' := hz' _ (List.mem_of_getElem? (ev_is (vs := zs') (p := k * wd + L2.length) (by omega)))
      have d1 := decV_itoa hm
      have d2 := decV_itoa hm'
      rw [x1] at d1
      rw [x2] at d2
      have hq := (itoa_good hm).2
      rw [x1] at hq
      have hdd := decV_change p2 q2 c d hc hd
      have hev : ∀ n, n ≠ k * wd + L2.length → ev zs n = ev zs' n := fun n hn => by
        rcases Nat.lt_or_ge n (rw' * wd) with hlt | hge
        · have hdm := Nat.div_add_mod n wd
          have hmd : n % wd < wd := Nat.mod_lt _ (by omega)
          have hr : n / wd < rw' := by
            rw [Nat.div_lt_iff_lt_mul (by omega)]; exact hlt
          rw [Nat.mul_comm] at hdm
          have t1 := ev_row hl hr hmd
          have t2 := ev_row hl' hr hmd
          rw [hdm] at t1 t2
          by_cases hnk : n / wd = k
          · have hne2 : n % wd ≠ L2.length := fun e => hn (by rw [← hdm, hnk, e])
            have y1 : (itosL (rowOf wd zs k))[n % wd]? = (itosL (rowOf wd zs' k))[n % wd]? := by
              rw [← a2, ← b2]
              rcases Nat.lt_or_ge (n % wd) L2.length with h1 | h1
              · rw [List.getElem?_append_left h1, List.getElem?_append_left h1]
              · obtain ⟨m, hm⟩ : ∃ m, n % wd = L2.length + (m + 1) := ⟨n % wd - L2.length - 1, by omega⟩
                rw [hm]
                simp [List.getElem?_append]
            rw [hnk] at t1 t2
            simp only [itosL, List.getElem?_map, t1, t2, Option.map_some, Option.some.injEq] at y1
            exact itoa_inj y1
          · have := rowEq (n / wd) hr (by omega)
            rw [this, t2] at t1
            exact (Option.some.inj t1).symm
        · unfold ev
          rw [List.getD_eq_getElem?_getD, List.getD_eq_getElem?_getD, List.getElem?_eq_none (by omega), List.getElem?_eq_none (by omega)]
      have hs := sum_diff (wd := (wd : Int)) hev (rw' * wd)
      rw [if_pos kl] at hs
      have he := g (rw' + 1) (by omega)
      rw [linesF_end, linesF_end] at he
      have h97 := endW_inj he
      rw [hl, hl'] at h97
      have hdiv : ((k * wd + L2.length : Nat) : Int) / (wd : Int) = k := by
        have e : (k * wd + L2.length) / wd = k := by
          rw [Nat.mul_comm, Nat.mul_add_div (by omega), Nat.div_eq_of_lt hi]; omega
        have e2 := congrArg (fun n : Nat => (n : Int)) e
        rwa [Int.natCast_ediv] at e2
      rw [hdiv, ← d1, ← d2, hdd] at hs
      have hc' := hc
      have hd' := hd
      simp only [digB, Bool.and_eq_true, decide_eq_true_eq] at hc' hd'
      have hcd : (c.toNat : Int) - d.toNat ≠ 0 := fun e => hne (UInt8.toNat_inj.1 (by omega))
      have := no97 (x := (c.toNat : Int) - d.toNat) (r := 1 + k) (j := q2.length) (by simp at hq; omega) hcd (by omega) (by omega) (by omega) (by omega)
      rw [← hs] at this
      omega
    · have hzz : zs = zs' := by
        apply List.ext_getElem?
        intro n
        rcases Nat.lt_or_ge n (rw' * wd) with hlt | hge
        · have hdm := Nat.div_add_mod n wd
          have hmd : n % wd < wd := Nat.mod_lt _ (by omega)
          have hr : n / wd < rw' := by rw [Nat.div_lt_iff_lt_mul (by omega)]; exact hlt
          rw [Nat.mul_comm] at hdm
          have := rowEq (n / wd) hr (by omega)
          have t := congrArg (fun l => l[n % wd]?) this
          simp only [rowOf_at hmd, hdm] at t
          exact t
        · rw [List.getElem?_eq_none (by omega), List.getElem?_eq_none (by omega)]
      subst hzz
      exact mid_ne hne (g1.symm.trans g2)

end PartOfTgd

section PartOfPsp
open Go.RowKit Go.Maps
theorem index_one (b c : UInt8) (l : List UInt8) : Lib.index (c :: l) [b] = if c = b then 0 else if Lib.index l [b] = -1 then -1 else Lib.index l [b] + 1 := by
  have e : ([b] : List UInt8).isPrefixOf (c :: l) = decide (c = b) := by
    simp only [List.isPrefixOf, Bool.and_true]
    by_cases h : c = b
    · subst h; simp
    · have h' : (b == c) = false := by simpa using fun e => h e.symm
      rw [h']
      simp [h]
  rw [Lib.index, e]
  by_cases h : c = b <;> simp [h]
theorem index_no (b : UInt8) (l : List UInt8) (h : b ∉ l) : Lib.index l [b] = -1 := by
  induction l with
  | nil => rfl
  | cons c l ih =>
    have h1 : c ≠ b := fun e => h (by simp [e])
    rw [index_one, if_neg h1, if_pos (ih fun e => h (List.mem_cons_of_mem _ e))]
theorem index_at (b : UInt8) (u l : List UInt8) (h : b ∉ u) : Lib.index (u ++ b :: l) [b] = u.length := by
  induction u with
  | nil => rw [List.nil_append, index_one, if_pos rfl]; rfl
  | cons c u ih =>
    have h1 : c ≠ b := fun e => h (by simp [e])
    have e := ih fun e => h (List.mem_cons_of_mem _ e)
    rw [List.cons_append, index_one, if_neg h1, e, if_neg (by omega), List.length_cons]
    omega
theorem split_mem (b : UInt8) : ∀ l : List UInt8, b ∈ l → ∃ u v, l = u ++ b :: v ∧ b ∉ u
  | [], h => by cases h
  | c :: l, h => by
    by_cases e : c = b
    · subst e; exact ⟨[], l, rfl, by simp⟩
    · obtain ⟨u, v, rfl, hu⟩ := split_mem b l (by simpa [Ne.symm e] using h)
      exact ⟨c :: u, v, rfl, by simp [Ne.symm e, hu]⟩
/-- strings.Cut at a byte. -/
theorem cut_at (b : UInt8) (u l : List UInt8) (h : b ∉ u) : Lib.cut (u ++ b :: l) [b] = (u, l, true) := by
  unfold Lib.cut
  rw [index_at b u l h, if_pos (by omega)]
  simp [List.drop_append]
theorem cut_no (b : UInt8) (l : List UInt8) (h : b ∉ l) : Lib.cut l [b] = (l, [], false) := by
  unfold Lib.cut
  rw [index_no b l h, if_neg (by omega)]
theorem countFrom_no (b : UInt8) (l : List UInt8) (h : b ∉ l) (f : Nat) : Lib.countFrom [b] f l = 0 := by
  cases f with
  | zero => rfl
  | succ f => rw [Lib.countFrom, index_no b l h]; rfl
/-- strings.Split at a byte. -/
theorem splitK_spl (b : UInt8) : ∀ (n : Nat) (l : List UInt8), l.length ≤ n → ∀ f, l.length < f → Lib.splitK [b] 0 (Lib.countFrom [b] f l) l = spl b l
  | n, l, hn, f, hf => by
    by_cases h : b ∈ l
    · obtain ⟨u, v, rfl, hu⟩ := split_mem b l h
      obtain ⟨f, rfl⟩ : ∃ g, f = g + 1 := ⟨f - 1, by omega⟩
      have hi := index_at b u v hu
      have hl : (u ++ b :: v).length = u.length + 1 + v.length := by simp; omega
      have hd : (u ++ b :: v).drop ((Lib.index (u ++ b :: v) [b]).toNat + 1) = v := by
        rw [hi]
        simp [List.drop_append]
      have hc : Lib.countFrom [b] (f + 1) (u ++ b :: v) = Lib.countFrom [b] f v + 1 := by
        rw [Lib.countFrom, if_neg (by rw [hi]; simp), List.length_singleton, hd]
        omega
      rw [hc, Lib.splitK, if_neg (by rw [hi]; simp), List.length_singleton, hd, spl_app b u v hu]
      obtain ⟨n, rfl⟩ : ∃ m, n = m + 1 := ⟨n - 1, by omega⟩
      rw [splitK_spl b n v (by omega) f (by omega), hi]
      simp
    · rw [countFrom_no b l h, spl_no b l h]
      rfl
theorem split_spl (b : UInt8) (l : List UInt8) : Lib.split l [b] = spl b l := splitK_spl b l.length l (Nat.le_refl _) _ (Nat.lt_succ_self _)

def MxL (w : World) (m : Int) : Prop := 0 < w.heap.size ∧ w.cell? ⟨0, 0, none⟩ = some (.int .i64 m)
theorem MxL.below {w w' : World} {m : Int} (h : MxL w m) (hb : Below w.heap.size w w') : MxL w' m :=
  ⟨Nat.lt_of_lt_of_le h.1 hb.size, (hb.cell (p := ⟨_, 0, none⟩) h.1).trans h.2⟩
theorem pieces (row : List UInt8) : (Lib.splitB ⟨#[32]⟩ 0 (Lib.countB ⟨row.toArray⟩ ⟨#[32]⟩) ⟨row.toArray⟩).map Value.string = (spl 32 row).map str := by
  have e := Lib.splitB_data ⟨#[32]⟩ 0 (Lib.countB ⟨row.toArray⟩ ⟨#[32]⟩) ⟨row.toArray⟩
  have e2 : Lib.splitK [32] 0 (Lib.countB ⟨row.toArray⟩ ⟨#[32]⟩) row = spl 32 row := split_spl 32 row
  have e3 := e.trans e2
  rw [← e3, List.map_map]
  refine List.map_congr_left fun p _ => ?_
  simp [str]
theorem pieces_len (row : List UInt8) : (spl 32 row).length = Lib.countB ⟨row.toArray⟩ ⟨#[32]⟩ + 1 := by
  have e := Lib.splitB_all ⟨#[32]⟩ (by decide) 0 _ ⟨row.toArray⟩ rfl
  rw [← e]
  have := congrArg List.length (pieces row)
  simpa using this.symm
theorem MxL.alloc {w : World} {m : Int} (h : MxL w m) (o : Obj) : MxL (w.alloc o) m := h.below ((Below.refl _ _).alloc (Nat.le_refl _) _)
theorem MxL.dn {w : World} {m : Int} (h : MxL w m) (n : Nat) : MxL (w.drewN n) m := h
set_option maxHeartbeats 4000000 in
set_option maxRecDepth 100000 in
theorem split_any (l : List UInt8) (w : World) (m : Int) (hm : MxL w m) (hl : l.length ≤ 800) :
    Calls Tryz.prog 114 #[str l] w fun e w' => NumsN w (wdsF l) e w' := by
  by_cases h0 : l = []
  · subst h0
    go_enter Tryz.func114, Tryz.ntmps114
    go_wp2_with fail
    go_ret2
    exact ⟨Below.refl _ _, .inl ⟨fun x h => by simp [wdsF] at h, none, 0, rfl, World.ownsRow_nil ..⟩⟩
  have HW := Lib.hid (show wdsF l = spl 32 l by unfold wdsF; rw [if_neg h0])
  have hb : (l == []) = false := by simpa using h0
  have HM := Lib.hid hm
  have HP := Lib.hid (pieces l)
  have HPL := Lib.hid (pieces_len l)
  have hlen : (spl 32 l).length ≤ 801 := by
    have := spl_len 32 l
    omega
  have hw1 : 0 < (spl 32 l).length := List.length_pos_iff.2 (spl_ne 32 l)
  have HXL : Hid (∀ x ∈ spl 32 l, x.length ≤ 3200) := Lib.hid (fun x hx => by
    have q : ∀ ws : List (List UInt8), ∀ y ∈ ws, y.length ≤ (Lib.join ws [32]).length := fun ws => by
      induction ws with
      | nil => simp
      | cons a r ih =>
        intro y hy
        cases r with
        | nil =>
          have : Lib.join [a] [32] = a := by simp [Lib.join, List.intercalate]
          rw [this]
          simp at hy; rw [hy]; exact Nat.le_refl _
        | cons c r =>
          have e : Lib.join (a :: c :: r) [32] = a ++ 32 :: Lib.join (c :: r) [32] := by simp [Lib.join, List.intercalate, List.intersperse]
          rw [e, List.length_append, List.length_cons]
          rcases List.mem_cons.1 hy with rfl | hy
          · omega
          · have := ih y hy; omega
    have := q _ x hx
    rw [spl_join] at this
    omega)
  clear hm h0
  have hRW := (RW.start (Frm.nil w)).nil 3 1
  rw [HW.out]
  clear HW
  generalize spl 32 l = ws at *
  go_enter Tryz.func114, Tryz.ntmps114
  go_wp2_with fail
  refine (Tryz.strings_Split _ _ m _ (by show l.length < 4294967281; omega) HM.out.2 (by decide)).mono ?_
  rintro e w1 ⟨rfl, rfl⟩
  rw [HP.out]
  simp only [← HPL.out]
  have HR := Lib.hid (hRW.add (.cells (ws.map str).toArray 9) rfl)
  clear hRW HP HPL
  go_wp2_with fail
  go_loopw [4, 14] (fun v i wr => ∃ n E ec, n ≤ ws.length ∧ i = .int .i64 (n : Int) ∧ v = .slice E n ec ∧ (∀ x ∈ ws.take n, goodN x) ∧ RW w w.heap.size [(w.heap.size, .cells (ws.map str).toArray 9)] [rwI (.slice E n ec) n (valsF (ws.take n))] wr) (fun _ i _ => ws.length - (intOf i).toNat)
  case atStart => exact ⟨0, none, 0, Nat.zero_le _, rfl, rfl, by simp, HR.out⟩
  case round =>
    obtain ⟨n, E, ec, hnn, rfl, rfl, hall, hF⟩ := hrel
    clear HR
    have HR := Lib.hid hF
    have HA := Lib.hid hall
    clear hF hall
    by_cases hlt : n < ws.length
    · have hlt2 : (n : Int) < ws.length := by omega
      obtain ⟨x, hx⟩ : ∃ x, ws[n]? = some x := ⟨_, List.getElem?_eq_getElem hlt⟩
      have hxm := List.mem_of_getElem? hx
      have c0 : wr.cell? ⟨w.heap.size, n, none⟩ = some (str x) := by rw [HR.out.frm.cells (List.mem_cons_self ..) n]; simp [hx]
      have hxl := HXL.out x hxm
      have HX := Lib.hid hx
      have HXM := Lib.hid hxm
      clear hx hxm
      by_cases hg : goodN x
      · have HG := Lib.hid hg
        have HNM : Hid (∀ W, Calls Tryz.prog 148 #[str x] W fun e w' => e = .returned (.tuple #[.int .i64 (decV x : Nat), .bool true]) ∧ Below W.heap.size W w') := Lib.hid (fun W => (num_any x W hxl).mono fun e w' ⟨hb, h⟩ => by
          rcases h with ⟨_, he⟩ | ⟨hno, _⟩
          · exact ⟨he, hb⟩
          · exact absurd HG.out hno)
        have HV := Lib.hid (valsF_snoc HX.out)
        clear hg
        go_wp2_with (first | (go_at_call 148; refine (HNM.out _).mono ?_; rintro e wa ⟨rfl, hba⟩; have HRq := Lib.hid (HR.out.below hba); clear HR c0 hba; have HR := HRq; clear HRq) | (at_builtin; go_must (refine RW.lapp_int (y := (decV x : Nat)) (by rfl) _ _ (by rfl) (HR.out.add (.cells #[.int .i64 (decV x : Nat)] 3) rfl) (by rw [valsF_len, List.length_take]; omega) (by rfl) (by rfl) (List.mem_cons_self ..) (by omega) ?_); intro g cap wb hRn; have HRq := Lib.hid (RW.less (bs' := [(w.heap.size, .cells (ws.map str).toArray 9)]) hRn (by simp)); clear HR hRn; have HR := HRq; clear HRq))
        go_roundw
        case rel => exact ⟨n + 1, some ⟨g, 0, none⟩, cap, by omega, by go_num, rfl, fun y hy => by
          rw [List.take_add_one, HX.out] at hy
          rcases List.mem_append.1 hy with h | h
          · exact HA.out y h
          · have e : y = x := by simpa [eq_comm] using h
            rw [e]; exact HG.out, by rw [HV.out]; exact HR.out⟩
        case measure => simp [intOf]; omega
      · have HG := Lib.hid hg
        have HNM : Hid (∀ W, Calls Tryz.prog 148 #[str x] W fun e w' => ∃ k : Int, e = .returned (.tuple #[.int .i64 k, .bool false]) ∧ Below W.heap.size W w') := Lib.hid (fun W => (num_any x W hxl).mono fun e w' ⟨hb, h⟩ => by
          rcases h with ⟨hy, _⟩ | ⟨_, k, he⟩
          · exact absurd hy HG.out
          · exact ⟨k, he, hb⟩)
        clear hg
        go_wp2_with (go_at_call 148; refine (HNM.out _).mono ?_; rintro e wa ⟨k, rfl, hba⟩; have HRq := Lib.hid (HR.out.below hba); clear HR c0 hba; have HR := HRq; clear HRq)
        go_ret2
        exact ⟨HR.out.frm.b, .inr ⟨⟨x, HXM.out, HG.out⟩, rfl⟩⟩
    · obtain rfl : n = ws.length := by omega
      have HT := Lib.hid (show ws.take ws.length = ws from List.take_length)
      go_wp2_with fail
      go_ret2
      refine ⟨HR.out.frm.b, .inl ⟨by have := HA.out; rwa [HT.out] at this, E, ec, rfl, ?_⟩⟩
      have := HR.out.own _ (List.mem_cons_self ..)
      rw [HT.out] at this
      exact this

end PartOfPsp

section PartOfPap
open Go.RowKit Go.Maps
theorem append_nil (t : TypeId) (W : World) : (Builtin.append_ #[25, 25] t #[.slice none 0 0, .slice none 0 0]).run Tryz.prog W = .ok (.slice none 0 0) W := by
  obtain ⟨i0, hi0, hz0, hz1, hz2⟩ := info_parts Tryz.infoInt
  simp [Builtin.append_, run_underlying Tryz.underlying25, sizeOf, typeInfo, hi0, Builtin.lenOf, Builtin.firstCells, storeCells]
theorem lapp_nil {W : World} {ops : Array Oper} {l : List Oper} {o : Oper} {a : Act} {Q : Exit → Act → World → Prop} (hgd : o.guard = none) (s x : Operand) (ho : o.op = .call { callee := .builtin .append, args := #[s, x], argTypes := #[25, 25] })
    (hs : a.eval s = .slice none 0 0) (hx : a.eval x = .slice none 0 0) (hk : wpList Tryz.prog ops Q l (a.put o.dst (.slice none 0 0)) W) : wpList Tryz.prog ops Q (o :: l) a W :=
  wpList_plain hgd fun _ hK => by
    unfold Oper.wp execOp
    simp only [ho, resolve, invoke, builtin, Sem.run_bind, Sem.run_pure, Result.andThen_ok, List.map_toArray, List.map_cons, List.map_nil, hs, hx, append_nil]
    exact hK _ _ hk
theorem split_nil (w : World) : Calls Tryz.prog 114 #[str []] w fun e w' => e = .returned (.tuple #[.slice none 0 0, .bool true]) ∧ Below w.heap.size w w' := by
  go_enter Tryz.func114, Tryz.ntmps114
  go_wp2_with fail
  go_ret2
  exact ⟨rfl, Below.refl _ _⟩
theorem RW.app_ints {w W : World} {base n k c b off : Nat} {bs : List (Nat × Obj)} {rest : List Rw} {v : Value} {L T : List Int} {o : Oper} {a : Act} {K : Act → World → Prop} {Q : Exit → Act → World → Prop} (s x : Operand) (ho : o.op = .call { callee := .builtin .append, args := #[s, x], argTypes := #[25, 25] })
    (h : RW w base bs (rwI v n L :: rest) W) (hn : L.length = n) (hs : a.eval s = v) (hx : a.eval x = .slice (some ⟨b, off, none⟩) k c) (hT : T.length = k) (h0 : 0 < k) (hat : ∀ (j : Nat) z, T[j]? = some z → W.cell? ⟨b, off + j, none⟩ = some (.int .i64 z)) (hl : n + k ≤ 1000)
    (hk : ∀ g cap W1, RW w base bs (rwI (.slice (some ⟨g, 0, none⟩) (n + k) cap) (n + k) (L ++ T) :: rest) W1 → K (a.put o.dst (.slice (some ⟨g, 0, none⟩) (n + k) cap)) W1) : o.wp Tryz.prog a W K Q := by
  obtain ⟨i0, hi0, hz0, hz1, hz2⟩ := info_parts Tryz.infoInt
  refine wp_append_lies W s x _ ho base 3 i0 _ 1 8 Tryz.underlying25 hi0 hz0 hz1 hz2 rfl (by omega) v n (vI L) hs (h.own _ (List.mem_cons_self ..)) ⟨b, off, none⟩ k c (vI T) hx (by rw [vI_len, hT]; omega) (fun j z hj => ?_) (fun z hz => by
    obtain ⟨y, _, rfl⟩ := List.mem_map.1 hz
    rfl) h0 (by unfold maxLen; omega) (by omega) h.hi _ rfl ?_
  · rw [Go.WideShapes.add_plain]
    unfold vI at hj
    rw [List.getElem?_map] at hj
    cases hq : T[j]? with
    | none => rw [hq] at hj; cases hj
    | some y => rw [hq] at hj; cases hj; exact hat j y hq
  · intro g cap w1 hown1 hgrow hat1 hlt
    refine hk g cap w1 (h.app hgrow ?_ fun k' hk' => ?_)
    · show w1.ownsRow base 3 1 (.slice (some ⟨g, 0, none⟩) (n + k) cap) (n + k) (vI (L ++ T))
      rw [show vI (L ++ T) = vI L ++ vI T by simp [vI]]; exact hown1
    · obtain rfl : g = k' := by simpa [Value.ownBlock] using hk'
      exact hat1
theorem RW.lapp_ints {w W : World} {base n k c b off : Nat} {bs : List (Nat × Obj)} {rest : List Rw} {v : Value} {L T : List Int} {ops : Array Oper} {l : List Oper} {o : Oper} {a : Act} {Q : Exit → Act → World → Prop} (hgd : o.guard = none) (s x : Operand) (ho : o.op = .call { callee := .builtin .append, args := #[s, x], argTypes := #[25, 25] })
    (h : RW w base bs (rwI v n L :: rest) W) (hn : L.length = n) (hs : a.eval s = v) (hx : a.eval x = .slice (some ⟨b, off, none⟩) k c) (hT : T.length = k) (h0 : 0 < k) (hat : ∀ (j : Nat) z, T[j]? = some z → W.cell? ⟨b, off + j, none⟩ = some (.int .i64 z)) (hl : n + k ≤ 1000)
    (hk : ∀ g cap W1, RW w base bs (rwI (.slice (some ⟨g, 0, none⟩) (n + k) cap) (n + k) (L ++ T) :: rest) W1 → wpList Tryz.prog ops Q l (a.put o.dst (.slice (some ⟨g, 0, none⟩) (n + k) cap)) W1) : wpList Tryz.prog ops Q (o :: l) a W :=
  wpList_plain hgd fun _ hK => RW.app_ints s x ho h hn hs hx hT h0 hat hl fun g cap W1 hr => hK _ _ (hk g cap W1 hr)
theorem own_cap {w : World} {base n ec : Nat} {E : Option Addr} {L : List Value} (h : w.ownsRow base 3 1 (.slice E n ec) n L) : ec ≤ maxLen := by
  rcases h.2 with ⟨hv, _⟩ | ⟨g, cap, cur, hv, hb0, hg, h1, h2, h3, h4⟩
  · cases hv; unfold maxLen; omega
  · cases hv; exact h2

end PartOfPap
end Go.Proofs.YtpkmojcppdogkaaGreatDoor
