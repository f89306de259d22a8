/- The reference: how texts are written and read. -/
import Derived.Test.YtiindlbllhbofaaGreatDoorLin
import Derived.Laws.IdiomStrings
import Derived.Test.YtiindlbllhbofaaGreatDoorRda
import Derived.Test.YtiindlbllhbofaaGreatDoorRdc
set_option linter.unusedVariables false
set_option linter.unusedSimpArgs false
namespace Go.Proofs.YtiindlbllhbofaaGreatDoor
open Go.RowKit

/-- What stands of a number's figures but the last one. -/
def preD (n : Nat) : List UInt8 := if n < 10 then [] else Lib.decDigits (n / 10)
/-- A number's last figure. -/
def digC (n : Nat) : UInt8 := UInt8.ofNat (48 + n % 10)
theorem dec_pre (n : Nat) : Lib.decDigits n = preD n ++ [digC n] := by
  unfold preD digC
  by_cases h : n < 10
  · rw [Lib.decDigits, dif_pos h, if_pos h, Nat.mod_eq_of_lt h]
    rfl
  · rw [Lib.decDigits, dif_neg h, if_neg h]
theorem preD_step {n : Nat} (h : 10 ≤ n) : preD n = preD (n / 10) ++ [digC (n / 10)] := by
  rw [← dec_pre]
  unfold preD
  rw [if_neg (by omega)]
theorem preD_small {n : Nat} (h : n < 10) : preD n = [] := by
  unfold preD
  rw [if_pos h]


theorem digit_byte (n : Nat) : 48 + (n : Int) % 10 = ((digC n).toNat : Int) := by
  unfold digC
  rw [UInt8.toNat_ofNat']
  omega
theorem one_back (W : World) (x : Int) (d : UInt8) (h : x = (d.toNat : Int)) :
    (convert 128 9 (.slice (some ⟨W.heap.size, 0, none⟩) 1 1)).run Tryz.prog (W.alloc (.cells #[.int .u8 x] 5)) = .ok (str [d]) (W.alloc (.cells #[.int .u8 x] 5)) := by
  refine run_convert_bytes_back (P := Tryz.prog) _ 128 9 5 ⟨W.heap.size, 0, none⟩ 1 [d] Tryz.underlying128 (by kernel_rfl) (by kernel_rfl) (fun j hj => ?_)
  obtain rfl : j = 0 := by simpa using hj
  rw [Go.WideShapes.add_plain, (boxCells (heap_new W _ rfl)).1, h]
  rfl
theorem dec_len (u : Nat) (h1 : u ≤ 1000000000000000) : (Lib.decDigits u).length ≤ 21 := by
  have := Lib.itoa_length_le (u : Int) (by omega) (by omega)
  rwa [Lib.itoa_nonneg] at this
set_option maxHeartbeats 1000000 in
set_option maxRecDepth 100000 in
theorem rDec_pos (u : Nat) (w : World) (h1 : u ≤ 1000000000000000) :
    Calls Tryz.prog 55 #[.int .i64 (u : Int)] w fun e w' => e = .returned (str (Lib.decDigits u)) ∧ Below w.heap.size w w' := by
  have HL := Lib.hid (dec_len u h1)
  have HP := Lib.hid (dec_pre u)
  go_enter Tryz.func55, Tryz.ntmps55
  go_upto_region 3 with fail
  have e1 := one_back w _ _ (digit_byte u)
  go_upto_region 4 with fail
  clear e1
  go_loopw [0, 3] (fun a s wr => ∃ (k : Nat) (l : List UInt8), k ≤ u ∧ a = .int .i64 (k : Int) ∧ s = str l ∧ Lib.decDigits u = preD k ++ l ∧ Below w.heap.size w wr) (fun a _ _ => (intOf a).toNat)
  case atStart => exact ⟨u, _, Nat.le_refl _, rfl, rfl, HP.out, below_al (Below.refl _ _) _⟩
  case round =>
    obtain ⟨k, l, hk, rfl, rfl, hd, hb⟩ := hrel
    have HD := Lib.hid hd
    have HB := Lib.hid hb
    have hl : l.length ≤ 21 := by
      have q := HL.out
      rw [hd, List.length_append] at q
      omega
    clear hd hb
    by_cases h10 : 10 ≤ k
    · have e1 := one_back wr (48 + (k : Int) / 10 % 10) (digC (k / 10)) (by rw [← digit_byte]; omega)
      go_wp2_with fail
      go_roundw
      case rel => exact ⟨k / 10, _, by omega, by go_num, str_app _ _, by rw [HD.out, preD_step h10, List.append_assoc], below_al HB.out _⟩
      case measure => simp [intOf]; omega
    · have HK := Lib.hid (preD_small (n := k) (by omega))
      go_wp2_with fail
      go_ret
      exact ⟨by rw [HD.out, HK.out]; rfl, HB.out⟩
set_option maxHeartbeats 1000000 in
set_option maxRecDepth 100000 in
theorem rDec_any (n : Int) (w : World) (h0 : -1000000000000000 ≤ n) (h1 : n ≤ 1000000000000000) :
    Calls Tryz.prog 55 #[.int .i64 n] w fun e w' => e = .returned (str (Lib.itoa n)) ∧ Below w.heap.size w w' := by
  by_cases hn : 0 ≤ n
  · obtain ⟨u, rfl⟩ : ∃ u : Nat, n = u := ⟨n.toNat, by omega⟩
    rw [Lib.itoa_nonneg]
    exact rDec_pos u w (by omega)
  · obtain ⟨u, hu⟩ : ∃ u : Nat, -n = u := ⟨(-n).toNat, by omega⟩
    have HI := Lib.hid (show Lib.itoa n = 45 :: Lib.decDigits u by
      rw [show n = -(u : Int) by omega, Lib.itoa_neg _ (by omega)])
    have HC : Hid (∀ W, Calls Tryz.prog 55 #[.int .i64 (-n)] W fun e w' => e = .returned (str (Lib.decDigits u)) ∧ Below W.heap.size W w') := Lib.hid (fun W => by
      rw [hu]
      exact rDec_pos u W (by omega))
    have hl := dec_len u (by omega)
    clear hu
    go_enter Tryz.func55, Tryz.ntmps55
    go_wp2_with (go_at_call 55; refine (HC.out _).mono ?_; rintro e w1 ⟨rfl, hb1⟩)
    go_ret
    exact ⟨by rw [HI.out]; exact congrArg Ending.returned (str_app [45] _), hb1⟩

open Go.RowKit

theorem join_snoc (x : List UInt8) : ∀ ws : List (List UInt8), ws ≠ [] → Lib.join (ws ++ [x]) [32] = Lib.join ws [32] ++ 32 :: x
  | [], h => absurd rfl h
  | [w], _ => by simp [Lib.join, List.intercalate, List.intersperse]
  | w :: v :: ws, _ => by
    have e : ∀ l : List (List UInt8), Lib.join (w :: v :: l) [32] = w ++ 32 :: Lib.join (v :: l) [32] := fun l => by simp [Lib.join, List.intercalate, List.intersperse]
    have q := join_snoc x (v :: ws) (by simp)
    rw [List.cons_append, List.cons_append, e, e]
    rw [List.cons_append] at q
    rw [q]
    simp
theorem words_take {r : Rdg} {k : Nat} {x : List UInt8} (h : (wordsF r)[k]? = some x) (hk : 1 ≤ k) : Lib.join ((wordsF r).take (k + 1)) [32] = Lib.join ((wordsF r).take k) [32] ++ 32 :: x := by
  rw [List.take_add_one, h, Option.toList_some, join_snoc]
  intro e
  have q := congrArg List.length e
  have h10 : (wordsF r).length = 10 := rfl
  rw [List.length_take, h10, List.length_nil] at q
  omega

theorem itoa_digit {n : Int} (h0 : 0 ≤ n) (h1 : n < 10) : Lib.itoa n = [UInt8.ofNat (48 + n.toNat)] := by
  obtain ⟨k, rfl⟩ : ∃ k : Nat, n = k := ⟨n.toNat, by omega⟩
  rw [Lib.itoa_nonneg, Lib.decDigits, dif_pos (by omega)]
  rfl
theorem end_parts {x : Int} (h0 : 0 ≤ x) (h1 : x < 100) : (Lib.itoa (100 + x)).drop 1 = Lib.itoa (x / 10) ++ Lib.itoa (x % 10) := by
  obtain ⟨n, rfl⟩ : ∃ n : Nat, x = n := ⟨x.toNat, by omega⟩
  have e : Lib.decDigits (100 + n) = [49, UInt8.ofNat (48 + (100 + n) / 10 % 10), UInt8.ofNat (48 + (100 + n) % 10)] := by
    rw [Lib.decDigits, dif_neg (by omega), Lib.decDigits, dif_neg (by omega), Lib.decDigits, dif_pos (by omega)]
    rw [show (100 + n) / 10 / 10 = 1 by omega]
    rfl
  rw [show (100 + (n : Int)) = ((100 + n : Nat) : Int) by omega, Lib.itoa_nonneg, e, itoa_digit (by omega) (by omega), itoa_digit (by omega) (by omega)]
  have e1 : (100 + n) / 10 % 10 = ((n : Int) / 10).toNat := by omega
  have e2 : (100 + n) % 10 = ((n : Int) % 10).toNat := by omega
  rw [e1, e2]
  rfl
theorem endF_parts (l : List UInt8) : endF l = [101, 110, 100, 32] ++ Lib.itoa ((digs l).1 % 97 / 10) ++ Lib.itoa ((digs l).1 % 97 % 10) ++ [10] := by
  have h := (digs_bd l).1
  unfold endF checkF
  rw [end_parts (by omega) (by omega)]
  simp

/-- What is left to be cut of a text. -/
theorem spl_at {b : UInt8} {s : List UInt8} {f i : Nat} {L : List (List UInt8)} (h : spl b s = L ++ spl b (s.drop f)) (hf : f ≤ i) (hi : i < s.length) (hb : s[i] = b) (hno : b ∉ (s.drop f).take (i - f)) :
    spl b s = (L ++ [(s.drop f).take (i - f)]) ++ spl b (s.drop (i + 1)) := by
  have e : s.drop f = (s.drop f).take (i - f) ++ b :: s.drop (i + 1) := by
    have q := (List.take_append_drop (i - f) (s.drop f)).symm
    rw [List.drop_drop, show f + (i - f) = i by omega, List.drop_eq_getElem_cons hi, hb] at q
    exact q
  rw [h]
  conv => lhs; rw [e]
  rw [spl_app _ _ _ hno]
  simp
theorem spl_on {b : UInt8} {s : List UInt8} {f i : Nat} (hf : f ≤ i) (hi : i < s.length) (hb : s[i] ≠ b) (hno : b ∉ (s.drop f).take (i - f)) : b ∉ (s.drop f).take (i + 1 - f) := by
  rw [show i + 1 - f = i - f + 1 by omega, List.take_add_one]
  intro h
  rcases List.mem_append.1 h with h | h
  · exact hno h
  · rw [List.getElem?_drop, show f + (i - f) = i by omega, List.getElem?_eq_getElem hi] at h
    simp at h
    exact hb h.symm
theorem spl_last {b : UInt8} {s : List UInt8} {f : Nat} {L : List (List UInt8)} (h : spl b s = L ++ spl b (s.drop f)) (hno : b ∉ (s.drop f).take (s.length - f)) : spl b s = L ++ [s.drop f] := by
  rw [List.take_of_length_le (by simp)] at hno
  rw [h, spl_no _ _ hno]
theorem spl_len (b : UInt8) (l : List UInt8) : (spl b l).length ≤ l.length + 1 := by
  induction l with
  | nil => simp [spl]
  | cons c l ih =>
    rw [spl_cons]
    split
    · simp; omega
    · split
      · simp
      · next w ws hs =>
        rw [hs] at ih
        simp at ih ⊢
        omega
theorem letF_one (cl : Int) : ∃ c, letF cl = [c] ∧ (c = 114 ∨ c = 115 ∨ c = 101) := by
  rcases letF_cases cl with h | h | h <;> rw [h]
  · exact ⟨_, rfl, .inl rfl⟩
  · exact ⟨_, rfl, .inr (.inl rfl)⟩
  · exact ⟨_, rfl, .inr (.inr rfl)⟩

open Go.RowKit

def endRow (l : List UInt8) : List UInt8 := [101, 110, 100, 32] ++ (Lib.itoa (checkF l)).drop 1
theorem endF_row (l : List UInt8) : endF l = endRow l ++ [10] := rfl
theorem endRow_feed (l : List UInt8) : 10 ∉ endRow l := by
  intro h
  unfold endRow at h
  rcases List.mem_append.1 h with h | h
  · revert h; decide
  · exact itoa_not (b := 10) (by decide) (by decide) (List.mem_of_mem_drop h)
theorem lines_spl (t : List UInt8) : ∀ rs : List Rdg, spl 10 (linesF rs ++ t) = rs.map rowF ++ spl 10 t
  | [] => by simp [linesF]
  | r :: rs => by
    rw [lines_cons, lineF_row, List.append_assoc, List.append_assoc, List.singleton_append, spl_app _ _ _ (row_feed r), lines_spl t rs]
    rfl
theorem text_spl (rs : List Rdg) : spl 10 (textF rs) = rs.map rowF ++ [endRow (linesF rs), []] := by
  unfold textF
  rw [lines_spl, endF_row, spl_app _ _ _ (endRow_feed _)]
  rfl
theorem isText_rows {s : List UInt8} (h : IsText s) : ∃ rs t, AllPr rs ∧ s = textF rs ∧ spl 10 s = rs.map rowF ++ [t, []] := by
  obtain ⟨rs, ha, rfl⟩ := h
  exact ⟨rs, _, ha, rfl, text_spl rs⟩
/-- A line of a text that is none of a reading. -/
theorem not_line {s : List UInt8} {i : Nat} {x : List UInt8} (hi : i + 2 < (spl 10 s).length) (hx : (spl 10 s)[i]? = some x) (hn : ¬ ∃ r, PrR r ∧ x = rowF r) : ¬ IsText s := fun h => by
  obtain ⟨rs, t, ha, -, e⟩ := isText_rows h
  rw [e] at hi hx
  have hl : i < rs.length := by simp at hi; omega
  rw [List.getElem?_append_left (by simpa using hl), List.getElem?_map, List.getElem?_eq_getElem hl] at hx
  exact hn ⟨rs[i], ha _ (List.getElem_mem hl), by simpa using hx.symm⟩
theorem rows_inj : ∀ {a b : List Rdg}, AllPr a → AllPr b → a.map rowF = b.map rowF → a = b
  | [], [], _, _, _ => rfl
  | [], _ :: _, _, _, h => by simp at h
  | _ :: _, [], _, _, h => by simp at h
  | r :: a, t :: b, ha, hb, h => by
    rw [List.map_cons, List.map_cons] at h
    obtain ⟨h1, h2⟩ := List.cons.inj h
    rw [row_inj (ha r (by simp)) (hb t (by simp)) h1, rows_inj (fun x hx => ha x (List.mem_cons_of_mem _ hx)) (fun x hx => hb x (List.mem_cons_of_mem _ hx)) h2]
/-- What was read is not the text again: it is no text. -/
theorem not_again {s : List UInt8} {rs : List Rdg} (ha : AllPr rs) (h : (spl 10 s).take ((spl 10 s).length - 2) = rs.map rowF) (hne : textF rs ≠ s) : ¬ IsText s := fun ht => by
  obtain ⟨l, t, hl, rfl, e⟩ := isText_rows ht
  rw [e] at h
  rw [List.take_left' (by simp)] at h
  rw [rows_inj hl ha h] at hne
  exact hne rfl
/-- The words of a line of a reading. -/
theorem row_words {x : List UInt8} {r : Rdg} (hr : PrR r) (h : x = rowF r) : spl 32 x = wordsF r := by rw [h, row_spl]
theorem row_back {x : List UInt8} {r : Rdg} (h : spl 32 x = wordsF r) : x = rowF r := by
  have q := spl_join 32 x
  rw [h] at q
  exact q.symm
theorem words_good {r : Rdg} (hr : PrR r) {k : Nat} {x : List UInt8} (hk : k ≠ 2) (h : (wordsF r)[k]? = some x) : goodW x := by
  have hn := hr.n
  have g : ∀ n ∈ [r.day, r.mi, r.me, r.al, r.ah, r.dl, r.dh, r.wl, r.wh], goodW (Lib.itoa n) := fun n hm => ⟨n, (hn n hm).1, (hn n hm).2, rfl⟩
  have hlt : k < 10 := (List.getElem?_eq_some_iff.1 h).1
  rcases (by omega : k = 0 ∨ k = 1 ∨ k = 3 ∨ k = 4 ∨ k = 5 ∨ k = 6 ∨ k = 7 ∨ k = 8 ∨ k = 9) with rfl | rfl | rfl | rfl | rfl | rfl | rfl | rfl | rfl
  all_goals
    obtain rfl := Option.some.inj h
    exact g _ (by simp)
/-- The reading that ten words say. -/
def rdgOf (xs : List Int) (cl : Int) : Rdg := ⟨xs.getD 0 0, xs.getD 1 0, cl, xs.getD 3 0, xs.getD 4 0, xs.getD 5 0, xs.getD 6 0, xs.getD 7 0, xs.getD 8 0, xs.getD 9 0⟩
theorem words_of {ws : List (List UInt8)} {xs : List Int} {cl : Int} (hl : ws.length = 10) (hx : ∀ k, k < 10 → k ≠ 2 → -99999 ≤ xs.getD k 0 ∧ xs.getD k 0 ≤ 99999 ∧ ws[k]? = some (Lib.itoa (xs.getD k 0))) (hc : ws[2]? = some (letF cl)) (c0 : 1 ≤ cl) (c1 : cl ≤ 3) :
    PrR (rdgOf xs cl) ∧ ws = wordsF (rdgOf xs cl) := by
  refine ⟨⟨c0, c1, fun x hm => ?_⟩, ?_⟩
  · simp only [rdgOf, List.mem_cons, List.not_mem_nil, or_false] at hm
    rcases hm with rfl | rfl | rfl | rfl | rfl | rfl | rfl | rfl | rfl
    · exact ⟨(hx 0 (by omega) (by omega)).1, (hx 0 (by omega) (by omega)).2.1⟩
    · exact ⟨(hx 1 (by omega) (by omega)).1, (hx 1 (by omega) (by omega)).2.1⟩
    · exact ⟨(hx 3 (by omega) (by omega)).1, (hx 3 (by omega) (by omega)).2.1⟩
    · exact ⟨(hx 4 (by omega) (by omega)).1, (hx 4 (by omega) (by omega)).2.1⟩
    · exact ⟨(hx 5 (by omega) (by omega)).1, (hx 5 (by omega) (by omega)).2.1⟩
    · exact ⟨(hx 6 (by omega) (by omega)).1, (hx 6 (by omega) (by omega)).2.1⟩
    · exact ⟨(hx 7 (by omega) (by omega)).1, (hx 7 (by omega) (by omega)).2.1⟩
    · exact ⟨(hx 8 (by omega) (by omega)).1, (hx 8 (by omega) (by omega)).2.1⟩
    · exact ⟨(hx 9 (by omega) (by omega)).1, (hx 9 (by omega) (by omega)).2.1⟩
  · have h0 := (hx 0 (by omega) (by omega)).2.2
    have h1 := (hx 1 (by omega) (by omega)).2.2
    have h3 := (hx 3 (by omega) (by omega)).2.2
    have h4 := (hx 4 (by omega) (by omega)).2.2
    have h5 := (hx 5 (by omega) (by omega)).2.2
    have h6 := (hx 6 (by omega) (by omega)).2.2
    have h7 := (hx 7 (by omega) (by omega)).2.2
    have h8 := (hx 8 (by omega) (by omega)).2.2
    have h9 := (hx 9 (by omega) (by omega)).2.2
    match ws, hl with
    | [a0, a1, a2, a3, a4, a5, a6, a7, a8, a9], _ =>
      simp only [List.getElem?_cons_zero, List.getElem?_cons_succ, Option.some.injEq] at h0 h1 h3 h4 h5 h6 h7 h8 h9 hc
      rw [h0, h1, h3, h4, h5, h6, h7, h8, h9, hc]
      rfl

open Go.RowKit

@[reducible] def sevenL (r : Rdg) : Array Value := #[.int .i64 r.me, .int .i64 r.al, .int .i64 r.ah, .int .i64 r.dl, .int .i64 r.dh, .int .i64 r.wl, .int .i64 r.wh]
theorem seven_at {r : Rdg} (hr : PrR r) {k : Nat} (hk : k < 7) : ∃ n : Int, -99999 ≤ n ∧ n ≤ 99999 ∧ (sevenL r)[k]? = some (.int .i64 n) ∧ (wordsF r)[3 + k]? = some (Lib.itoa n) := by
  have hn := hr.n
  rcases (by omega : k = 0 ∨ k = 1 ∨ k = 2 ∨ k = 3 ∨ k = 4 ∨ k = 5 ∨ k = 6) with rfl | rfl | rfl | rfl | rfl | rfl | rfl
  · exact ⟨r.me, (hn _ (by simp)).1, (hn _ (by simp)).2, rfl, rfl⟩
  · exact ⟨r.al, (hn _ (by simp)).1, (hn _ (by simp)).2, rfl, rfl⟩
  · exact ⟨r.ah, (hn _ (by simp)).1, (hn _ (by simp)).2, rfl, rfl⟩
  · exact ⟨r.dl, (hn _ (by simp)).1, (hn _ (by simp)).2, rfl, rfl⟩
  · exact ⟨r.dh, (hn _ (by simp)).1, (hn _ (by simp)).2, rfl, rfl⟩
  · exact ⟨r.wl, (hn _ (by simp)).1, (hn _ (by simp)).2, rfl, rfl⟩
  · exact ⟨r.wh, (hn _ (by simp)).1, (hn _ (by simp)).2, rfl, rfl⟩
theorem letF_len (cl : Int) : (letF cl).length = 1 := by
  obtain ⟨c, h, -⟩ := letF_one cl
  rw [h]
  rfl
theorem words_len7 {r : Rdg} (hr : PrR r) : ∀ x ∈ wordsF r, x.length ≤ 21 := fun x hx => by
  have hn := hr.n
  simp only [wordsF, List.mem_cons, List.not_mem_nil, or_false] at hx
  have g : ∀ n ∈ [r.day, r.mi, r.me, r.al, r.ah, r.dl, r.dh, r.wl, r.wh], (Lib.itoa n).length ≤ 21 := fun n hm => Lib.itoa_length_le _ (by have := hn n hm; omega) (by have := hn n hm; omega)
  rcases hx with rfl | rfl | rfl | rfl | rfl | rfl | rfl | rfl | rfl | rfl
  case inr.inr.inl => rw [letF_len]; omega
  all_goals exact g _ (by simp)
theorem str3 (a b c : List UInt8) : Value.string ((⟨a.toArray⟩ : ByteArray) ++ ⟨#[32]⟩ ++ ⟨b.toArray⟩ ++ ⟨#[32]⟩ ++ ⟨c.toArray⟩) = str (Lib.join [a, b, c] [32]) := by
  refine congrArg Value.string (ByteArray.ext (Array.ext' ?_))
  simp [Lib.join, List.intercalate, List.intersperse]
theorem str_word (a b : List UInt8) : Value.string ((⟨a.toArray⟩ : ByteArray) ++ ⟨#[32]⟩ ++ ⟨b.toArray⟩) = str (a ++ 32 :: b) := by
  refine congrArg Value.string (ByteArray.ext (Array.ext' ?_))
  simp
set_option maxHeartbeats 2000000 in
set_option maxRecDepth 100000 in
theorem rLine_any (r : Rdg) (w : World) (hr : PrR r) :
    Calls Tryz.prog 28 #[rdV r] w fun e w' => e = .returned (str (lineF r)) ∧ Below w.heap.size w w' := by
  have HP := Lib.hid hr
  have hd := hr.n r.day (by simp)
  have hm := hr.n r.mi (by simp)
  have c0 := hr.c0
  have c1 := hr.c1
  have ld := words_len7 hr (Lib.itoa r.day) (by simp [wordsF])
  have lm := words_len7 hr (Lib.itoa r.mi) (by simp [wordsF])
  have lc := letF_len r.cl
  have HJ : Hid (∀ k, (Lib.join ((wordsF r).take k) [32]).length ≤ 220) := Lib.hid (fun k => by
    have q := join_len ((wordsF r).take k) (fun x hx => words_len7 hr x (List.mem_of_mem_take hx))
    have h10 : (wordsF r).length = 10 := rfl
    rw [List.length_take] at q
    omega)
  have HR : Hid (Frm w [(w.heap.size + 1, .cells (sevenL r) 3), (w.heap.size, rdBox r)] ((w.alloc (rdBox r)).alloc (.cells (sevenL r) 3))) := Lib.hid (((Frm.nil w).add _ rfl).add _ (by simp))
  have HQ : Hid (Frm w [(w.heap.size, rdBox r)] (w.alloc (rdBox r))) := Lib.hid ((Frm.nil w).add _ rfl)
  have x0 := HQ.out.cells (List.mem_cons_self ..)
  clear hr
  go_enter Tryz.func28, Tryz.ntmps28
  go_upto_region 2 with fail
  clear x0
  have x0 := HR.out.cells (List.mem_cons_of_mem _ (List.mem_cons_self ..))
  go_cut [4] (fun s4 wx => s4 = str (Lib.join ((wordsF r).take 3) [32]) ∧ Frm w [(w.heap.size + 1, .cells (sevenL r) 3)] wx)
  case first =>
    have hsl : ∀ W : World, (Instr.slice 9 (.string ⟨#[32, 114, 115, 101]⟩) (some (.int .i64 r.cl)) (some (.int .i64 (r.cl + 1))) none).run Tryz.prog W = .ok (str (letF r.cl)) W := by
      obtain h | h | h : r.cl = 1 ∨ r.cl = 2 ∨ r.cl = 3 := by omega
      all_goals (rw [h]; intro W; kernel_rfl)
    have hwr : IntKind.i64.wrap (r.cl + 1) = r.cl + 1 := IntWalk.i64_in _ (by omega)
    obtain ⟨A, hA⟩ : ∃ A : ByteArray, (⟨(Lib.itoa r.day).toArray⟩ : ByteArray) = A := ⟨_, rfl⟩
    obtain ⟨B, hB⟩ : ∃ B : ByteArray, (⟨(Lib.itoa r.mi).toArray⟩ : ByteArray) = B := ⟨_, rfl⟩
    obtain ⟨L, hL⟩ : ∃ L : ByteArray, (⟨(letF r.cl).toArray⟩ : ByteArray) = L := ⟨_, rfl⟩
    have HD : Hid (∀ W, Calls Tryz.prog 55 #[.int .i64 r.day] W fun e w' => e = .returned (.string A) ∧ Below W.heap.size W w') := Lib.hid (fun W => by rw [← hA]; exact rDec_any _ _ (by omega) (by omega))
    have HM : Hid (∀ W, Calls Tryz.prog 55 #[.int .i64 r.mi] W fun e w' => e = .returned (.string B) ∧ Below W.heap.size W w') := Lib.hid (fun W => by rw [← hB]; exact rDec_any _ _ (by omega) (by omega))
    have HV := Lib.hid (show Value.string (A ++ ⟨#[32]⟩ ++ B ++ ⟨#[32]⟩ ++ L) = str (Lib.join ((wordsF r).take 3) [32]) by rw [← hA, ← hB, ← hL]; exact str3 _ _ _)
    have sA : A.size ≤ 21 := by rw [← hA]; exact ld
    have sB : B.size ≤ 21 := by rw [← hB]; exact lm
    have sL : L.size ≤ 21 := by rw [← hL]; show (letF r.cl).length ≤ 21; omega
    have d1 : ¬ 9223372036854775807 < A.size + 1 := by omega
    have d2 : ¬ 9223372036854775807 < A.size + 1 + B.size := by omega
    have d3 : ¬ 9223372036854775807 < A.size + 1 + B.size + 1 := by omega
    have d4 : ¬ 9223372036854775807 < A.size + 1 + B.size + 1 + L.size := by omega
    have hsl2 : ∀ W : World, (Instr.slice 9 (.string ⟨#[32, 114, 115, 101]⟩) (some (.int .i64 r.cl)) (some (.int .i64 (r.cl + 1))) none).run Tryz.prog W = .ok (.string L) W := fun W => by
      rw [hsl W, ← hL]
    clear hsl hA hB hL ld lm lc
    go_region_held3 (fun w' => (∀ o, w'.cell? ⟨w.heap.size, o, none⟩ = #[Value.int .i64 r.day, .int .i64 r.mi, .int .i64 r.cl, .int .i64 r.me, .int .i64 r.al, .int .i64 r.ah, .int .i64 r.dl, .int .i64 r.dh, .int .i64 r.wl, .int .i64 r.wh][o]?)) ((exact (fun hF : Frm w [(w.heap.size + 1, .cells (sevenL r) 3), (w.heap.size, rdBox r)] _ => hF.cells (List.mem_cons_of_mem _ (List.mem_cons_self ..))) (by (repeat (with_reducible first | exact HR.out | apply Frm.drew | apply Frm.alloc | apply Frm.drewN))))) ((go_at_call 55; (first | (with_reducible refine (HD.out _).mono ?_) | (with_reducible refine (HM.out _).mono ?_)); rintro e wa ⟨rfl, hba⟩; have HRq := Lib.hid (Frm.below (w := w) (bs := [(w.heap.size + 1, .cells (sevenL r) 3), (w.heap.size, rdBox r)]) (by (repeat (with_reducible first | exact HR.out | apply Frm.drew | apply Frm.alloc | apply Frm.drewN))) hba); clear HR; have HR := HRq; clear HRq hba))
    all_goals
      go_wp2_with fail
      go_meet
      exact ⟨HV.out, Frm.less HR.out (by simp)⟩
  case rest =>
    obtain ⟨rfl, hF⟩ := hcut
    have HF := Lib.hid hF
    clear hF x0 HR HQ ld lm lc hd hm c0 c1
    go_wp2_with fail
    go_loopw [4, 5] (fun s i wr => ∃ k : Nat, k ≤ 7 ∧ i = .int .i64 (k : Int) ∧ s = str (Lib.join ((wordsF r).take (3 + k)) [32]) ∧ Frm w [(w.heap.size + 1, .cells (sevenL r) 3)] wr) (fun _ i _ => 7 - (intOf i).toNat)
    case atStart => exact ⟨0, by omega, rfl, rfl, HF.out⟩
    case round =>
      obtain ⟨k, hk, rfl, rfl, hF⟩ := hrel
      have HG := Lib.hid hF
      have hl := HJ.out (3 + k)
      by_cases h7 : k < 7
      · obtain ⟨n, n0, n1, hx, hw⟩ := seven_at HP.out h7
        have hc := (hF.cells (List.mem_cons_self ..) k).trans hx
        have HW := Lib.hid (words_take hw (by omega))
        have hli := Lib.itoa_length_le n (by omega) (by omega)
        clear hF hx hw
        generalize Lib.join ((wordsF r).take (3 + k)) [32] = acc at *
        go_wp2_with (go_at_call 55; refine (rDec_any _ _ (by omega) (by omega)).mono ?_; rintro e wa ⟨rfl, hba⟩)
        go_roundw
        case rel => exact ⟨k + 1, by omega, by go_num, by rw [show 3 + (k + 1) = 3 + k + 1 by omega, HW.out]; exact str_word _ _, HG.out.below hba⟩
        case measure => simp [intOf]; omega
      · obtain rfl : k = 7 := by omega
        have HL := Lib.hid (show lineF r = Lib.join ((wordsF r).take (3 + 7)) [32] ++ [10] from rfl)
        clear hF
        generalize Lib.join ((wordsF r).take (3 + 7)) [32] = acc at *
        go_wp2_with fail
        go_ret
        exact ⟨by rw [HL.out]; exact congrArg Ending.returned (str_app _ _), HG.out.b⟩

open Go.RowKit

theorem end_str (a b : List UInt8) : Value.string ((⟨#[101, 110, 100, 32]⟩ : ByteArray) ++ ⟨a.toArray⟩ ++ ⟨b.toArray⟩ ++ ⟨#[10]⟩) = str ([101, 110, 100, 32] ++ a ++ b ++ [10]) := by
  refine congrArg Value.string (ByteArray.ext (Array.ext' ?_))
  simp
set_option maxHeartbeats 2000000 in
set_option maxRecDepth 100000 in
theorem rEnd_any (s : ByteArray) (w : World) (hs : s.size ≤ 1000000) :
    Calls Tryz.prog 56 #[.string s] w fun e w' => e = .returned (str (endF s.data.toList)) ∧ Below w.heap.size w w' := by
  go_enter Tryz.func56, Tryz.ntmps56
  go_wp2_with fail
  go_loopw [3, 4, 5] (fun a b i wr => ∃ k : Nat, k ≤ s.size ∧ wr = w ∧ a = .int .i64 (digs (s.data.toList.take k)).1 ∧ b = .int .i64 (digs (s.data.toList.take k)).2 ∧ i = .int .i64 (k : Int)) (fun _ _ i _ => s.size - (intOf i).toNat)
  case atStart => exact ⟨0, Nat.zero_le _, rfl, rfl, rfl, rfl⟩
  case round =>
    obtain ⟨k, hk, rfl, rfl, rfl, rfl⟩ := hrel
    have hd := digs_bd (s.data.toList.take k)
    have hl : ((s.data.toList.take k).length : Int) ≤ k := by have := List.length_take_le k s.data.toList; omega
    obtain ⟨hd0, hd1, hd2, hd3⟩ := hd
    by_cases hlt : k < s.size
    · have HS := Lib.hid (digs_snoc (s.data.toList.take k) s[k])
      have HT := Lib.hid (take_byte s k hlt)
      have hk2 : (k : Int) < s.size := by omega
      obtain ⟨y, hy⟩ : ∃ y, s[k]'hlt = y := ⟨_, rfl⟩
      have hq : ∀ h, s[k]'h = y := fun _ => hy
      rw [hy] at HS HT
      generalize hp : digs (s.data.toList.take k) = p at *
      clear hp hy
      obtain ⟨p1, p2⟩ := p
      simp only at hd0 hd1 hd2 hd3
      have hy8 : (y.toNat : Int) ≤ 255 := by have := y.toNat_lt; omega
      by_cases h1 : (y.toNat : Int) < 48
      · have E1 := Lib.hid (show digStep (p1, p2) y = (p1, p2) by simp only [digStep]; rw [if_neg (by omega)])
        go_wp2_with fail
        go_roundw
        case rel => exact ⟨k + 1, by omega, trivial, by rw [HT.out, HS.out, E1.out], by rw [HT.out, HS.out, E1.out], by go_num⟩
        case measure => simp [intOf]; omega
      by_cases h2 : (57 : Int) < y.toNat
      · have E1 := Lib.hid (show digStep (p1, p2) y = (p1, p2) by simp only [digStep]; rw [if_neg (by omega)])
        go_wp2_with fail
        go_roundw
        case rel => exact ⟨k + 1, by omega, trivial, by rw [HT.out, HS.out, E1.out], by rw [HT.out, HS.out, E1.out], by go_num⟩
        case measure => simp [intOf]; omega
      have E1 := Lib.hid (show digStep (p1, p2) y = (p1 + ((y.toNat : Int) - 48) * (p2 % 8 + 1), p2 + 1) by simp only [digStep]; rw [if_pos (by omega), Int.add_comm 1 (p2 % 8)])
      have m1 : 0 ≤ ((y.toNat : Int) - 48) * (p2 % 8 + 1) := Int.mul_nonneg (by omega) (by omega)
      have m2 : ((y.toNat : Int) - 48) * (p2 % 8 + 1) ≤ 9 * 8 := Int.mul_le_mul (by omega) (by omega) (by omega) (by omega)
      have e1 : IntKind.u8.wrap ((y.toNat : Int) - 48) = (y.toNat : Int) - 48 := by
        have h1 : (0 : Int) ≤ (y.toNat : Int) - 48 := by omega
        have h2 : (y.toNat : Int) - 48 < 256 := by omega
        simp only [IntKind.wrap, IntKind.signed, IntKind.bits]
        simp
        omega
      have e2 : IntKind.i64.wrap ((y.toNat : Int) - 48) = (y.toNat : Int) - 48 := IntWalk.i64_in _ (by omega)
      go_wp2_with fail
      go_roundw
      case rel => exact ⟨k + 1, by omega, trivial, by rw [HT.out, HS.out, E1.out], by rw [HT.out, HS.out, E1.out], by go_num⟩
      case measure => simp [intOf]; omega
    · obtain rfl : k = s.size := by omega
      have hfull : s.data.toList.take s.size = s.data.toList := List.take_of_length_le (by simp)
      rw [hfull] at hd0 hd1 hd2 hd3 ⊢
      have HF := Lib.hid (endF_parts s.data.toList)
      clear hfull hl
      generalize digs s.data.toList = p at *
      obtain ⟨p1, p2⟩ := p
      simp only at hd0 hd1 hd2 hd3
      have l1 := Lib.itoa_length_le (p1 % 97 / 10) (by omega) (by omega)
      have l2 := Lib.itoa_length_le (p1 % 97 % 10) (by omega) (by omega)
      have b1 : 0 ≤ p1 % 97 / 10 ∧ p1 % 97 / 10 ≤ 9 := by omega
      have b2 : 0 ≤ p1 % 97 % 10 ∧ p1 % 97 % 10 ≤ 9 := by omega
      go_wp2_with fail
      refine (rDec_any _ _ (by omega) (by omega)).mono ?_
      rintro e w1 ⟨rfl, hb1⟩
      have HB1 := Lib.hid hb1
      clear hb1
      go_wp2_with fail
      refine (rDec_any _ _ (by omega) (by omega)).mono ?_
      rintro e w2 ⟨rfl, hb2⟩
      have HB2 := Lib.hid (below_step HB1.out hb2)
      clear hb2
      go_wp2_with fail
      go_ret
      exact ⟨by rw [HF.out]; exact congrArg Ending.returned (end_str _ _), HB2.out⟩
set_option maxHeartbeats 1000000 in
theorem rSealed_any (l : List UInt8) (w : World) (hl : l.length ≤ 1000000) :
    Calls Tryz.prog 29 #[str l] w fun e w' => e = .returned (str (l ++ endF l)) ∧ Below w.heap.size w w' := by
  have hd := (digs_bd l).1
  have hel := endF_len l hd
  have HE : Hid (Calls Tryz.prog 56 #[str l] w fun e w' => e = .returned (str (endF l)) ∧ Below w.heap.size w w') := Lib.hid (rEnd_any ⟨l.toArray⟩ w (by simpa [ByteArray.size] using hl))
  clear hd
  generalize endF l = en at *
  go_enter Tryz.func29, Tryz.ntmps29
  go_wp2_with fail
  refine HE.out.mono ?_
  rintro e w1 ⟨rfl, hb1⟩
  have HB := Lib.hid hb1
  clear hb1
  go_wp2_with fail
  go_ret
  exact ⟨congrArg Ending.returned (str_app _ _), HB.out⟩
theorem allPr_len {rs : List Rdg} (h : ∀ r ∈ rs, PrR r) : (linesF rs).length ≤ 221 * rs.length := by
  induction rs with
  | nil => simp [linesF]
  | cons r rs ih =>
    have h1 := join_len (wordsF r) (words_len7 (h r (by simp)))
    have h2 := ih (fun x hx => h x (by simp [hx]))
    have h3 : (wordsF r).length = 10 := rfl
    rw [lines_cons, List.length_append, lineF_row, List.length_append, List.length_singleton, List.length_cons]
    unfold rowF
    omega
set_option maxHeartbeats 2000000 in
set_option maxRecDepth 100000 in
theorem rPrint_some (rs : List Rdg) (b off cap : Nat) (w : World) (hcap : rs.length ≤ cap) (hm : cap ≤ maxLen) (hb : b < w.heap.size) (hc : RdgsAt w b off rs) (hp : ∀ r ∈ rs, PrR r) (hn : rs.length ≤ 4000) :
    Calls Tryz.prog 9 #[.slice (some ⟨b, off, none⟩) rs.length cap] w fun e w' => e = .returned (str (textF rs)) ∧ Below w.heap.size w w' := by
  have HPR := Lib.hid hp
  have HC := Lib.hid hc
  clear hc hp
  unfold maxLen at hm
  go_enter Tryz.func9, Tryz.ntmps9
  go_wp2_with fail
  go_loopw [3, 4] (fun l k wr => ∃ n : Nat, n ≤ rs.length ∧ k = .int .i64 n ∧ l = str (linesF (rs.take n)) ∧ Below w.heap.size w wr) (fun _ k _ => rs.length - (intOf k).toNat)
  case atStart => exact ⟨0, Nat.zero_le _, rfl, rfl, Below.refl _ _⟩
  case round =>
    obtain ⟨n, hn, rfl, rfl, hB⟩ := hrel
    have hbw : ∀ o, wr.cell? ⟨b, o, none⟩ = w.cell? ⟨b, o, none⟩ := fun o => hB.cell (p := ⟨b, o, none⟩) hb
    have HB2 := Lib.hid hB
    have hz := hB.size
    have hll : (linesF (rs.take n)).length ≤ 221 * n := by
      have := allPr_len (rs := rs.take n) (fun r hr => HPR.out r (List.mem_of_mem_take hr))
      rw [List.length_take] at this
      omega
    by_cases hlt : n < rs.length
    · obtain ⟨h0, h1, h2, h3, h4, h5, h6, h7, h8, h9⟩ := HC.out n rs[n] (List.getElem?_eq_getElem hlt)
      have g0 := (hbw _).trans h0; have g1 := (hbw _).trans h1; have g2 := (hbw _).trans h2; have g3 := (hbw _).trans h3; have g4 := (hbw _).trans h4; have g5 := (hbw _).trans h5; have g6 := (hbw _).trans h6; have g7 := (hbw _).trans h7; have g8 := (hbw _).trans h8; have g9 := (hbw _).trans h9
      have Hcn := Lib.hid (List.getElem?_eq_getElem hlt)
      have HG := Lib.hid (HPR.out rs[n] (List.getElem_mem hlt))
      have hl1 := allPr_len (rs := [rs[n]]) (fun r hr => by rw [List.mem_singleton.1 hr]; exact HG.out)
      rw [show linesF [rs[n]] = lineF rs[n] by simp [linesF], List.length_singleton] at hl1
      have HL := Lib.hid (linesF_succ Hcn.out)
      generalize rs[n] = r at *
      clear hbw hB h0 h1 h2 h3 h4 h5 h6 h7 h8 h9
      generalize linesF (rs.take n) = acc at *
      go_wp2_with (go_at_call 28; refine (rLine_any r _ HG.out).mono ?_; rintro e w2 ⟨rfl, hb2⟩)
      go_roundw
      case rel => exact ⟨n + 1, by omega, by go_num, by rw [HL.out]; exact str_app _ _, below_step HB2.out hb2⟩
      case measure => simp [intOf]; omega
    · obtain rfl : n = rs.length := by omega
      rw [List.take_length] at *
      have HX := Lib.hid (show textF rs = linesF rs ++ endF (linesF rs) from rfl)
      have HE := Lib.hid (rSealed_any (linesF rs) wr (by omega))
      clear hbw hB
      generalize linesF rs = acc at *
      go_wp2_with fail
      refine HE.out.mono ?_
      rintro e w2 ⟨rfl, hb2⟩
      have HB3 := Lib.hid (below_step HB2.out hb2)
      clear hb2
      go_wp2_with fail
      go_ret
      exact ⟨by rw [HX.out]; rfl, HB3.out⟩
set_option maxHeartbeats 1000000 in
theorem rPrint_nil (A : Option Addr) (cap : Nat) (w : World) :
    Calls Tryz.prog 9 #[.slice A 0 cap] w fun e w' => e = .returned (str (textF [])) ∧ Below w.heap.size w w' := by
  have HX := Lib.hid (show textF [] = [] ++ endF [] from rfl)
  go_enter Tryz.func9, Tryz.ntmps9
  go_wp2_with fail
  go_loopw [3, 4] (fun l k wr => k = .int .i64 0 ∧ l = .string ⟨#[]⟩ ∧ Below w.heap.size w wr) (fun _ k _ => (0 - intOf k).toNat)
  case atStart => exact ⟨rfl, rfl, Below.refl _ _⟩
  case round =>
    obtain ⟨rfl, rfl, hB⟩ := hrel
    have HB2 := Lib.hid hB
    clear hB
    go_wp2_with fail
    refine (rSealed_any [] _ (by simp)).mono ?_
    rintro e w2 ⟨rfl, hb2⟩
    have HB3 := Lib.hid (below_step HB2.out hb2)
    clear hb2
    go_wp2_with fail
    go_ret
    exact ⟨by rw [HX.out]; rfl, HB3.out⟩
theorem rPrint_any {v : Value} {rs : List Rdg} {w : World} (h : Rdgs w v rs) (hp : ∀ r ∈ rs, PrR r) (hn : rs.length ≤ 4000) :
    Calls Tryz.prog 9 #[v] w fun e w' => e = .returned (str (textF rs)) ∧ Below w.heap.size w w' := by
  obtain ⟨A, c, rfl, hl, hm, h⟩ := h
  rcases h with rfl | ⟨b, off, rfl, hlt, hc⟩
  · exact rPrint_nil A c w
  · exact rPrint_some rs b off c w hl hm hlt hc hp hn

open Go.RowKit

theorem ext_list (S : ByteArray) (f i : Nat) : S.extract f i = ⟨((S.data.toList.drop f).take (i - f)).toArray⟩ := by
  apply ByteArray.ext
  apply Array.ext'
  simp [ByteArray.data_extract, List.extract]
/-- A list of words of the call's own. -/
@[reducible] def OwnS (w : World) (base : Nat) (v : Value) (ws : List (List UInt8)) : Prop := w.ownsRow base 9 1 v ws.length (ws.map str)
section
variable {w : World} {ops : Array Oper} {rest : List Oper} {o : Oper} {a : Act} {Q : Exit → Act → World → Prop}
/-- append(out, s). -/
theorem app_str (hgd : o.guard = none) (s x : Operand) (ho : o.op = .call { callee := .builtin .append, args := #[s, x], argTypes := #[69, 69] })
    {base N : Nat} {v y : Value} {ws : List (List UInt8)} {u : List UInt8} (hs : a.eval s = v) (hown : OwnS w base v ws) (hx : a.eval x = .slice (some ⟨N, 0, none⟩) 1 1) (hN : w.heap[N]? = some (.cells #[y] 9)) (hy : y = str u) (hn : ws.length ≤ 4000) (hbase : base ≤ w.heap.size)
    (h : ∀ g cap w', OwnS w' base (.slice (some ⟨g, 0, none⟩) (ws.length + 1) cap) (ws ++ [u]) → w.grownBy w' v.ownBlock → wpList Tryz.prog ops Q rest (a.put o.dst (.slice (some ⟨g, 0, none⟩) (ws.length + 1) cap)) w') : wpList Tryz.prog ops Q (o :: rest) a w := by
  obtain ⟨i0, hi0, hz0, hz1, hz2⟩ := info_parts Tryz.infoStr
  subst hy
  obtain ⟨hc, _⟩ := boxCells hN
  refine wpList_append_lies w hgd s x _ ho base 9 i0 _ 1 16 Tryz.underlying69 hi0 hz0 hz1 hz2 rfl (by omega) v ws.length (ws.map str) hs hown ⟨N, 0, none⟩ 1 1 [str u] hx rfl (fun j z hj => ?_) (fun z hz => by simp at hz; subst hz; rfl) (by omega) (by unfold maxLen; omega) (by omega) hbase _ rfl ?_
  · rw [Go.WideShapes.add_plain, Nat.zero_add, hc j]
    simpa using hj
  · intro g cap w1 hown1 hgrow _ _
    refine h g cap w1 ?_ hgrow
    show w1.ownsRow _ _ _ _ (ws ++ [u]).length ((ws ++ [u]).map str)
    rw [List.length_append, List.map_append]
    exact hown1
end
theorem OwnS.below {w w' : World} {base : Nat} {v : Value} {ws : List (List UInt8)} (h : OwnS w base v ws) (hb : Below w.heap.size w w') : OwnS w' base v ws :=
  h.kept (row := none) ⟨hb.os, hb.tape, hb.output, hb.size, fun k hk _ => hb.block k hk⟩ (by cases v.ownBlock <;> simp)
theorem OwnS.own {w : World} {base : Nat} {v : Value} {ws : List (List UInt8)} (h : OwnS w base v ws) : ∀ k, v.ownBlock = some k → base ≤ k := fun k hk => (World.ownsRow.lt h k hk).1
/-- A list of words at an address of its own. -/
theorem OwnS.cells {w : World} {base : Nat} {v : Value} {ws : List (List UInt8)} (h : OwnS w base v ws) (hne : ws ≠ []) : ∃ g cap, v = .slice (some ⟨g, 0, none⟩) ws.length cap ∧ base ≤ g ∧ g < w.heap.size ∧ ws.length ≤ cap ∧ cap ≤ maxLen ∧ ∀ i x, ws[i]? = some x → w.cell? ⟨g, i, none⟩ = some (str x) := by
  rcases h.2 with ⟨_, hz⟩ | ⟨g, cap, cur, hv, hb0, hg, h1, h2, h3, h4⟩
  · exact absurd (List.length_eq_zero_iff.1 hz) hne
  · refine ⟨g, cap, hv, hb0, (Array.getElem?_eq_some_iff.1 hg).1, h1, h2, fun i x hi => ?_⟩
    have hil := (List.getElem?_eq_some_iff.1 hi).1
    have q : (cur.toList.take ws.length)[i]? = (ws.map str)[i]? := by
      rw [← h4]
      simp
    rw [List.getElem?_take_of_lt hil, Array.getElem?_toList, List.getElem?_map, hi] at q
    rw [(boxCells hg).1]
    exact q
/-- What split returns. -/
def SplPost (w : World) (ws : List (List UInt8)) (e : Ending) (w' : World) : Prop := ∃ v, e = .returned v ∧ OwnS w' w.heap.size v ws ∧ Below w.heap.size w w'
set_option maxHeartbeats 4000000 in
set_option maxRecDepth 100000 in
theorem rSplit_any (S : ByteArray) (b : UInt8) (c : Int) (hbc : c = (b.toNat : Int)) (w : World) (hs : S.size ≤ 3200) :
    Calls Tryz.prog 30 #[.string S, .int .u8 c] w fun e w' => SplPost w (spl b S.data.toList) e w' := by
  have hlen : S.data.toList.length = S.size := by simp
  have HBC := Lib.hid hbc
  clear hbc
  have HLN : Hid (∀ L f, spl b S.data.toList = L ++ spl b (S.data.toList.drop f) → L.length ≤ 3300) := Lib.hid (fun L f h => by
    have q := spl_len b S.data.toList
    rw [h, List.length_append] at q
    omega)
  go_enter Tryz.func30, Tryz.ntmps30
  go_wp2_with fail
  go_loopw [5, 6, 7] (fun v f i wr => ∃ (p q : Nat) (L : List (List UInt8)), p ≤ q ∧ q ≤ S.size ∧ f = .int .i64 (p : Int) ∧ i = .int .i64 (q : Int) ∧ spl b S.data.toList = L ++ spl b (S.data.toList.drop p) ∧ b ∉ (S.data.toList.drop p).take (q - p) ∧ OwnS wr w.heap.size v L ∧ Below w.heap.size w wr) (fun _ _ i _ => S.size - (intOf i).toNat)
  case atStart => exact ⟨0, 0, [], by omega, by omega, rfl, rfl, by simp, by simp, World.ownsRow_nil .., Below.refl _ _⟩
  case round =>
    obtain ⟨p, q, L, hpq, hq, rfl, rfl, hL, hno, hO, hB⟩ := hrel
    have hll := HLN.out _ _ hL
    have HL := Lib.hid hL
    have HN := Lib.hid hno
    have HB := Lib.hid hB
    have hz := hB.size
    have HM := Lib.hid hO.own
    clear hL hno hB
    by_cases hlt : q < S.size
    · have hq2 : (q : Int) < S.size := by omega
      obtain ⟨y, hy⟩ : ∃ y, S[q]'hlt = y := ⟨_, rfl⟩
      have hyq : ∀ h, S[q]'h = y := fun _ => hy
      have HY := Lib.hid (show S.data.toList[q]'(by omega) = y from hy)
      clear hy
      by_cases hyb : y = b
      · have hdb : ((y.toNat : Int) == c) = true := by rw [hyb, HBC.out]; simp
        have HE := Lib.hid (spl_at HL.out hpq (by omega) (HY.out.trans hyb) HN.out)
        have HOa := Lib.hid hO
        clear hO hyb
        go_wp2_with (at_builtin; go_must (refine app_str (by rfl) _ _ (by rfl) ?_ (World.ownsRow.alloc HOa.out _) ?_ (heap_new _ _ rfl) (congrArg Value.string (ext_list S p q)) (by omega) (by simp <;> omega) ?_); rfl; rfl; intro g cap wa hO2 hg2; have HO2 := Lib.hid hO2; have HB2 := Lib.hid ((below_al HB.out _).grown hg2 (by simp <;> omega) HM.out); clear hO2 hg2)
        go_roundw
        case rel => exact ⟨q + 1, q + 1, _, by omega, by omega, by go_num, by go_num, HE.out, by simp, HO2.out, HB2.out⟩
        case measure => simp [intOf]; omega
      · have hdb : ((y.toNat : Int) == c) = false := by
          rw [HBC.out]
          simpa using fun h => hyb (UInt8.toNat_inj.1 (by omega))
        have HE := Lib.hid (spl_on hpq (by omega) (by rw [HY.out]; exact hyb) HN.out)
        have HOa := Lib.hid hO
        clear hO hyb
        go_wp2_with fail
        go_roundw
        case rel => exact ⟨p, q + 1, L, by omega, by omega, rfl, by go_num, HL.out, HE.out, HOa.out, HB.out⟩
        case measure => simp [intOf]; omega
    · obtain rfl : q = S.size := by omega
      have HE := Lib.hid (spl_last HL.out (by rw [hlen]; exact HN.out))
      have HOa := Lib.hid hO
      have HX := Lib.hid (show Value.string (S.extract p S.size) = str (S.data.toList.drop p) by
        rw [ext_list, List.take_of_length_le (by simp)])
      clear hO
      go_wp2_with (at_builtin; go_must (refine app_str (by rfl) _ _ (by rfl) ?_ (World.ownsRow.alloc HOa.out _) ?_ (heap_new _ _ rfl) HX.out (by omega) (by simp <;> omega) ?_); rfl; rfl; intro g cap wa hO2 hg2; have HO2 := Lib.hid hO2; have HB2 := Lib.hid ((below_al HB.out _).grown hg2 (by simp <;> omega) HM.out); clear hO2 hg2)
      go_ret
      refine ⟨_, rfl, ?_, HB2.out⟩
      rw [HE.out]
      exact HO2.out

open Go.RowKit

/-- What number returns. -/
def NumR (w : World) (x : List UInt8) (e : Ending) (w' : World) : Prop :=
  Below w.heap.size w w' ∧ ((∃ n : Int, -99999 ≤ n ∧ n ≤ 99999 ∧ x = Lib.itoa n ∧ e = .returned (.tuple #[.int .i64 n, .bool true])) ∨ (¬ goodW x ∧ ∃ n : Int, e = .returned (.tuple #[.int .i64 n, .bool false])))
theorem pos_bad {x : List UInt8} (h1 : ∀ t, x ≠ 45 :: t) (h : Lib.itoa (decV x : Int) ≠ x) : ¬ goodW x := fun hg => by
  obtain ⟨hc, -, -⟩ := good_can (neg := false) (dg := x) (by simp) (fun _ => h1) hg
  exact h (itoa_pos0 x hc)
theorem neg_bad {x d : List UInt8} (hx : x = 45 :: d) (h : Lib.itoa (-(decV d : Int)) ≠ x) : ¬ goodW x := fun hg => by
  obtain ⟨hc, -, hz⟩ := good_can (neg := true) (dg := d) (by simpa using hx) (fun h => by cases h) hg
  exact h (by rw [hx]; exact itoa_neg0 d hc (hz rfl))
theorem ext_tail (c : UInt8) (t : List UInt8) : (⟨(c :: t).toArray⟩ : ByteArray).extract 1 (t.length + 1) = ⟨t.toArray⟩ := by
  rw [ext_list]
  simp
theorem dig_fact {x d : List UInt8} {neg : Bool} (hx : x = (if neg then 45 :: d else d)) (hn : neg = false → ∀ t, d ≠ 45 :: t) : (d = [] → ¬ goodW x) ∧ (5 < d.length → ¬ goodW x) ∧ (∀ y ∈ d, digB y = false → ¬ goodW x) := by
  refine ⟨bad_empty hx, fun h5 hg => ?_, fun y hy hd hg => ?_⟩
  · have := (good_can hx hn hg).2.1
    omega
  · have := (good_can hx hn hg).1.2.1 y hy
    rw [hd] at this
    cases this
set_option maxHeartbeats 4000000 in
set_option maxRecDepth 100000 in
theorem rNum_any (x : List UInt8) (w : World) (hx : x.length ≤ 3200) :
    Calls Tryz.prog 31 #[str x] w fun e w' => NumR w x e w' := by
  cases x with
  | nil =>
    have K := Lib.hid (bad_empty (x := []) (dg := []) (neg := false) (by simp) rfl)
    go_enter Tryz.func31, Tryz.ntmps31
    go_wp2_with fail
    go_ret2
    exact ⟨Below.refl _ _, .inr ⟨K.out, _, rfl⟩⟩
  | cons c t =>
    simp only [List.length_cons] at hx
    have hq : ∀ h, (ByteArray.mk (c :: t).toArray)[0]'h = c := fun _ => rfl
    by_cases c45 : c = 45
    · have HXC := Lib.hid (show c :: t = 45 :: t by rw [c45])
      have hc : (c.toNat : Int) = 45 := by rw [c45]; rfl
      obtain ⟨f0, f5, fd⟩ := dig_fact (x := c :: t) (d := t) (neg := true) (by rw [c45]; simp) (fun h => by cases h)
      have HB0 := Lib.hid f0
      have HB5 := Lib.hid f5
      have HBD := Lib.hid fd
      clear f0 f5 fd c45
      go_enter Tryz.func31, Tryz.ntmps31
      by_cases t0 : t = []
      · have K := Lib.hid (HB0.out t0)
        clear HB0 HB5 HBD
        subst t0
        go_wp2_with fail
        go_ret2
        exact ⟨Below.refl _ _, .inr ⟨K.out, _, rfl⟩⟩
      have t1 : 0 < t.length := List.length_pos_iff.2 t0
      clear t0
      go_upto_region 4 with fail
      try rw [ext_tail]
      clear hq
      have hdsz : (⟨t.toArray⟩ : ByteArray).size = t.length := rfl
      have hz0 : (((t.length : Int)) == 0) = false := by simpa using (by omega : ¬ ((t.length : Int)) = 0)
      by_cases d5 : 5 < t.length
      · have K := Lib.hid (HB5.out (by simpa using d5))
        clear HBD HB0 HB5
        go_wp2_with fail
        go_ret2
        exact ⟨Below.refl _ _, .inr ⟨K.out, _, rfl⟩⟩
      have d5' : t.length ≤ 5 := by omega
      clear d5
      go_wp2_with fail
      go_loopw [5, 6] (fun n i wr => ∃ k : Nat, k ≤ t.length ∧ wr = w ∧ i = .int .i64 (k : Int) ∧ n = .int .i64 (decV (t.take k) : Nat) ∧ ∀ y ∈ t.take k, digB y = true) (fun _ i _ => t.length - (intOf i).toNat)
      case atStart => exact ⟨0, Nat.zero_le _, rfl, rfl, rfl, by simp⟩
      case round =>
        obtain ⟨k, hk, rfl, rfl, rfl, hall⟩ := hrel
        have HALL := Lib.hid hall
        have hl2 : (t.take k).length = k := by simp; omega
        have hv := decV_lt _ hall
        rw [hl2] at hv
        clear hall hl2
        by_cases hlt : k < t.length
        · have hsz : k < (⟨t.toArray⟩ : ByteArray).size := hlt
          obtain ⟨y, hy⟩ : ∃ y, (⟨t.toArray⟩ : ByteArray)[k]'hsz = y := ⟨_, rfl⟩
          have hyq : ∀ h, (⟨t.toArray⟩ : ByteArray)[k]'h = y := fun _ => hy
          have hk2 : (k : Int) < t.length := by omega
          have hy2 : t[k]? = some y := by rw [List.getElem?_eq_getElem hlt, ← hy]; rfl
          have hv4 : decV (t.take k) < 10000 := Nat.lt_of_lt_of_le hv (Nat.pow_le_pow_right (by omega) (show k ≤ 4 by omega))
          have HT := Lib.hid (show t.take (k + 1) = t.take k ++ [y] by rw [List.take_add_one, hy2]; rfl)
          have HDV := Lib.hid (decV_snoc (t.take k) y)
          have HM := Lib.hid (show y ∈ t from List.mem_of_getElem? hy2)
          have hy8 : (y.toNat : Int) ≤ 255 := by have := y.toNat_lt; omega
          clear hv hy2 hy
          generalize decV (t.take k) = v at *
          by_cases d1 : (y.toNat : Int) < 48
          · have K := Lib.hid (HBD.out y HM.out (by simp [digB]; omega))
            clear HBD HB0 HB5
            go_wp2_with fail
            go_ret2
            exact ⟨Below.refl _ _, .inr ⟨K.out, _, rfl⟩⟩
          by_cases d2 : (57 : Int) < y.toNat
          · have K := Lib.hid (HBD.out y HM.out (by simp [digB]; omega))
            clear HBD HB0 HB5
            go_wp2_with fail
            go_ret2
            exact ⟨Below.refl _ _, .inr ⟨K.out, _, rfl⟩⟩
          have HY9 := Lib.hid (show digB y = true by simp [digB]; omega)
          have e1 : IntKind.u8.wrap ((y.toNat : Int) - 48) = (y.toNat : Int) - 48 := by
            have h1 : (0 : Int) ≤ (y.toNat : Int) - 48 := by omega
            have h2 : (y.toNat : Int) - 48 < 256 := by omega
            simp only [IntKind.wrap, IntKind.signed, IntKind.bits]
            simp
            omega
          have e2 : IntKind.i64.wrap ((y.toNat : Int) - 48) = (y.toNat : Int) - 48 := IntWalk.i64_in _ (by omega)
          go_wp2_with fail
          go_roundw
          case rel =>
            refine ⟨k + 1, by omega, trivial, by go_num, ?_, ?_⟩
            · rw [HT.out, HDV.out]
              congr 1
              omega
            · rw [HT.out]
              intro z hz
              rcases List.mem_append.1 hz with hz | hz
              · exact HALL.out z hz
              · rw [List.mem_singleton] at hz; subst hz; exact HY9.out
          case measure => simp [intOf]; omega
        · obtain rfl : k = t.length := by omega
          have hft : t.take t.length = t := List.take_of_length_le (by simp)
          have hv5 : decV (t.take t.length) < 100000 := Nat.lt_of_lt_of_le hv (Nat.pow_le_pow_right (by omega) (show t.length ≤ 5 by omega))
          rw [hft] at hv5 ⊢
          clear hv hft HB5 HBD HB0
          obtain ⟨v, hv⟩ : ∃ v, decV t = v := ⟨_, rfl⟩
          rw [hv] at hv5 ⊢
          have HV := Lib.hid hv
          clear hv
          have hli := Lib.itoa_length_le (-(v : Int)) (by omega) (by omega)
          have hne : (t == c :: t) = false := by
            simp only [beq_eq_false_iff_ne]
            intro h
            have := congrArg List.length h
            simp at this
          go_wp2_with fail
          refine (rDec_any _ _ (by omega) (by omega)).mono ?_
          rintro e w1 ⟨rfl, hb1⟩
          have HB1 := Lib.hid hb1
          clear hb1
          cases xe : (Lib.itoa (-(v : Int)) == c :: t)
          · have K := Lib.hid (neg_bad HXC.out (by rw [HV.out]; simpa using xe))
            go_wp2_with fail
            go_ret2
            exact ⟨HB1.out, .inr ⟨K.out, _, rfl⟩⟩
          · have K := Lib.hid (show c :: t = Lib.itoa (-(v : Int)) by simpa using (beq_iff_eq.1 xe).symm)
            go_wp2_with fail
            go_ret2
            exact ⟨HB1.out, .inl ⟨-(v : Int), by omega, by omega, K.out, rfl⟩⟩
    · have HXN := Lib.hid (show ∀ z, c :: t ≠ 45 :: z from fun z h => c45 (List.cons.inj h).1)
      have hc : ¬ (c.toNat : Int) = 45 := fun h => c45 (UInt8.toNat_inj.1 (by have : (45 : UInt8).toNat = 45 := rfl; omega))
      obtain ⟨f0, f5, fd⟩ := dig_fact (x := c :: t) (d := c :: t) (neg := false) (by simp) (fun _ => HXN.out)
      have HB0 := Lib.hid f0
      have HB5 := Lib.hid f5
      have HBD := Lib.hid fd
      clear f0 f5 fd c45
      go_enter Tryz.func31, Tryz.ntmps31
      go_upto_region 4 with fail
      clear hq
      have hdsz : (⟨(c :: t).toArray⟩ : ByteArray).size = (t.length + 1) := rfl
      have hz0 : (((t.length : Int) + 1) == 0) = false := by simpa using (by omega : ¬ ((t.length : Int) + 1) = 0)
      by_cases d5 : 5 < (t.length + 1)
      · have K := Lib.hid (HB5.out (by simpa using d5))
        clear HBD HB0 HB5
        go_wp2_with fail
        go_ret2
        exact ⟨Below.refl _ _, .inr ⟨K.out, _, rfl⟩⟩
      have d5' : (t.length + 1) ≤ 5 := by omega
      clear d5
      go_wp2_with fail
      go_loopw [5, 6] (fun n i wr => ∃ k : Nat, k ≤ (t.length + 1) ∧ wr = w ∧ i = .int .i64 (k : Int) ∧ n = .int .i64 (decV ((c :: t).take k) : Nat) ∧ ∀ y ∈ (c :: t).take k, digB y = true) (fun _ i _ => (t.length + 1) - (intOf i).toNat)
      case atStart => exact ⟨0, Nat.zero_le _, rfl, rfl, rfl, by simp⟩
      case round =>
        obtain ⟨k, hk, rfl, rfl, rfl, hall⟩ := hrel
        have HALL := Lib.hid hall
        have hl2 : ((c :: t).take k).length = k := by simp; omega
        have hv := decV_lt _ hall
        rw [hl2] at hv
        clear hall hl2
        by_cases hlt : k < (t.length + 1)
        · have hsz : k < (⟨(c :: t).toArray⟩ : ByteArray).size := hlt
          obtain ⟨y, hy⟩ : ∃ y, (⟨(c :: t).toArray⟩ : ByteArray)[k]'hsz = y := ⟨_, rfl⟩
          have hyq : ∀ h, (⟨(c :: t).toArray⟩ : ByteArray)[k]'h = y := fun _ => hy
          have hk2 : (k : Int) < t.length + 1 := by omega
          have hy2 : (c :: t)[k]? = some y := by rw [List.getElem?_eq_getElem hlt, ← hy]; rfl
          have hv4 : decV ((c :: t).take k) < 10000 := Nat.lt_of_lt_of_le hv (Nat.pow_le_pow_right (by omega) (show k ≤ 4 by omega))
          have HT := Lib.hid (show (c :: t).take (k + 1) = (c :: t).take k ++ [y] by rw [List.take_add_one, hy2]; rfl)
          have HDV := Lib.hid (decV_snoc ((c :: t).take k) y)
          have HM := Lib.hid (show y ∈ (c :: t) from List.mem_of_getElem? hy2)
          have hy8 : (y.toNat : Int) ≤ 255 := by have := y.toNat_lt; omega
          clear hv hy2 hy
          generalize decV ((c :: t).take k) = v at *
          by_cases d1 : (y.toNat : Int) < 48
          · have K := Lib.hid (HBD.out y HM.out (by simp [digB]; omega))
            clear HBD HB0 HB5
            go_wp2_with fail
            go_ret2
            exact ⟨Below.refl _ _, .inr ⟨K.out, _, rfl⟩⟩
          by_cases d2 : (57 : Int) < y.toNat
          · have K := Lib.hid (HBD.out y HM.out (by simp [digB]; omega))
            clear HBD HB0 HB5
            go_wp2_with fail
            go_ret2
            exact ⟨Below.refl _ _, .inr ⟨K.out, _, rfl⟩⟩
          have HY9 := Lib.hid (show digB y = true by simp [digB]; omega)
          have e1 : IntKind.u8.wrap ((y.toNat : Int) - 48) = (y.toNat : Int) - 48 := by
            have h1 : (0 : Int) ≤ (y.toNat : Int) - 48 := by omega
            have h2 : (y.toNat : Int) - 48 < 256 := by omega
            simp only [IntKind.wrap, IntKind.signed, IntKind.bits]
            simp
            omega
          have e2 : IntKind.i64.wrap ((y.toNat : Int) - 48) = (y.toNat : Int) - 48 := IntWalk.i64_in _ (by omega)
          go_wp2_with fail
          go_roundw
          case rel =>
            refine ⟨k + 1, by omega, trivial, by go_num, ?_, ?_⟩
            · rw [HT.out, HDV.out]
              congr 1
              omega
            · rw [HT.out]
              intro z hz
              rcases List.mem_append.1 hz with hz | hz
              · exact HALL.out z hz
              · rw [List.mem_singleton] at hz; subst hz; exact HY9.out
          case measure => simp [intOf]; omega
        · obtain rfl : k = (t.length + 1) := by omega
          have hft : (c :: t).take (t.length + 1) = (c :: t) := List.take_of_length_le (by simp)
          have hv5 : decV ((c :: t).take (t.length + 1)) < 100000 := Nat.lt_of_lt_of_le hv (Nat.pow_le_pow_right (by omega) (show (t.length + 1) ≤ 5 by omega))
          rw [hft] at hv5 ⊢
          clear hv hft HB5 HBD HB0
          obtain ⟨v, hv⟩ : ∃ v, decV (c :: t) = v := ⟨_, rfl⟩
          rw [hv] at hv5 ⊢
          have HV := Lib.hid hv
          clear hv
          have hli := Lib.itoa_length_le (v : Int) (by omega) (by omega)
          go_wp2_with fail
          refine (rDec_any _ _ (by omega) (by omega)).mono ?_
          rintro e w1 ⟨rfl, hb1⟩
          have HB1 := Lib.hid hb1
          clear hb1
          cases xe : (Lib.itoa (v : Int) == c :: t)
          · have K := Lib.hid (pos_bad HXN.out (by rw [HV.out]; simpa using xe))
            go_wp2_with fail
            go_ret2
            exact ⟨HB1.out, .inr ⟨K.out, _, rfl⟩⟩
          · have K := Lib.hid (show c :: t = Lib.itoa (v : Int) by simpa using (beq_iff_eq.1 xe).symm)
            go_wp2_with fail
            go_ret2
            exact ⟨HB1.out, .inl ⟨(v : Int), by omega, by omega, K.out, rfl⟩⟩

open Go.RowKit Go.Maps

/-- What the reference's Read returns. -/
def RdR (w : World) (s : List UInt8) (e : Ending) (w' : World) : Prop :=
  Below w.heap.size w w' ∧ ((∃ rs v, AllPr rs ∧ s = textF rs ∧ e = .returned (.tuple #[v, .bool true]) ∧ Rdgs w' v rs) ∨ (¬ IsText s ∧ ∃ v, e = .returned (.tuple #[v, .bool false])))
@[reducible] def boxX (xs : List Int) : Obj := .cells (xs.map (Value.int .i64)).toArray 71
theorem boxX_set (xs : List Int) (q : Nat) (n : Int) : (xs.map (Value.int .i64)).toArray.setIfInBounds q (.int .i64 n) = ((xs.set q n).map (Value.int .i64)).toArray := by
  rw [List.setIfInBounds_toArray, ← List.map_set]
theorem boxX_at {w W : World} {P : Nat} {xs : List Int} (h : Frm w [(P, boxX xs)] W) {q : Nat} (hq : q < xs.length) : W.cell? ⟨P, q, none⟩ = some (.int .i64 (xs.getD q 0)) := by
  rw [h.cells (List.mem_cons_self ..) q]
  simp [List.getD, hq]
section
variable {w : World} {ops : Array Oper} {rest : List Oper} {o : Oper} {a : Act} {Q : Exit → Act → World → Prop}
/-- append(out, reading). -/
theorem app_rd (hgd : o.guard = none) (s x : Operand) (ho : o.op = .call { callee := .builtin .append, args := #[s, x], argTypes := #[22, 22] })
    {base N : Nat} {v : Value} {rs : List Rdg} {r : Rdg} (hs : a.eval s = v) (hown : OwnR w base v rs) (hx : a.eval x = .slice (some ⟨N, 0, none⟩) 1 1) (hN : w.heap[N]? = some (rdBox r)) (hl : rs.length ≤ 4000) (hbase : base ≤ w.heap.size)
    (h : ∀ g cap w', OwnR w' base (.slice (some ⟨g, 0, none⟩) (rs.length + 1) cap) (rs ++ [r]) → w.grownBy w' v.ownBlock → wpList Tryz.prog ops Q rest (a.put o.dst (.slice (some ⟨g, 0, none⟩) (rs.length + 1) cap)) w') : wpList Tryz.prog ops Q (o :: rest) a w := by
  obtain ⟨i0, hi0, hz0, hz1, hz2⟩ := info_parts10 Tryz.infoRdg
  obtain ⟨hc, _⟩ := boxCells hN
  refine wpList_append_lies w hgd s x _ ho base 51 i0 _ 10 80 Tryz.underlying22 hi0 hz0 hz1 hz2 rfl (by omega) v rs.length (rdsL rs) hs hown ⟨N, 0, none⟩ 1 1 (rdL r) hx rfl (fun j u hj => ?_) rdL_one (by omega) (by unfold maxLen; omega) (by omega) hbase _ rfl ?_
  · rw [Go.WideShapes.add_plain, Nat.zero_add, hc j]
    simpa [rdL] using hj
  · intro g cap w1 hown1 hgrow _ _
    rw [← rdsL_add] at hown1
    exact h g cap w1 (by show w1.ownsRow _ _ _ _ (rs ++ [r]).length _; rw [List.length_append]; exact hown1) hgrow
end
theorem OwnR.own {w : World} {base : Nat} {v : Value} {rs : List Rdg} (h : OwnR w base v rs) : ∀ k, v.ownBlock = some k → base ≤ k := fun k hk => (World.ownsRow.lt h k hk).1
theorem spl_word {b : UInt8} : ∀ {l x : List UInt8}, x ∈ spl b l → x.length ≤ l.length
  | [], x, h => by
    simp [spl] at h
    simp [h]
  | c :: l, x, h => by
    rw [spl_cons] at h
    split at h
    · rcases List.mem_cons.1 h with rfl | h
      · simp
      · have := spl_word h
        simp
        omega
    · split at h
      · next hs => exact absurd hs (spl_ne _ _)
      · next w ws hs =>
        rcases List.mem_cons.1 h with rfl | h
        · have := spl_word (b := b) (l := l) (x := w) (by rw [hs]; simp)
          simp
          exact this
        · have := spl_word (b := b) (l := l) (x := x) (by rw [hs]; simp [h])
          simp
          omega
theorem rows_snoc {L : List (List UInt8)} {rs : List Rdg} {r : Rdg} {k : Nat} {x : List UInt8} (h : rs.map rowF = L.take k) (hx : L[k]? = some x) (hr : x = rowF r) : (rs ++ [r]).map rowF = L.take (k + 1) := by
  rw [List.map_append, h, List.take_add_one, hx, hr]
  rfl
theorem allPr_snoc {rs : List Rdg} {r : Rdg} (h : AllPr rs) (hr : PrR r) : AllPr (rs ++ [r]) := fun x hx => by
  rcases List.mem_append.1 hx with hx | hx
  · exact h x hx
  · rw [List.mem_singleton.1 hx]; exact hr
set_option maxHeartbeats 16000000 in
set_option maxRecDepth 100000 in
theorem rRead_any (s : List UInt8) (w : World) (hs : s.length ≤ 3200) :
    Calls Tryz.prog 11 #[str s] w fun e w' => RdR w s e w' := by
  have HSP : Hid (Calls Tryz.prog 30 #[str s, .int .u8 10] w fun e w' => SplPost w (spl 10 s) e w') := Lib.hid (rSplit_any ⟨s.toArray⟩ 10 10 rfl w hs)
  go_enter Tryz.func11, Tryz.ntmps11
  go_wp2_with fail
  refine HSP.out.mono ?_
  rintro e w1 ⟨v, rfl, hO, hb⟩
  have HB1 := Lib.hid hb
  clear hb HSP
  obtain ⟨g, cap, rfl, hg0, hgl, hc1, hc2, hcell⟩ := hO.cells (spl_ne 10 s)
  have hll := spl_len 10 s
  have HNL : Hid (∀ k x, k + 2 < (spl 10 s).length → (spl 10 s)[k]? = some x → (¬ ∃ r, PrR r ∧ x = rowF r) → ¬ IsText s) := Lib.hid (fun k x h1 h2 h3 => not_line h1 h2 h3)
  have HNA : Hid (∀ rs, AllPr rs → (spl 10 s).take ((spl 10 s).length - 2) = rs.map rowF → textF rs ≠ s → ¬ IsText s) := Lib.hid (fun rs h1 h2 h3 => not_again h1 h2 h3)
  have HXL : Hid (∀ x, x ∈ spl 10 s → x.length ≤ s.length) := Lib.hid (fun x h => spl_word h)
  generalize spl 10 s = L at *
  have HCL := Lib.hid hcell
  clear hcell hO
  unfold maxLen at hc2
  go_wp2_with fail
  go_loopw [5, 6] (fun v i wr => ∃ (k : Nat) (rs : List Rdg), k ≤ L.length - 2 ∧ i = .int .i64 (k : Int) ∧ rs.length = k ∧ AllPr rs ∧ rs.map rowF = L.take k ∧ OwnR wr w1.heap.size v rs ∧ Below w1.heap.size w1 wr) (fun _ i _ => L.length - (intOf i).toNat)
  case atStart => exact ⟨0, [], Nat.zero_le _, rfl, rfl, (fun r h => by cases h), rfl, World.ownsRow_nil .., Below.refl _ _⟩
  case round =>
    obtain ⟨k, rs, hk, rfl, hrl, har, hrows, hO, hB⟩ := hrel
    have HA := Lib.hid har
    have HROW := Lib.hid hrows
    have HO := Lib.hid hO
    have HB := Lib.hid hB
    have hz := hB.size
    clear har hrows hO hB
    by_cases hlt : k + 2 < L.length
    · have hlt2 : (k : Int) < (L.length : Int) - 2 := by omega
      obtain ⟨x, hx⟩ : ∃ x, L[k]? = some x := ⟨_, List.getElem?_eq_getElem (by omega)⟩
      have hcx := (HB.out.cell (p := ⟨g, k, none⟩) hgl).trans (HCL.out k x hx)
      have HX := Lib.hid hx
      have hxl := HXL.out x (List.mem_of_getElem? hx)
      have HNO := Lib.hid (HNL.out k x hlt hx)
      have HSP : Hid (Calls Tryz.prog 30 #[str x, .int .u8 32] wr fun e w' => SplPost wr (spl 32 x) e w') := Lib.hid (rSplit_any ⟨x.toArray⟩ 32 32 rfl wr (by show x.length ≤ 3200; omega))
      clear hx
      go_wp2_with fail
      refine HSP.out.mono ?_
      rintro e w2 ⟨v2, rfl, hO2, hb2⟩
      have HB2 := Lib.hid hb2
      have hz2 := hb2.size
      clear hb2 HSP hcx
      obtain ⟨g2, cap2, rfl, hg20, hg2l, hc21, hc22, hcell2⟩ := hO2.cells (spl_ne 32 x)
      have HWR : Hid (∀ r, PrR r → x = rowF r → spl 32 x = wordsF r) := Lib.hid (fun r hr h => row_words hr h)
      have HBK : Hid (∀ r, spl 32 x = wordsF r → x = rowF r) := Lib.hid (fun r h => row_back h)
      have HYL : Hid (∀ y, y ∈ spl 32 x → y.length ≤ x.length) := Lib.hid (fun x h => spl_word h)
      generalize spl 32 x = W at *
      have HCW := Lib.hid hcell2
      clear hcell2 hO2
      unfold maxLen at hc22
      have HBW := Lib.hid (below_step HB1.out (below_step HB.out HB2.out))
      by_cases h10 : ¬ W.length = 10
      · have K := Lib.hid (HNO.out (fun ⟨r, hr, e⟩ => h10 (by rw [HWR.out r hr e]; rfl)))
        have h10b : ((W.length : Int) == 10) = false := by simpa using (by omega : ¬ (W.length : Int) = 10)
        go_wp2_with fail
        go_ret2
        exact ⟨HBW.out, .inr ⟨K.out, _, rfl⟩⟩
      have h10 : W.length = 10 := Classical.not_not.1 h10
      have h10b : ((W.length : Int) == 10) = true := by simpa using (by omega : (W.length : Int) = 10)
      obtain ⟨u, hu⟩ : ∃ u, W[2]? = some u := ⟨_, List.getElem?_eq_getElem (by omega)⟩
      have hcu := HCW.out 2 u hu
      have HU := Lib.hid hu
      clear hu
      by_cases h1 : ¬ u.length = 1
      · have K := Lib.hid (HNO.out (fun ⟨r, hr, e⟩ => h1 (by
          have q := HU.out
          rw [HWR.out r hr e] at q
          rw [← Option.some.inj q]
          exact letF_len _)))
        have h1b : ((u.length : Int) == 1) = false := by simpa using (by omega : ¬ (u.length : Int) = 1)
        go_wp2_with fail
        go_ret2
        exact ⟨HBW.out, .inr ⟨K.out, _, rfl⟩⟩
      have h1 : u.length = 1 := Classical.not_not.1 h1
      have h1b : ((u.length : Int) == 1) = true := by simpa using (by omega : (u.length : Int) = 1)
      go_wp2_with fail
      go_loopw [9] (fun j wq => ∃ (q : Nat) (xs : List Int), q ≤ 10 ∧ j = .int .i64 (q : Int) ∧ xs.length = 10 ∧ (∀ i, i < q → i ≠ 2 → -99999 ≤ xs.getD i 0 ∧ xs.getD i 0 ≤ 99999 ∧ W[i]? = some (Lib.itoa (xs.getD i 0))) ∧ Frm w2 [(w2.heap.size, boxX xs)] wq) (fun j _ => 10 - (intOf j).toNat)
      case atStart => exact ⟨0, [0, 0, 0, 0, 0, 0, 0, 0, 0, 0], by omega, rfl, rfl, (fun i h => by omega), (Frm.nil w2).add _ rfl⟩
      case round =>
        obtain ⟨q, xs, hq, rfl, hxs, hall, hF⟩ := hrel
        have HALL := Lib.hid hall
        have HF := Lib.hid hF
        clear hall hF
        by_cases hq10 : q < 10
        · by_cases hq2 : q = 2
          · subst hq2
            go_wp2_with fail
            go_roundw
            case rel => exact ⟨3, xs, by omega, rfl, hxs, (fun i h h2 => HALL.out i (by omega) h2), HF.out⟩
            case measure => simp [intOf]
          · have hq2b : ((q : Int) == 2) = false := by simpa using (by omega : ¬ (q : Int) = 2)
            obtain ⟨y, hy⟩ : ∃ y, W[q]? = some y := ⟨_, List.getElem?_eq_getElem (by omega)⟩
            have hcy := (HF.out.b.cell (p := ⟨g2, q, none⟩) hg2l).trans (HCW.out q y hy)
            have HY := Lib.hid hy
            have hyl := HYL.out y (List.mem_of_getElem? hy)
            have hw3 := HF.out.lt (List.mem_cons_self ..)
            clear hy
            go_wp2_with fail
            refine (rNum_any y _ (by omega)).mono ?_
            rintro e w4 ⟨hb4, ⟨n, n0, n1, hyn, rfl⟩ | ⟨hno, n, rfl⟩⟩
            · have HF4 := Lib.hid (HF.out.below hb4)
              have HYN := Lib.hid hyn
              have hcq := boxX_at HF4.out (q := q) (by omega)
              have hfq := HF4.out.free (List.mem_cons_self ..) q
              clear hb4 hyn
              go_wp2_with fail
              go_roundw
              case rel =>
                refine ⟨q + 1, xs.set q n, by omega, by go_num, by simpa using hxs, fun i hi h2 => ?_, ?_⟩
                · by_cases hiq : i = q
                  · subst hiq
                    have e : (xs.set i n).getD i 0 = n := by simp [List.getD, hxs, hq10]
                    rw [e]
                    exact ⟨n0, n1, by rw [HY.out, HYN.out]⟩
                  · have e : (xs.set q n).getD i 0 = xs.getD i 0 := by simp [List.getD, List.getElem?_set_ne (Ne.symm hiq)]
                    rw [e]
                    exact HALL.out i (by omega) h2
                · have z := Frm.put HF4.out (Nat.le_refl _) (by simp) q (.int .i64 n)
                  rw [boxX_set] at z
                  exact z
              case measure => simp [intOf]; omega
            · have K := Lib.hid (HNO.out (fun ⟨r, hr, e⟩ => hno (words_good hr hq2 (by rw [← HWR.out r hr e]; exact HY.out))))
              have HBZ := Lib.hid (below_step HBW.out (below_step HF.out.b hb4))
              clear hb4 hno
              go_wp2_with fail
              go_ret2
              exact ⟨HBZ.out, .inr ⟨K.out, _, rfl⟩⟩
        · obtain rfl : q = 10 := by omega
          go_wp2_with fail
          go_loopw [12, 13] (fun cl j wq => ∃ (q : Nat) (m : Int), 1 ≤ q ∧ q ≤ 4 ∧ j = .int .i64 (q : Int) ∧ cl = .int .i64 m ∧ 0 ≤ m ∧ m ≤ 3 ∧ (m = 0 → ∀ i : Nat, 1 ≤ i → i < q → letF i ≠ u) ∧ (1 ≤ m → letF m = u) ∧ Frm w2 [(w2.heap.size, boxX xs)] wq) (fun _ j _ => 4 - (intOf j).toNat)
          case atStart => exact ⟨1, 0, by omega, by omega, rfl, rfl, by omega, by omega, (fun _ i h1 h2 => by omega), (fun h => by omega), HF.out⟩
          case round =>
            obtain ⟨q, m, hq1, hq4, rfl, rfl, hm0, hm3, hmn, hms, hF⟩ := hrel
            have HMN := Lib.hid hmn
            have HMS := Lib.hid hms
            have HF := Lib.hid hF
            have hcu2 := (hF.b.cell (p := ⟨g2, 2, none⟩) hg2l).trans (HCW.out 2 u HU.out)
            clear hmn hms hF hcu
            by_cases hq3 : q < 4
            · have hsl : ∀ W : World, (Instr.slice 9 (.string ⟨#[32, 114, 115, 101]⟩) (some (.int .i64 (q : Int))) (some (.int .i64 ((q : Int) + 1))) none).run Tryz.prog W = .ok (str (letF q)) W := by
                obtain rfl | rfl | rfl : q = 1 ∨ q = 2 ∨ q = 3 := by omega
                all_goals (intro W; kernel_rfl)
              have hwr : IntKind.i64.wrap ((q : Int) + 1) = (q : Int) + 1 := IntWalk.i64_in _ (by omega)
              cases he : (letF q == u)
              · have HNE := Lib.hid (show letF q ≠ u by simpa using he)
                go_upto_region 22 with fail
                go_quiet (fail)
                go_wp2_with fail
                go_roundw
                case rel => exact ⟨q + 1, m, by omega, by omega, by go_num, rfl, hm0, hm3, (fun h i h1 h2 => by
                  by_cases hi : i = q
                  · subst hi; exact HNE.out
                  · exact HMN.out h i h1 (by omega)), HMS.out, HF.out.drewN _⟩
                case measure => simp [intOf]; omega
              · have HEQ := Lib.hid (show letF q = u by simpa using he)
                go_upto_region 22 with fail
                go_quiet (fail)
                go_wp2_with fail
                go_roundw
                case rel => exact ⟨q + 1, q, by omega, by omega, by go_num, rfl, by omega, by omega, (fun h => by omega), (fun _ => HEQ.out), HF.out.drewN _⟩
                case measure => simp [intOf]; omega
            · obtain rfl : q = 4 := by omega
              by_cases hm : m = 0
              · have K := Lib.hid (HNO.out (fun ⟨r, hr, e⟩ => by
                  have q := HU.out
                  rw [HWR.out r hr e] at q
                  have q2 := Option.some.inj q
                  have c0 := hr.c0
                  have c1 := hr.c1
                  refine HMN.out hm r.cl.toNat (by omega) (by omega) ?_
                  rw [show ((r.cl.toNat : Nat) : Int) = r.cl by omega]
                  exact q2))
                have HBZ := Lib.hid (below_step HBW.out HF.out.b)
                subst hm
                go_wp2_with fail
                go_ret2
                exact ⟨HBZ.out, .inr ⟨K.out, _, rfl⟩⟩
              · have hmb : (m == 0) = false := by simpa using hm
                have hwo := words_of (cl := m) h10 (fun i hi h2 => HALL.out i hi h2) (by rw [HU.out, HMS.out (by omega)]) (by omega) hm3
                have HPR := Lib.hid hwo.1
                have HRF := Lib.hid (HBK.out _ hwo.2)
                have HO3 := Lib.hid ((HO.out.below HB2.out).below HF.out.b)
                have HB3 := Lib.hid (below_step (below_step HB.out HB2.out) HF.out.b)
                have hz3 := HF.out.b.size
                have y0 := (show _ = some (Value.int .i64 (rdgOf xs m).day) from boxX_at HF.out (q := 0) (by omega))
                have y1 := (show _ = some (Value.int .i64 (rdgOf xs m).mi) from boxX_at HF.out (q := 1) (by omega))
                have y3 := (show _ = some (Value.int .i64 (rdgOf xs m).me) from boxX_at HF.out (q := 3) (by omega))
                have y4 := (show _ = some (Value.int .i64 (rdgOf xs m).al) from boxX_at HF.out (q := 4) (by omega))
                have y5 := (show _ = some (Value.int .i64 (rdgOf xs m).ah) from boxX_at HF.out (q := 5) (by omega))
                have y6 := (show _ = some (Value.int .i64 (rdgOf xs m).dl) from boxX_at HF.out (q := 6) (by omega))
                have y7 := (show _ = some (Value.int .i64 (rdgOf xs m).dh) from boxX_at HF.out (q := 7) (by omega))
                have y8 := (show _ = some (Value.int .i64 (rdgOf xs m).wl) from boxX_at HF.out (q := 8) (by omega))
                have y9 := (show _ = some (Value.int .i64 (rdgOf xs m).wh) from boxX_at HF.out (q := 9) (by omega))
                have hcl : m = (rdgOf xs m).cl := rfl
                clear hwo
                generalize rdgOf xs m = r at *
                subst hcl
                go_wp2_with (at_builtin; go_must (refine app_rd (r := r) (by rfl) _ _ (by rfl) ?_ (World.ownsRow.alloc HO3.out _) ?_ (heap_new _ _ rfl) (by omega) (by simp <;> omega) ?_); rfl; rfl; intro g3 cap3 wa hO4 hg4; have HO4 := Lib.hid hO4; have HB4 := Lib.hid ((below_al HB3.out _).grown hg4 (by simp <;> omega) HO.out.own); clear hO4 hg4)
                go_roundw
                case rel => exact ⟨k + 1, rs ++ [r], by omega, by go_num, by simp [hrl], allPr_snoc HA.out HPR.out, rows_snoc HROW.out HX.out HRF.out, (by have z := HO4.out; rw [hrl] at z; exact z), HB4.out⟩
                case measure => simp [intOf]; omega
    · obtain rfl : k = L.length - 2 := by omega
      have hlt2 : ¬ (((L.length - 2 : Nat) : Int) < (L.length : Int) - 2) := by omega
      have HRD := Lib.hid (own_rds HO.out)
      have HBW := Lib.hid (below_step HB1.out HB.out)
      obtain ⟨T, hT⟩ : ∃ T, textF rs = T := ⟨_, rfl⟩
      have HT := Lib.hid hT
      have HPT : Hid (Calls Tryz.prog 9 #[_] wr fun e w' => e = .returned (str T) ∧ Below wr.heap.size wr w') := Lib.hid (by rw [← hT]; exact rPrint_any HRD.out HA.out (by omega))
      clear hT
      go_wp2_with fail
      refine HPT.out.mono ?_
      rintro e w3 ⟨rfl, hb3⟩
      have HRD3 := Lib.hid (own_rds (HO.out.below hb3))
      have HB3 := Lib.hid (below_step HBW.out hb3)
      clear hb3
      cases xe : (T == s)
      · have K := Lib.hid (HNA.out rs HA.out HROW.out.symm (by rw [HT.out]; simpa using xe))
        go_wp2_with fail
        go_ret2
        exact ⟨HB3.out, .inr ⟨K.out, _, rfl⟩⟩
      · have K := Lib.hid (show s = textF rs by rw [HT.out]; simpa using (beq_iff_eq.1 xe).symm)
        go_wp2_with fail
        go_ret2
        exact ⟨HB3.out, .inl ⟨rs, _, HA.out, K.out, rfl, HRD3.out⟩⟩
end Go.Proofs.YtiindlbllhbofaaGreatDoor
