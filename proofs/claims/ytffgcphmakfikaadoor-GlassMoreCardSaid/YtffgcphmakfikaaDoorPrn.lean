/- The error of a sheet, and its text, by the program. -/
import Derived.Test.YtffgcphmakfikaaDoorLin
set_option linter.unusedVariables false
set_option linter.unusedSimpArgs false
namespace Go.Proofs.YtffgcphmakfikaaDoor
open Go.RowKit

/-- The cells of readings in a row of memory. -/
def RdgsAt (w : World) (b off : Nat) (rs : List Rdg) : Prop :=
  ∀ i r, rs[i]? = some r → w.cell? ⟨b, off + i * 10, none⟩ = some (.int .i64 r.day) ∧ w.cell? ⟨b, off + i * 10 + 1, none⟩ = some (.int .i64 r.mi) ∧ w.cell? ⟨b, off + i * 10 + 2, none⟩ = some (.int .i64 r.cl) ∧ w.cell? ⟨b, off + i * 10 + 3, none⟩ = some (.int .i64 r.me) ∧ w.cell? ⟨b, off + i * 10 + 4, none⟩ = some (.int .i64 r.al) ∧ w.cell? ⟨b, off + i * 10 + 5, none⟩ = some (.int .i64 r.ah) ∧ w.cell? ⟨b, off + i * 10 + 6, none⟩ = some (.int .i64 r.dl) ∧ w.cell? ⟨b, off + i * 10 + 7, none⟩ = some (.int .i64 r.dh) ∧ w.cell? ⟨b, off + i * 10 + 8, none⟩ = some (.int .i64 r.wl) ∧ w.cell? ⟨b, off + i * 10 + 9, none⟩ = some (.int .i64 r.wh)
/-- A slice that reads as a list of readings. -/
def Rdgs (w : World) (v : Value) (rs : List Rdg) : Prop :=
  ∃ A cap, v = .slice A rs.length cap ∧ rs.length ≤ cap ∧ cap ≤ maxLen ∧ (rs = [] ∨ ∃ b off, A = some ⟨b, off, none⟩ ∧ b < w.heap.size ∧ RdgsAt w b off rs)
theorem RdgsAt.below {w w' : World} {B b off : Nat} {rs : List Rdg} (h : RdgsAt w b off rs) (hb : Below B w w') (hB : b < B) : RdgsAt w' b off rs := fun i r hr => by
  obtain ⟨h0, h1, h2, h3, h4, h5, h6, h7, h8, h9⟩ := h i r hr
  exact ⟨(hb.cell (p := ⟨b, _, none⟩) hB).trans h0, (hb.cell (p := ⟨b, _, none⟩) hB).trans h1, (hb.cell (p := ⟨b, _, none⟩) hB).trans h2, (hb.cell (p := ⟨b, _, none⟩) hB).trans h3, (hb.cell (p := ⟨b, _, none⟩) hB).trans h4, (hb.cell (p := ⟨b, _, none⟩) hB).trans h5, (hb.cell (p := ⟨b, _, none⟩) hB).trans h6, (hb.cell (p := ⟨b, _, none⟩) hB).trans h7, (hb.cell (p := ⟨b, _, none⟩) hB).trans h8, (hb.cell (p := ⟨b, _, none⟩) hB).trans h9⟩
theorem Rdgs.below {w w' : World} {v : Value} {rs : List Rdg} (h : Rdgs w v rs) (hb : Below w.heap.size w w') : Rdgs w' v rs := by
  obtain ⟨A, cap, hv, hl, hm, h⟩ := h
  refine ⟨A, cap, hv, hl, hm, ?_⟩
  rcases h with h | ⟨b, off, hA, hlt, hc⟩
  · exact .inl h
  · exact .inr ⟨b, off, hA, Nat.lt_of_lt_of_le hlt hb.size, hc.below hb hlt⟩

theorem allR_take {p : Rdg → Bool} {rs : List Rdg} {n : Nat} {r : Rdg} (hc : rs[n]? = some r) (h : (rs.take n).all p = true) (hp : p r = true) : (rs.take (n + 1)).all p = true := by
  rw [List.take_add_one, hc]
  simp only [List.all_append, h, Option.toList, List.all_cons, hp, List.all_nil, Bool.and_true]
theorem allR_false {p : Rdg → Bool} {rs : List Rdg} {n : Nat} {r : Rdg} (hc : rs[n]? = some r) (hp : p r = false) : rs.all p = false := by
  rw [List.all_eq_false]
  exact ⟨r, List.mem_of_getElem? hc, by simp [hp]⟩

def sheetF (rs : List Rdg) : Int := if 20 < rs.length then 3 else if rs.all readB then 0 else 2

set_option maxHeartbeats 800000 in
set_option maxRecDepth 100000 in
theorem sheet_some (rs : List Rdg) (b off cap : Nat) (w : World) (hcap : rs.length ≤ cap) (hm : cap ≤ maxLen) (hb : b < w.heap.size) (hc : RdgsAt w b off rs) :
    Calls Tryd.prog 42 #[.slice (some ⟨b, off, none⟩) rs.length cap] w fun e w' => e = .returned (.int .i64 (sheetF rs)) ∧ Below w.heap.size w w' := by
  unfold maxLen at hm
  by_cases h20 : 20 < rs.length
  · have hs := Lib.hid (show sheetF rs = 3 by simp [sheetF, h20])
    clear hc
    go_enter Tryd.func42, Tryd.ntmps42
    go_wp2
    go_ret
    exact ⟨ret_int hs.out.symm, Below.refl _ _⟩
  · go_enter Tryd.func42, Tryd.ntmps42
    go_wp2_with fail
    go_loopw [4, 10] (fun _ k wr => ∃ n : Nat, n ≤ rs.length ∧ k = .int .i64 n ∧ (rs.take n).all readB = true ∧ Below w.heap.size w wr) (fun _ k _ => rs.length - (intOf k).toNat)
    case atStart => exact ⟨0, Nat.zero_le _, rfl, by simp, Below.refl _ _⟩
    case round =>
      obtain ⟨n, hn, rfl, hall, hB⟩ := hrel
      have hbw : ∀ o, wr.cell? ⟨b, o, none⟩ = w.cell? ⟨b, o, none⟩ := fun o => hB.cell (p := ⟨b, o, none⟩) hb
      by_cases hlt : n < rs.length
      · obtain ⟨h0, h1, h2, h3, h4, h5, h6, h7, h8, h9⟩ := hc n rs[n] (List.getElem?_eq_getElem hlt)
        have g0 := (hbw _).trans h0; have g1 := (hbw _).trans h1; have g2 := (hbw _).trans h2; have g3 := (hbw _).trans h3; have g4 := (hbw _).trans h4; have g5 := (hbw _).trans h5; have g6 := (hbw _).trans h6; have g7 := (hbw _).trans h7; have g8 := (hbw _).trans h8; have g9 := (hbw _).trans h9
        have hcn : rs[n]? = some rs[n] := List.getElem?_eq_getElem hlt
        have Hcn := Lib.hid hcn
        have Hall := Lib.hid hall
        have HB := Lib.hid hB
        have hz := hB.size
        generalize rs[n] = r at *
        clear hcn hall hc hbw hB h0 h1 h2 h3 h4 h5 h6 h7 h8 h9
        cases hq : readB r
        · have Hq := Lib.hid hq
          go_wp2_with (go_at_call 29; refine (soundReading_any r _).mono ?_; rintro e w1 ⟨rfl, hb1⟩)
          go_ret
          exact ⟨ret_int (by simp [sheetF, h20, allR_false Hcn.out Hq.out]), (HB.out.alloc HB.out.size _).trans (hb1.mono (by have := HB.out.size; simp; omega))⟩
        · have Hq := Lib.hid hq
          go_wp2_with (go_at_call 29; refine (soundReading_any r _).mono ?_; rintro e w1 ⟨rfl, hb1⟩)
          go_roundw
          case rel => exact ⟨n + 1, by omega, by go_num, allR_take Hcn.out Hall.out Hq.out, (HB.out.alloc HB.out.size _).trans (hb1.mono (by have := HB.out.size; simp; omega))⟩
          case measure => simp [intOf]; omega
      · obtain rfl : n = rs.length := by omega
        rw [List.take_length] at hall
        have hs := Lib.hid (show sheetF rs = 0 by simp [sheetF, h20, hall])
        clear hall hc hbw
        go_wp2
        go_ret
        exact ⟨ret_int hs.out.symm, hB⟩
set_option maxHeartbeats 800000 in
theorem sheet_nil (A : Option Addr) (cap : Nat) (w : World) :
    Calls Tryd.prog 42 #[.slice A 0 cap] w fun e w' => e = .returned (.int .i64 (sheetF [])) ∧ Below w.heap.size w w' := by
  go_enter Tryd.func42, Tryd.ntmps42
  go_wp2_with fail
  go_loopw [4, 10] (fun _ k wr => k = .int .i64 0 ∧ wr = w) (fun _ k _ => (0 - intOf k).toNat)
  case atStart => exact ⟨rfl, rfl⟩
  case round =>
    obtain ⟨rfl, rfl⟩ := hrel
    go_wp2
    go_ret
    exact ⟨ret_int (by simp [sheetF]), Below.refl _ _⟩
theorem sheet_any {v : Value} {rs : List Rdg} {w : World} (h : Rdgs w v rs) :
    Calls Tryd.prog 42 #[v] w fun e w' => e = .returned (.int .i64 (sheetF rs)) ∧ Below w.heap.size w w' := by
  obtain ⟨A, cap, rfl, hl, hm, h⟩ := h
  rcases h with rfl | ⟨b, off, rfl, hlt, hc⟩
  · exact sheet_nil A cap w
  · exact sheet_some rs b off cap w hl hm hlt hc

def linesF (rs : List Rdg) : List UInt8 := (rs.map lineF).flatten
def textF (rs : List Rdg) : List UInt8 := linesF rs ++ endF (linesF rs)
theorem linesF_succ {rs : List Rdg} {n : Nat} {r : Rdg} (h : rs[n]? = some r) : linesF (rs.take (n + 1)) = linesF (rs.take n) ++ lineF r := by
  simp [linesF, List.take_add_one, h]
theorem goodWords {r : Rdg} (h : r.Good) : ∀ x ∈ wordsF r, x.length ≤ 21 := by
  obtain ⟨d0, d1, m0, m1, c0, c1, b0, b1, a0, a1, a2, a3, a4, a5, a6, a7, a8⟩ := h
  exact words_len (by omega) (by omega) (by omega) (by omega) (by omega) (by omega) (by omega) (by omega) (by omega) (by omega) (by omega) (by omega) (by omega) (by omega) (by omega) (by omega) (by omega) (by omega)
theorem lineF_len {r : Rdg} (h : r.Good) : (lineF r).length ≤ 221 := by
  have h1 := join_len (wordsF r) (goodWords h)
  have h2 : (wordsF r).length = 10 := rfl
  simp only [lineF, List.length_append, List.length_cons, List.length_nil]
  omega
theorem linesF_len {rs : List Rdg} (h : ∀ r ∈ rs, r.Good) : (linesF rs).length ≤ 221 * rs.length := by
  induction rs with
  | nil => simp [linesF]
  | cons r rs ih =>
    have h1 := lineF_len (h r (by simp))
    have h2 := ih (fun x hx => h x (by simp [hx]))
    simp only [linesF, List.map_cons, List.flatten_cons, List.length_append, List.length_cons] at *
    omega
def Asc (l : List UInt8) : Prop := ∀ c ∈ l, c.toNat < 128
theorem Asc.app {a b : List UInt8} (ha : Asc a) (hb : Asc b) : Asc (a ++ b) := fun c hc => (List.mem_append.1 hc).elim (ha c) (hb c)
theorem asc_dec (u : Nat) : Asc (Lib.decDigits u) := fun c hc => by
  rw [Lib.decDigits_eq] at hc
  obtain ⟨t, _, rfl⟩ := List.mem_map.1 hc
  unfold Lib.dg
  have : u / 10 ^ (Lib.nDigits u - 1 - t) % 10 < 10 := Nat.mod_lt _ (by omega)
  rw [UInt8.toNat_ofNat']
  omega
theorem asc_itoa (n : Int) : Asc (Lib.itoa n) := by
  unfold Lib.itoa
  split
  · intro c hc
    rcases List.mem_cons.1 hc with rfl | hc
    · decide
    · exact asc_dec _ c hc
  · exact asc_dec _
theorem asc_join {ws : List (List UInt8)} (h : ∀ x ∈ ws, Asc x) : Asc (Lib.join ws [32]) := by
  induction ws with
  | nil => intro c hc; simp [Lib.join, List.intercalate] at hc
  | cons x r ih =>
    have h2 := ih (fun y hy => h y (by simp [hy]))
    cases r with
    | nil => rw [Lib.join_one]; exact h x (by simp)
    | cons y r =>
      rw [Lib.join_cons] at h2 ⊢
      simp only [Lib.joinTail, List.map_cons, List.flatten_cons, List.append_assoc] at *
      refine (h x (by simp)).app ?_
      exact Asc.app (fun c hc => by rw [List.mem_singleton.1 hc]; decide) h2
theorem letF_cases (cl : Int) : letF cl = [114] ∨ letF cl = [115] ∨ letF cl = [101] := by
  unfold letF
  split
  · exact .inl rfl
  · split
    · exact .inr (.inl rfl)
    · exact .inr (.inr rfl)
theorem asc_line (r : Rdg) : Asc (lineF r) := by
  refine Asc.app (asc_join fun x hx => ?_) (fun c hc => by rw [List.mem_singleton.1 hc]; decide)
  simp only [wordsF, List.mem_cons, List.not_mem_nil, or_false] at hx
  rcases hx with rfl | rfl | rfl | rfl | rfl | rfl | rfl | rfl | rfl | rfl
  all_goals first
    | exact asc_itoa _
    | (rcases letF_cases r.cl with h | h | h <;> (rw [h]; intro c hc; rw [List.mem_singleton.1 hc]; decide))
theorem asc_lines (rs : List Rdg) : Asc (linesF rs) := by
  intro c hc
  simp only [linesF, List.mem_flatten, List.mem_map] at hc
  obtain ⟨l, ⟨r, _, rfl⟩, hc⟩ := hc
  exact asc_line r c hc
theorem endF_len (l : List UInt8) (h : 0 ≤ (digs l).1) : (endF l).length ≤ 30 := by
  have := Lib.itoa_length_le (checkF l) (by unfold checkF; omega) (by unfold checkF; omega)
  simp only [endF, List.length_append, List.length_cons, List.length_nil, List.length_drop]
  omega

set_option maxHeartbeats 1000000 in
set_option maxRecDepth 100000 in
theorem print_bad {v : Value} {rs : List Rdg} {w : World} (hc : Rdgs w v rs) (hs : ¬ sheetF rs = 0) :
    Calls Tryd.prog 24 #[v] w fun e w' => e = .returned (.tuple #[.string ⟨#[]⟩, .int .i64 (sheetF rs)]) ∧ Below w.heap.size w w' := by
  have h0 : (!(sheetF rs == 0)) = true := by simpa using hs
  have h1 : (sheetF rs == 0) = false := by simpa using hs
  go_enter Tryd.func24, Tryd.ntmps24
  go_wp2_with (go_at_call 42; refine (sheet_any hc).mono ?_; rintro e w1 ⟨rfl, hb1⟩)
  go_ret2
  exact ⟨rfl, hb1⟩

set_option maxHeartbeats 1000000 in
set_option maxRecDepth 100000 in
theorem print_some (rs : List Rdg) (b off cap : Nat) (w : World) (hcap : rs.length ≤ cap) (hm : cap ≤ maxLen) (hb : b < w.heap.size) (hc : RdgsAt w b off rs) (hs : sheetF rs = 0) (ht : Tab w) :
    Calls Tryd.prog 24 #[.slice (some ⟨b, off, none⟩) rs.length cap] w fun e w' => e = .returned (.tuple #[str (textF rs), .int .i64 0]) ∧ Below w.heap.size w w' := by
  have hlen : rs.length ≤ 20 := by
    rcases Nat.lt_or_ge 20 rs.length with h | h
    · simp [sheetF, h] at hs
    · exact h
  have hgood : ∀ r ∈ rs, r.Good := by
    have h : rs.all readB = true := by
      cases hq : rs.all readB
      · simp [sheetF, Nat.not_lt.2 hlen, hq] at hs
      · rfl
    intro r hr
    exact good_of_readB (List.all_eq_true.1 h r hr)
  have HS : Hid (Calls Tryd.prog 42 #[.slice (some ⟨b, off, none⟩) rs.length cap] w fun e w' => e = .returned (.int .i64 0) ∧ Below w.heap.size w w') := Lib.hid (by rw [← hs]; exact sheet_some rs b off cap w hcap hm hb hc)
  have Hgood := Lib.hid hgood
  have HC := Lib.hid hc
  have HT := Lib.hid ht
  clear hs ht hc hgood
  unfold maxLen at hm
  go_enter Tryd.func24, Tryd.ntmps24
  go_wp2_with (go_at_call 42; refine HS.out.mono ?_; rintro e w1 ⟨rfl, hb1⟩; have HB := Lib.hid hb1; clear hb1)
  go_loopw [5, 7, 15] (fun l _ k wr => ∃ n : Nat, n ≤ rs.length ∧ k = .int .i64 n ∧ l = str (linesF (rs.take n)) ∧ Below w.heap.size w wr) (fun _ _ k _ => rs.length - (intOf k).toNat)
  case atStart => exact ⟨0, Nat.zero_le _, rfl, rfl, HB.out⟩
  case round =>
    obtain ⟨n, hn, rfl, rfl, hB⟩ := hrel
    have hbw : ∀ o, wr.cell? ⟨b, o, none⟩ = w.cell? ⟨b, o, none⟩ := fun o => hB.cell (p := ⟨b, o, none⟩) hb
    have HB2 := Lib.hid hB
    have hz := hB.size
    have hll : (linesF (rs.take n)).length ≤ 221 * n := by
      have := linesF_len (rs := rs.take n) (fun r hr => Hgood.out r (List.mem_of_mem_take hr))
      rw [List.length_take] at this
      omega
    by_cases hlt : n < rs.length
    · obtain ⟨h0, h1, h2, h3, h4, h5, h6, h7, h8, h9⟩ := HC.out n rs[n] (List.getElem?_eq_getElem hlt)
      have g0 := (hbw _).trans h0; have g1 := (hbw _).trans h1; have g2 := (hbw _).trans h2; have g3 := (hbw _).trans h3; have g4 := (hbw _).trans h4; have g5 := (hbw _).trans h5; have g6 := (hbw _).trans h6; have g7 := (hbw _).trans h7; have g8 := (hbw _).trans h8; have g9 := (hbw _).trans h9
      have Hcn := Lib.hid (List.getElem?_eq_getElem hlt)
      have HG := Lib.hid (Hgood.out rs[n] (List.getElem_mem hlt))
      have hl1 := lineF_len HG.out
      have HL := Lib.hid (linesF_succ Hcn.out)
      generalize rs[n] = r at *
      clear hbw hB h0 h1 h2 h3 h4 h5 h6 h7 h8 h9
      generalize linesF (rs.take n) = acc at *
      have HTw := Lib.hid (HT.out.below ((HB2.out.alloc HB2.out.size (rdBox r))))
      go_wp2_with (go_at_call 43; refine (line_any r _ HG.out HTw.out).mono ?_; rintro e w2 ⟨rfl, hb2⟩)
      go_roundw
      case rel => exact ⟨n + 1, by omega, by go_num, by rw [HL.out]; exact str_app _ _, (HB2.out.alloc HB2.out.size _).trans (hb2.mono (by have := HB2.out.size; simp; omega))⟩
      case measure => simp [intOf]; omega
    · obtain rfl : n = rs.length := by omega
      rw [List.take_length] at *
      have HTw := Lib.hid (HT.out.below hB)
      have hasc := asc_lines rs
      have hd := (digs_bd (linesF rs)).1
      have hel := endF_len (linesF rs) hd
      have HX := Lib.hid (show textF rs = linesF rs ++ endF (linesF rs) from rfl)
      generalize linesF rs = acc at *
      have hsz : (⟨acc.toArray⟩ : ByteArray).size = acc.length := by simp [ByteArray.size]
      have HE := Lib.hid (ending_any ⟨acc.toArray⟩ wr (by rw [hsz]; omega) (fun k h => by
        have h' : k < acc.length := by rw [← hsz]; exact h
        have : ((⟨acc.toArray⟩ : ByteArray)[k]'h) = acc[k]'h' := rfl
        rw [this]
        exact hasc _ (List.getElem_mem h')) HTw.out)
      clear hasc hbw hd hsz hB
      have HE2 : Hid (Calls Tryd.prog 44 #[str acc] wr fun e w' => e = .returned (str (endF acc)) ∧ Below wr.heap.size wr w') := HE
      clear HE
      generalize endF acc = en at *
      go_wp2_with (go_at_call 44; refine HE2.out.mono ?_; rintro e w2 ⟨rfl, hb2⟩)
      go_ret2
      exact ⟨by rw [HX.out]; exact congrArg (fun x => Ending.returned (.tuple #[x, .int .i64 0])) (str_app _ _), HB2.out.trans (hb2.mono HB2.out.size)⟩
set_option maxHeartbeats 1000000 in
set_option maxRecDepth 100000 in
theorem print_nil (A : Option Addr) (cap : Nat) (w : World) (ht : Tab w) :
    Calls Tryd.prog 24 #[.slice A 0 cap] w fun e w' => e = .returned (.tuple #[str (textF []), .int .i64 0]) ∧ Below w.heap.size w w' := by
  have HT := Lib.hid ht
  clear ht
  have HS : Hid (Calls Tryd.prog 42 #[.slice A 0 cap] w fun e w' => e = .returned (.int .i64 0) ∧ Below w.heap.size w w') := Lib.hid (sheet_nil A cap w)
  have HX := Lib.hid (show textF [] = endF [] from rfl)
  have hel := endF_len [] (by simp [digs])
  have HE : Hid (∀ wr, Tab wr → Calls Tryd.prog 44 #[.string ⟨#[]⟩] wr fun e w' => e = .returned (str (endF [])) ∧ Below wr.heap.size wr w') := Lib.hid (fun wr h => ending_any ⟨#[]⟩ wr (by simp [ByteArray.size]) (fun k h => by simp [ByteArray.size] at h) h)
  go_enter Tryd.func24, Tryd.ntmps24
  go_wp2_with (go_at_call 42; refine HS.out.mono ?_; rintro e w1 ⟨rfl, hb1⟩; have HB := Lib.hid hb1; clear hb1)
  go_loopw [5, 7, 15] (fun l _ k wr => k = .int .i64 0 ∧ l = .string ⟨#[]⟩ ∧ Below w.heap.size w wr) (fun _ _ k _ => (0 - intOf k).toNat)
  case atStart => exact ⟨rfl, rfl, HB.out⟩
  case round =>
    obtain ⟨rfl, rfl, hB⟩ := hrel
    have HB2 := Lib.hid hB
    have HTw := Lib.hid (HT.out.below hB)
    generalize endF [] = en at *
    clear hB
    go_wp2_with (go_at_call 44; refine (HE.out _ HTw.out).mono ?_; rintro e w2 ⟨rfl, hb2⟩)
    go_ret2
    exact ⟨by rw [HX.out]; exact congrArg (fun x => Ending.returned (.tuple #[x, .int .i64 0])) (str_app [] _), HB2.out.trans (hb2.mono HB2.out.size)⟩
theorem print_ok {v : Value} {rs : List Rdg} {w : World} (hc : Rdgs w v rs) (hs : sheetF rs = 0) (ht : Tab w) :
    Calls Tryd.prog 24 #[v] w fun e w' => e = .returned (.tuple #[str (textF rs), .int .i64 0]) ∧ Below w.heap.size w w' := by
  obtain ⟨A, cap, rfl, hl, hm, h⟩ := hc
  rcases h with rfl | ⟨b, off, rfl, hlt, hc⟩
  · exact print_nil A cap w ht
  · exact print_some rs b off cap w hl hm hlt hc hs ht
end Go.Proofs.YtffgcphmakfikaaDoor
