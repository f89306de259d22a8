/- The law ChartSheets, walked. -/
import Derived.Test.YtpkmojcppdogkaaGreatDoorTxp
import Derived.Test.YtpkmojcppdogkaaGreatDoorKi
import Derived.Laws.IdiomStrings
set_option linter.unusedVariables false
set_option linter.unusedSimpArgs false
namespace Go.Proofs.YtpkmojcppdogkaaGreatDoor
open Go.RowKit
open Go.Maps
theorem line_len6 {zs : List Int} (h : ∀ z ∈ zs, 0 ≤ z ∧ z ≤ 99999) : (lineF zs).length ≤ zs.length * 6 := by
  have q : ∀ ws : List (List UInt8), (∀ x ∈ ws, x.length ≤ 5) → (Lib.join ws [32]).length ≤ ws.length * 6 := fun ws => by
    induction ws with
    | nil => intro _; simp [Lib.join, List.intercalate]
    | cons x r ih =>
      intro h
      have h1 := h x (by simp)
      have h2 := ih (fun y hy => h y (by simp [hy]))
      cases r with
      | nil => rw [join_one']; simp; omega
      | cons y r =>
        rw [join_cons', List.length_append, List.length_cons]
        simp only [List.length_cons] at *
        omega
  have := q (itosL zs) (fun x hx => (itos_good h x hx).2)
  rw [itosL_len] at this
  exact this
theorem text_len {wd rw : Nat} {zs : List Int} (hv : ∀ z ∈ zs, 0 ≤ z ∧ z ≤ 99999) (h2 : wd ≤ 6) (r2 : rw ≤ 5) : (textP wd rw zs).length ≤ 400 := by
  have hr : ∀ n, (rowsT wd zs n).length ≤ n * (wd * 6 + 1) := fun n => by
    induction n with
    | zero => simp [rowsT]
    | succ n ih =>
      have h1 := line_len6 (zs := rowOf wd zs n) (fun z hz => hv z (rowOf_mem hz))
      have h3 : (rowOf wd zs n).length ≤ wd := by simp [rowOf]; omega
      simp only [rowsT, List.length_append, List.length_singleton, Nat.add_mul, Nat.one_mul]
      omega
  have h1 := hr rw
  have hm : rw * (wd * 6 + 1) ≤ 5 * 37 := Nat.mul_le_mul r2 (by omega)
  have hh := line_len6 (zs := [(wd : Int), (rw : Int)]) (fun z hz => by simp at hz; omega)
  obtain ⟨a, b, e, -, -⟩ := three (sumN wd zs zs.length % 97) (by omega) (by omega)
  unfold textP headF endL
  rw [e]
  simp only [List.length_append, List.length_cons, List.length_nil, chartW, List.drop_succ_cons, List.drop_zero] at *
  omega
theorem bytesRow_size (S : ByteArray) (c : Nat) (h : S.size ≤ c) : (bytesRow S c).size = c := by
  unfold bytesRow
  rw [Array.size_append, Array.size_map, Array.size_replicate]
  show S.size + (c - S.size) = c
  omega
theorem bytesRow_at' (S : ByteArray) (c k : Nat) (h : k < S.size) : (bytesRow S c)[k]? = some (.int .u8 ((S[k]'h).toNat : Int)) := by
  unfold bytesRow
  have h' : k < (S.data.map fun b => Value.int .u8 b.toNat).size := by rw [Array.size_map]; exact h
  rw [Array.getElem?_append_left h', Array.getElem?_eq_getElem h', Array.getElem_map]
  rfl
theorem join_snoc (ws : List (List UInt8)) (w : List UInt8) (h : ws ≠ []) : Lib.join (ws ++ [w]) [32] = Lib.join ws [32] ++ [32] ++ w := by
  induction ws with
  | nil => exact absurd rfl h
  | cons a r ih =>
    cases r with
    | nil => rw [List.singleton_append, join_two, join_one']
    | cons b r =>
      have := ih (by simp)
      rw [List.cons_append, List.cons_append, join_cons', join_cons', ← List.cons_append, this]
      simp
theorem fl_row {wd rw r : Nat} {zs : List Int} (hz : ∀ z ∈ zs, 0 ≤ z ∧ z ≤ 99999) (hl : zs.length = rw * wd) (hr : r < rw) : ∀ i, i < wd → flL (wd : Int) zs (r * wd + (i + 1)) = flL (wd : Int) zs (r * wd) ++ [10] ++ lineF ((rowOf wd zs r).take (i + 1))
  | 0, hi => by
    have hx := ev_row hl hr hi
    have hb := hz (ev zs (r * wd)) (rowOf_mem (List.mem_of_getElem? (by rwa [Nat.add_zero] at hx)))
    have h0 : ((r * wd : Nat) : Int) % (wd : Int) = 0 := by
      rw [Int.natCast_mul]; exact Int.mul_emod_left _ _
    have e1 : (rowOf wd zs r).take 1 = [ev zs (r * wd)] := by
      rw [List.take_one]
      rw [Nat.add_zero] at hx
      rw [List.head?_eq_getElem?, hx]
      rfl
    have e2 : Lib.itoa (ev zs (r * wd)) = Lib.decDigits (ev zs (r * wd)).toNat := by
      have := Lib.itoa_nonneg (ev zs (r * wd)).toNat
      rwa [Int.toNat_of_nonneg hb.1] at this
    rw [Nat.zero_add, e1]
    show flL (wd : Int) zs (r * wd) ++ (if ((r * wd : Nat) : Int) % (wd : Int) = 0 then [10] else [32]) ++ Lib.decDigits (ev zs (r * wd)).toNat = _
    rw [if_pos h0, lineF, itosL, List.map_cons, List.map_nil, join_one', e2]
  | i + 1, hi => by
    have ih := fl_row hz hl hr i (by omega)
    have hx := ev_row hl hr hi
    have hb := hz (ev zs (r * wd + (i + 1))) (rowOf_mem (List.mem_of_getElem? hx))
    have h0 : ¬ ((r * wd + (i + 1) : Nat) : Int) % (wd : Int) = 0 := by
      intro h
      have : ((r * wd + (i + 1)) % wd : Nat) = 0 := by
        have h2 : (((r * wd + (i + 1)) % wd : Nat) : Int) = 0 := by rw [Int.natCast_emod]; exact h
        omega
      rw [Nat.mul_comm, Nat.mul_add_mod, Nat.mod_eq_of_lt hi] at this
      omega
    have e2 : Lib.itoa (ev zs (r * wd + (i + 1))) = Lib.decDigits (ev zs (r * wd + (i + 1))).toNat := by
      have := Lib.itoa_nonneg (ev zs (r * wd + (i + 1))).toNat
      rwa [Int.toNat_of_nonneg hb.1] at this
    have e1 : itosL ((rowOf wd zs r).take (i + 1 + 1)) = itosL ((rowOf wd zs r).take (i + 1)) ++ [Lib.itoa (ev zs (r * wd + (i + 1)))] := itosL_snoc hx
    have hne : itosL ((rowOf wd zs r).take (i + 1)) ≠ [] := fun e => by
      have := congrArg List.length e
      rw [itosL_len, List.length_take, rowOf_len hl hr] at this
      simp at this
      omega
    show flL (wd : Int) zs (r * wd + (i + 1)) ++ (if ((r * wd + (i + 1) : Nat) : Int) % (wd : Int) = 0 then [10] else [32]) ++ Lib.decDigits (ev zs (r * wd + (i + 1))).toNat = _
    rw [if_neg h0, ih, lineF, lineF, e1, join_snoc _ _ hne, e2]
    simp
theorem fl_rows {wd rw : Nat} {zs : List Int} (hz : ∀ z ∈ zs, 0 ≤ z ∧ z ≤ 99999) (hl : zs.length = rw * wd) (w1 : 1 ≤ wd) : ∀ r, r ≤ rw → flL (wd : Int) zs (r * wd) ++ [10] = [10] ++ rowsT wd zs r
  | 0, _ => by simp [flL, rowsT]
  | r + 1, h => by
    have ih := fl_rows hz hl w1 r (by omega)
    have e := fl_row hz hl (show r < rw by omega) (wd - 1) (by omega)
    have e2 : wd - 1 + 1 = wd := by omega
    rw [e2] at e
    have e3 : (rowOf wd zs r).take wd = rowOf wd zs r := List.take_of_length_le (by rw [rowOf_len hl (by omega)]; exact Nat.le_refl _)
    rw [e3] at e
    rw [Nat.add_mul, Nat.one_mul, e, rowsT, ih]
    simp
theorem two_dig (x : Int) (h0 : 0 ≤ x) (h1 : x < 100) : (Lib.itoa (100 + x)).drop 1 = Lib.decDigits (x / 10).toNat ++ Lib.decDigits (x % 10).toNat := by
  obtain ⟨n, rfl⟩ : ∃ n : Nat, x = n := ⟨x.toNat, by omega⟩
  have e : (100 : Int) + n = ((100 + n : Nat) : Int) := by omega
  have a1 : ((n : Int) / 10).toNat = n / 10 := by omega
  have a2 : ((n : Int) % 10).toNat = n % 10 := by omega
  rw [a1, a2, e, Lib.itoa_nonneg, Lib.decDigits, dif_neg (by omega), Lib.decDigits, dif_neg (by omega), Lib.decDigits, dif_pos (by omega)]
  rw [Lib.decDigits, dif_pos (show n / 10 < 10 by omega), Lib.decDigits, dif_pos (show n % 10 < 10 by omega)]
  have h3 : (100 + n) / 10 / 10 = 1 := by omega
  have h4 : (100 + n) / 10 % 10 = n / 10 := by omega
  have h5 : (100 + n) % 10 = n % 10 := by omega
  rw [h3, h4, h5]
  rfl
theorem text_eq {wd rw : Nat} {zs : List Int} (hz : ∀ z ∈ zs, 0 ≤ z ∧ z ≤ 99999) (hl : zs.length = rw * wd) (w1 : 1 ≤ wd) : textR (wd : Int) zs = textP wd rw zs := by
  have hq : (zs.length : Int) / (wd : Int) = (rw : Int) := by
    rw [hl, Int.natCast_mul]
    exact Int.mul_ediv_cancel _ (by omega)
  have hh : headL (wd : Int) zs = headF wd rw := by
    rw [headF_eq, headL, hq, Lib.itoa_nonneg, Lib.itoa_nonneg, Int.toNat_natCast, Int.toNat_natCast]
    simp [chartW]
  have hf := fl_rows hz hl w1 rw (Nat.le_refl _)
  rw [← hl] at hf
  have ht : tailR (sumN (wd : Int) zs zs.length) = [10] ++ endL (wd : Int) zs := by
    unfold tailR endL
    rw [two_dig _ (by omega) (by omega)]
    simp
  rw [textR, textP, hh, ht, ← List.append_assoc, List.append_assoc (headF wd rw), hf]
  simp
set_option maxHeartbeats 8000000 in
set_option maxRecDepth 100000 in
theorem lawChartSheets {wd : Int} {Z : Option Addr} {zc : Nat} {zs : List Int} {m : Int} {w : World} (hz : Ints w (.slice Z zs.length zc) zs) (ht : Tab w) (hm : MxL w m) :
    Calls Tryz.prog 9 #[.agg #[.int .i64 wd, .slice Z zs.length zc]] w fun e w' => e = .returned (.bool true) ∧ Below w.heap.size w w' := by
  have HZ0 := Lib.hid hz
  have HT := Lib.hid ht
  have HM := Lib.hid hm
  clear hz ht hm
  have HR := Lib.hid ((Frm.nil w).add (.cells #[.int .i64 wd, .slice Z zs.length zc] 27) rfl)
  have x0 := HR.out.cells (List.mem_cons_self ..)
  by_cases h40 : zs.length ≤ 40
  rotate_left
  · have hb := decide_eq_false h40
    go_enter Tryz.func9, Tryz.ntmps9
    go_wp2_with (first | (go_at_call 13; refine (few_is hb _).mono ?_; rintro e wa ⟨rfl, hba⟩; have HRq := Lib.hid (Frm.below (w := w) (bs := [(w.heap.size, (.cells #[.int .i64 wd, .slice Z zs.length zc] 27))]) (by (repeat (with_reducible first | exact HR.out | apply Frm.drew | apply Frm.alloc | apply Frm.drewN))) hba); clear HR; have HR := HRq; clear HRq hba; have x0 := HR.out.cells (List.mem_cons_self ..)) | (go_at_call 17; refine (GX.known_true _ (HT.out.below (Frm.b (w := w) (bs := [(w.heap.size, (.cells #[.int .i64 wd, .slice Z zs.length zc] 27))]) (by (repeat (with_reducible first | exact HR.out | apply Frm.drew | apply Frm.alloc | apply Frm.drewN)))))).mono ?_; rintro e wa ⟨rfl, hba⟩; have HRq := Lib.hid (Frm.below (w := w) (bs := [(w.heap.size, (.cells #[.int .i64 wd, .slice Z zs.length zc] 27))]) (by (repeat (with_reducible first | exact HR.out | apply Frm.drew | apply Frm.alloc | apply Frm.drewN))) hba); clear HR; have HR := HRq; clear HRq hba))
    go_ret
    exact ⟨rfl, (Frm.b (w := w) (bs := [(w.heap.size, (.cells #[.int .i64 wd, .slice Z zs.length zc] 27))]) (by (repeat (with_reducible first | exact HR.out | apply Frm.drew | apply Frm.alloc | apply Frm.drewN))))⟩
  have hb := decide_eq_true h40
  cases hf : fieldB wd zs
  · go_enter Tryz.func9, Tryz.ntmps9
    go_wp2_with (first | (go_at_call 13; refine (few_is hb _).mono ?_; rintro e wa ⟨rfl, hba⟩; have HRq := Lib.hid (Frm.below (w := w) (bs := [(w.heap.size, (.cells #[.int .i64 wd, .slice Z zs.length zc] 27))]) (by (repeat (with_reducible first | exact HR.out | apply Frm.drew | apply Frm.alloc | apply Frm.drewN))) hba); clear HR; have HR := HRq; clear HRq hba; have x0 := HR.out.cells (List.mem_cons_self ..)) | (go_at_call 15; refine (rField_is (HZ0.out.below (Frm.b (w := w) (bs := [(w.heap.size, (.cells #[.int .i64 wd, .slice Z zs.length zc] 27))]) (by (repeat (with_reducible first | exact HR.out | apply Frm.drew | apply Frm.alloc | apply Frm.drewN))))) hf).mono ?_; rintro e wa ⟨rfl, hba⟩; have HRq := Lib.hid (Frm.below (w := w) (bs := [(w.heap.size, (.cells #[.int .i64 wd, .slice Z zs.length zc] 27))]) (by (repeat (with_reducible first | exact HR.out | apply Frm.drew | apply Frm.alloc | apply Frm.drewN))) hba); clear HR; have HR := HRq; clear HRq hba; have x0 := HR.out.cells (List.mem_cons_self ..)) | (go_at_call 39; refine (cPrint_bad wd Z zc zs _ (HZ0.out.below (Frm.b (w := w) (bs := [(w.heap.size, (.cells #[.int .i64 wd, .slice Z zs.length zc] 27))]) (by (repeat (with_reducible first | exact HR.out | apply Frm.drew | apply Frm.alloc | apply Frm.drewN))))) hf).mono ?_; rintro e wa ⟨rfl, hba⟩; have HRq := Lib.hid (Frm.below (w := w) (bs := [(w.heap.size, (.cells #[.int .i64 wd, .slice Z zs.length zc] 27))]) (by (repeat (with_reducible first | exact HR.out | apply Frm.drew | apply Frm.alloc | apply Frm.drewN))) hba); clear HR; have HR := HRq; clear HRq hba; have x0 := HR.out.cells (List.mem_cons_self ..)) | (go_at_call 17; refine (GX.known_true _ (HT.out.below (Frm.b (w := w) (bs := [(w.heap.size, (.cells #[.int .i64 wd, .slice Z zs.length zc] 27))]) (by (repeat (with_reducible first | exact HR.out | apply Frm.drew | apply Frm.alloc | apply Frm.drewN)))))).mono ?_; rintro e wa ⟨rfl, hba⟩; have HRq := Lib.hid (Frm.below (w := w) (bs := [(w.heap.size, (.cells #[.int .i64 wd, .slice Z zs.length zc] 27))]) (by (repeat (with_reducible first | exact HR.out | apply Frm.drew | apply Frm.alloc | apply Frm.drewN))) hba); clear HR; have HR := HRq; clear HRq hba))
    go_ret
    exact ⟨rfl, (Frm.b (w := w) (bs := [(w.heap.size, (.cells #[.int .i64 wd, .slice Z zs.length zc] 27))]) (by (repeat (with_reducible first | exact HR.out | apply Frm.drew | apply Frm.alloc | apply Frm.drewN))))⟩
  obtain ⟨wn, rn, hwd, hl, v1, v2, r1, r2, hv⟩ := fieldB_rows hf
  have HPR : Hid (∀ W, Below w.heap.size w W → Calls Tryz.prog 39 #[.agg #[.int .i64 wd, .slice Z zs.length zc]] W fun e w' => e = .returned (.tuple #[str (textP wn rn zs), .int .i64 0]) ∧ Below W.heap.size W w') := Lib.hid (fun W hW => by
    have := cPrint_ok wn rn Z zc zs W (HZ0.out.below hW) (hwd ▸ hf) hl r1 r2 (HT.out.below hW)
    rwa [← hwd] at this)
  have htl := text_len (wd := wn) (rw := rn) hv v2 r2
  obtain ⟨hgd, hgv⟩ := linesF_good (wd := wn) (rw := rn) hv (by omega) (by omega) hl
  rw [← text_spl hv (by omega) (by omega)] at hgd hgv
  have HRD : Hid (∀ W, Below w.heap.size w W → Calls Tryz.prog 40 #[str (textP wn rn zs)] W fun e w' => ∃ E ec, e = .returned (.tuple #[.agg #[.int .i64 wd, .slice E zs.length ec], .int .i64 0]) ∧ Ints w' (.slice E zs.length ec) zs ∧ Below W.heap.size W w') := Lib.hid (fun W hW => by
    have := cRead_good _ W m (HM.out.below hW) (HT.out.below hW) htl hgd hgv.symm (hwd ▸ hf)
    rwa [← hwd] at this)
  have HRP : Hid (∀ W, Below w.heap.size w W → Calls Tryz.prog 41 #[.agg #[.int .i64 wd, .slice Z zs.length zc]] W fun e w' => e = .returned (str (textP wn rn zs)) ∧ Below W.heap.size W w') := Lib.hid (fun W hW => by
    have := rPrint_any wd Z zc zs W (HZ0.out.below hW) hf
    rwa [hwd, text_eq hv hl v1, ← hwd] at this)
  have hN : zs.length ≤ 1000 := by omega
  clear hl hv hwd hgd hgv htl
  generalize textP wn rn zs = T at *
  go_enter Tryz.func9, Tryz.ntmps9
  go_wp2_with (first | (go_at_call 13; refine (few_is hb _).mono ?_; rintro e wa ⟨rfl, hba⟩; have HRq := Lib.hid (Frm.below (w := w) (bs := [(w.heap.size, (.cells #[.int .i64 wd, .slice Z zs.length zc] 27))]) (by (repeat (with_reducible first | exact HR.out | apply Frm.drew | apply Frm.alloc | apply Frm.drewN))) hba); clear HR; have HR := HRq; clear HRq hba; have x0 := HR.out.cells (List.mem_cons_self ..)) | (go_at_call 15; refine (rField_is (HZ0.out.below (Frm.b (w := w) (bs := [(w.heap.size, (.cells #[.int .i64 wd, .slice Z zs.length zc] 27))]) (by (repeat (with_reducible first | exact HR.out | apply Frm.drew | apply Frm.alloc | apply Frm.drewN))))) hf).mono ?_; rintro e wa ⟨rfl, hba⟩; have HRq := Lib.hid (Frm.below (w := w) (bs := [(w.heap.size, (.cells #[.int .i64 wd, .slice Z zs.length zc] 27))]) (by (repeat (with_reducible first | exact HR.out | apply Frm.drew | apply Frm.alloc | apply Frm.drewN))) hba); clear HR; have HR := HRq; clear HRq hba; have x0 := HR.out.cells (List.mem_cons_self ..)) | (go_at_call 39; refine (HPR.out _ (Frm.b (w := w) (bs := [(w.heap.size, (.cells #[.int .i64 wd, .slice Z zs.length zc] 27))]) (by (repeat (with_reducible first | exact HR.out | apply Frm.drew | apply Frm.alloc | apply Frm.drewN))))).mono ?_; rintro e wa ⟨rfl, hba⟩; have HRq := Lib.hid (Frm.below (w := w) (bs := [(w.heap.size, (.cells #[.int .i64 wd, .slice Z zs.length zc] 27))]) (by (repeat (with_reducible first | exact HR.out | apply Frm.drew | apply Frm.alloc | apply Frm.drewN))) hba); clear HR; have HR := HRq; clear HRq hba; have x0 := HR.out.cells (List.mem_cons_self ..)))
  refine (HRD.out _ (Frm.b (w := w) (bs := [(w.heap.size, (.cells #[.int .i64 wd, .slice Z zs.length zc] 27))]) (by (repeat (with_reducible first | exact HR.out | apply Frm.drew | apply Frm.alloc | apply Frm.drewN))))).mono ?_
  rintro e wr ⟨E, ec, rfl, hi, hbr⟩
  have HX := Lib.hid hi
  have HRq := Frm.below (w := w) (bs := [(w.heap.size, (.cells #[.int .i64 wd, .slice Z zs.length zc] 27))]) (by (repeat (with_reducible first | exact HR.out | apply Frm.drew | apply Frm.alloc | apply Frm.drewN))) hbr
  have HBW := Lib.hid HRq.b
  have HR2 : Frm wr [(w.heap.size, (.cells #[.int .i64 wd, .slice Z zs.length zc] 27))] wr := ⟨Below.refl _ _, HRq.h⟩
  clear HR hi hbr HRq x0
  have HR := Lib.hid (HR2.add (.cells #[.int .i64 wd, .slice E zs.length ec] 27) rfl)
  clear HR2
  have x0 := HR.out.cells (List.mem_cons_self ..)
  have x1 := HR.out.cells (List.mem_cons_of_mem _ (List.mem_cons_self ..))
  have HSM : Hid (∀ W, Below wr.heap.size wr W → Calls Tryz.prog 33 #[.agg #[.int .i64 wd, .slice E zs.length ec], .agg #[.int .i64 wd, .slice Z zs.length zc]] W fun e w' => e = .returned (.bool true) ∧ Below W.heap.size W w') := Lib.hid (fun W hW => rSameField_yes wd E Z ec zc zs.length zs W rfl hN (HX.out.below hW) (HZ0.out.below (HBW.out.trans (hW.mono HBW.out.size))))
  go_wp2_with (first | (go_at_call 41; refine (HRP.out _ (HBW.out.trans ((Frm.b (w := wr) (bs := [(wr.heap.size, (.cells #[.int .i64 wd, .slice E zs.length ec] 27)), (w.heap.size, (.cells #[.int .i64 wd, .slice Z zs.length zc] 27))]) (by (repeat (with_reducible first | exact HR.out | apply Frm.drew | apply Frm.alloc | apply Frm.drewN)))).mono HBW.out.size))).mono ?_; rintro e wa ⟨rfl, hba⟩; have HRq := Lib.hid (Frm.below (w := wr) (bs := [(wr.heap.size, (.cells #[.int .i64 wd, .slice E zs.length ec] 27)), (w.heap.size, (.cells #[.int .i64 wd, .slice Z zs.length zc] 27))]) (by (repeat (with_reducible first | exact HR.out | apply Frm.drew | apply Frm.alloc | apply Frm.drewN))) hba); clear HR x0 x1; have HR := HRq; clear HRq hba; have x0 := HR.out.cells (List.mem_cons_self ..); have x1 := HR.out.cells (List.mem_cons_of_mem _ (List.mem_cons_self ..))) | (go_at_call 33; refine (HSM.out _ (Frm.b (w := wr) (bs := [(wr.heap.size, (.cells #[.int .i64 wd, .slice E zs.length ec] 27)), (w.heap.size, (.cells #[.int .i64 wd, .slice Z zs.length zc] 27))]) (by (repeat (with_reducible first | exact HR.out | apply Frm.drew | apply Frm.alloc | apply Frm.drewN))))).mono ?_; rintro e wa ⟨rfl, hba⟩; have HRq := Lib.hid (Frm.below (w := wr) (bs := [(wr.heap.size, (.cells #[.int .i64 wd, .slice E zs.length ec] 27)), (w.heap.size, (.cells #[.int .i64 wd, .slice Z zs.length zc] 27))]) (by (repeat (with_reducible first | exact HR.out | apply Frm.drew | apply Frm.alloc | apply Frm.drewN))) hba); clear HR x0 x1; have HR := HRq; clear HRq hba; have x0 := HR.out.cells (List.mem_cons_self ..); have x1 := HR.out.cells (List.mem_cons_of_mem _ (List.mem_cons_self ..))) | (go_at_call 17; refine (GX.known_true _ (HT.out.below (HBW.out.trans ((Frm.b (w := wr) (bs := [(wr.heap.size, (.cells #[.int .i64 wd, .slice E zs.length ec] 27)), (w.heap.size, (.cells #[.int .i64 wd, .slice Z zs.length zc] 27))]) (by (repeat (with_reducible first | exact HR.out | apply Frm.drew | apply Frm.alloc | apply Frm.drewN)))).mono HBW.out.size)))).mono ?_; rintro e wa ⟨rfl, hba⟩; have HRq := Lib.hid (Frm.below (w := wr) (bs := [(wr.heap.size, (.cells #[.int .i64 wd, .slice E zs.length ec] 27)), (w.heap.size, (.cells #[.int .i64 wd, .slice Z zs.length zc] 27))]) (by (repeat (with_reducible first | exact HR.out | apply Frm.drew | apply Frm.alloc | apply Frm.drewN))) hba); clear HR x0 x1; have HR := HRq; clear HRq hba; have x0 := HR.out.cells (List.mem_cons_self ..); have x1 := HR.out.cells (List.mem_cons_of_mem _ (List.mem_cons_self ..))))
  go_ret
  exact ⟨rfl, (HBW.out.trans ((Frm.b (w := wr) (bs := [(wr.heap.size, (.cells #[.int .i64 wd, .slice E zs.length ec] 27)), (w.heap.size, (.cells #[.int .i64 wd, .slice Z zs.length zc] 27))]) (by (repeat (with_reducible first | exact HR.out | apply Frm.drew | apply Frm.alloc | apply Frm.drewN)))).mono HBW.out.size))⟩
end Go.Proofs.YtpkmojcppdogkaaGreatDoor
