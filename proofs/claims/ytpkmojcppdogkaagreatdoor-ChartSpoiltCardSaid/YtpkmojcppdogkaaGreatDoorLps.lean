/- The law ChartSpoilt, walked. -/
import Derived.Test.YtpkmojcppdogkaaGreatDoorTxp
import Derived.Test.YtpkmojcppdogkaaGreatDoorKi
import Derived.Laws.IdiomStrings
set_option linter.unusedVariables false
set_option linter.unusedSimpArgs false
namespace Go.Proofs.YtpkmojcppdogkaaGreatDoor
open Go.RowKit
open Go.Maps
theorem line_len6 {zs : List Int} (h : ∀ z ∈ zs, 0 ≤ z ∧ z ≤ 99999) : (lineF zs).length ≤ zs.length * 6 := by
  have q : ∀ ws : List (List UInt8), (∀ x ∈ ws, x.length ≤ 5) → (Lib.join ws [32]).length ≤ ws.length * 6 := fun ws => by
    induction ws with
    | nil => intro _; simp [Lib.join, List.intercalate]
    | cons x r ih =>
      intro h
      have h1 := h x (by simp)
      have h2 := ih (fun y hy => h y (by simp [hy]))
      cases r with
      | nil => rw [join_one']; simp; omega
      | cons y r =>
        rw [join_cons', List.length_append, List.length_cons]
        simp only [List.length_cons] at *
        omega
  have := q (itosL zs) (fun x hx => (itos_good h x hx).2)
  rw [itosL_len] at this
  exact this
theorem text_len {wd rw : Nat} {zs : List Int} (hv : ∀ z ∈ zs, 0 ≤ z ∧ z ≤ 99999) (h2 : wd ≤ 6) (r2 : rw ≤ 5) : (textP wd rw zs).length ≤ 400 := by
  have hr : ∀ n, (rowsT wd zs n).length ≤ n * (wd * 6 + 1) := fun n => by
    induction n with
    | zero => simp [rowsT]
    | succ n ih =>
      have h1 := line_len6 (zs := rowOf wd zs n) (fun z hz => hv z (rowOf_mem hz))
      have h3 : (rowOf wd zs n).length ≤ wd := by simp [rowOf]; omega
      simp only [rowsT, List.length_append, List.length_singleton, Nat.add_mul, Nat.one_mul]
      omega
  have h1 := hr rw
  have hm : rw * (wd * 6 + 1) ≤ 5 * 37 := Nat.mul_le_mul r2 (by omega)
  have hh := line_len6 (zs := [(wd : Int), (rw : Int)]) (fun z hz => by simp at hz; omega)
  obtain ⟨a, b, e, -, -⟩ := three (sumN wd zs zs.length % 97) (by omega) (by omega)
  unfold textP headF endL
  rw [e]
  simp only [List.length_append, List.length_cons, List.length_nil, chartW, List.drop_succ_cons, List.drop_zero] at *
  omega
theorem bytesRow_size (S : ByteArray) (c : Nat) (h : S.size ≤ c) : (bytesRow S c).size = c := by
  unfold bytesRow
  rw [Array.size_append, Array.size_map, Array.size_replicate]
  show S.size + (c - S.size) = c
  omega
theorem bytesRow_at' (S : ByteArray) (c k : Nat) (h : k < S.size) : (bytesRow S c)[k]? = some (.int .u8 ((S[k]'h).toNat : Int)) := by
  unfold bytesRow
  have h' : k < (S.data.map fun b => Value.int .u8 b.toNat).size := by rw [Array.size_map]; exact h
  rw [Array.getElem?_append_left h', Array.getElem?_eq_getElem h', Array.getElem_map]
  rfl
set_option maxHeartbeats 8000000 in
set_option maxRecDepth 100000 in
theorem lawChartSpoilt {wd : Int} {Z : Option Addr} {zc : Nat} {zs : List Int} {p dg m : Int} {w : World} (hz : Ints w (.slice Z zs.length zc) zs) (ht : Tab w) (hm : MxL w m) :
    Calls Tryz.prog 11 #[.agg #[.int .i64 wd, .slice Z zs.length zc], .int .i64 p, .int .i64 dg] w fun e w' => e = .returned (.bool true) ∧ Below w.heap.size w w' := by
  have HZ0 := Lib.hid hz
  have HT := Lib.hid ht
  have HM := Lib.hid hm
  clear hz ht hm
  have HR := Lib.hid ((Frm.nil w).add (.cells #[.int .i64 wd, .slice Z zs.length zc] 27) rfl)
  have x0 := HR.out.cells (List.mem_cons_self ..)
  by_cases h40 : zs.length ≤ 40
  rotate_left
  · have hb := decide_eq_false h40
    go_enter Tryz.func11, Tryz.ntmps11
    go_wp2_with (first | (go_at_call 13; refine (few_is hb _).mono ?_; rintro e wa ⟨rfl, hba⟩; have HRq := Lib.hid (Frm.below (w := w) (bs := [(w.heap.size, (.cells #[.int .i64 wd, .slice Z zs.length zc] 27))]) (by (repeat (with_reducible first | exact HR.out | apply Frm.drew | apply Frm.alloc | apply Frm.drewN))) hba); clear HR; have HR := HRq; clear HRq hba; have x0 := HR.out.cells (List.mem_cons_self ..)) | (go_at_call 17; refine (GX.known_true _ (HT.out.below (Frm.b (w := w) (bs := [(w.heap.size, (.cells #[.int .i64 wd, .slice Z zs.length zc] 27))]) (by (repeat (with_reducible first | exact HR.out | apply Frm.drew | apply Frm.alloc | apply Frm.drewN)))))).mono ?_; rintro e wa ⟨rfl, hba⟩; have HRq := Lib.hid (Frm.below (w := w) (bs := [(w.heap.size, (.cells #[.int .i64 wd, .slice Z zs.length zc] 27))]) (by (repeat (with_reducible first | exact HR.out | apply Frm.drew | apply Frm.alloc | apply Frm.drewN))) hba); clear HR; have HR := HRq; clear HRq hba))
    go_ret
    exact ⟨rfl, (Frm.b (w := w) (bs := [(w.heap.size, (.cells #[.int .i64 wd, .slice Z zs.length zc] 27))]) (by (repeat (with_reducible first | exact HR.out | apply Frm.drew | apply Frm.alloc | apply Frm.drewN))))⟩
  have hb := decide_eq_true h40
  cases hf : fieldB wd zs
  · go_enter Tryz.func11, Tryz.ntmps11
    go_wp2_with (first | (go_at_call 13; refine (few_is hb _).mono ?_; rintro e wa ⟨rfl, hba⟩; have HRq := Lib.hid (Frm.below (w := w) (bs := [(w.heap.size, (.cells #[.int .i64 wd, .slice Z zs.length zc] 27))]) (by (repeat (with_reducible first | exact HR.out | apply Frm.drew | apply Frm.alloc | apply Frm.drewN))) hba); clear HR; have HR := HRq; clear HRq hba; have x0 := HR.out.cells (List.mem_cons_self ..)) | (go_at_call 15; refine (rField_is (HZ0.out.below (Frm.b (w := w) (bs := [(w.heap.size, (.cells #[.int .i64 wd, .slice Z zs.length zc] 27))]) (by (repeat (with_reducible first | exact HR.out | apply Frm.drew | apply Frm.alloc | apply Frm.drewN))))) hf).mono ?_; rintro e wa ⟨rfl, hba⟩; have HRq := Lib.hid (Frm.below (w := w) (bs := [(w.heap.size, (.cells #[.int .i64 wd, .slice Z zs.length zc] 27))]) (by (repeat (with_reducible first | exact HR.out | apply Frm.drew | apply Frm.alloc | apply Frm.drewN))) hba); clear HR; have HR := HRq; clear HRq hba; have x0 := HR.out.cells (List.mem_cons_self ..)) | (go_at_call 17; refine (GX.known_true _ (HT.out.below (Frm.b (w := w) (bs := [(w.heap.size, (.cells #[.int .i64 wd, .slice Z zs.length zc] 27))]) (by (repeat (with_reducible first | exact HR.out | apply Frm.drew | apply Frm.alloc | apply Frm.drewN)))))).mono ?_; rintro e wa ⟨rfl, hba⟩; have HRq := Lib.hid (Frm.below (w := w) (bs := [(w.heap.size, (.cells #[.int .i64 wd, .slice Z zs.length zc] 27))]) (by (repeat (with_reducible first | exact HR.out | apply Frm.drew | apply Frm.alloc | apply Frm.drewN))) hba); clear HR; have HR := HRq; clear HRq hba))
    go_ret
    exact ⟨rfl, (Frm.b (w := w) (bs := [(w.heap.size, (.cells #[.int .i64 wd, .slice Z zs.length zc] 27))]) (by (repeat (with_reducible first | exact HR.out | apply Frm.drew | apply Frm.alloc | apply Frm.drewN))))⟩
  by_cases d0 : dg < 0
  · go_enter Tryz.func11, Tryz.ntmps11
    go_wp2_with (first | (go_at_call 13; refine (few_is hb _).mono ?_; rintro e wa ⟨rfl, hba⟩; have HRq := Lib.hid (Frm.below (w := w) (bs := [(w.heap.size, (.cells #[.int .i64 wd, .slice Z zs.length zc] 27))]) (by (repeat (with_reducible first | exact HR.out | apply Frm.drew | apply Frm.alloc | apply Frm.drewN))) hba); clear HR; have HR := HRq; clear HRq hba; have x0 := HR.out.cells (List.mem_cons_self ..)) | (go_at_call 15; refine (rField_is (HZ0.out.below (Frm.b (w := w) (bs := [(w.heap.size, (.cells #[.int .i64 wd, .slice Z zs.length zc] 27))]) (by (repeat (with_reducible first | exact HR.out | apply Frm.drew | apply Frm.alloc | apply Frm.drewN))))) hf).mono ?_; rintro e wa ⟨rfl, hba⟩; have HRq := Lib.hid (Frm.below (w := w) (bs := [(w.heap.size, (.cells #[.int .i64 wd, .slice Z zs.length zc] 27))]) (by (repeat (with_reducible first | exact HR.out | apply Frm.drew | apply Frm.alloc | apply Frm.drewN))) hba); clear HR; have HR := HRq; clear HRq hba; have x0 := HR.out.cells (List.mem_cons_self ..)) | (go_at_call 17; refine (GX.known_true _ (HT.out.below (Frm.b (w := w) (bs := [(w.heap.size, (.cells #[.int .i64 wd, .slice Z zs.length zc] 27))]) (by (repeat (with_reducible first | exact HR.out | apply Frm.drew | apply Frm.alloc | apply Frm.drewN)))))).mono ?_; rintro e wa ⟨rfl, hba⟩; have HRq := Lib.hid (Frm.below (w := w) (bs := [(w.heap.size, (.cells #[.int .i64 wd, .slice Z zs.length zc] 27))]) (by (repeat (with_reducible first | exact HR.out | apply Frm.drew | apply Frm.alloc | apply Frm.drewN))) hba); clear HR; have HR := HRq; clear HRq hba))
    go_ret
    exact ⟨rfl, (Frm.b (w := w) (bs := [(w.heap.size, (.cells #[.int .i64 wd, .slice Z zs.length zc] 27))]) (by (repeat (with_reducible first | exact HR.out | apply Frm.drew | apply Frm.alloc | apply Frm.drewN))))⟩
  by_cases d9 : 9 < dg
  · go_enter Tryz.func11, Tryz.ntmps11
    go_wp2_with (first | (go_at_call 13; refine (few_is hb _).mono ?_; rintro e wa ⟨rfl, hba⟩; have HRq := Lib.hid (Frm.below (w := w) (bs := [(w.heap.size, (.cells #[.int .i64 wd, .slice Z zs.length zc] 27))]) (by (repeat (with_reducible first | exact HR.out | apply Frm.drew | apply Frm.alloc | apply Frm.drewN))) hba); clear HR; have HR := HRq; clear HRq hba; have x0 := HR.out.cells (List.mem_cons_self ..)) | (go_at_call 15; refine (rField_is (HZ0.out.below (Frm.b (w := w) (bs := [(w.heap.size, (.cells #[.int .i64 wd, .slice Z zs.length zc] 27))]) (by (repeat (with_reducible first | exact HR.out | apply Frm.drew | apply Frm.alloc | apply Frm.drewN))))) hf).mono ?_; rintro e wa ⟨rfl, hba⟩; have HRq := Lib.hid (Frm.below (w := w) (bs := [(w.heap.size, (.cells #[.int .i64 wd, .slice Z zs.length zc] 27))]) (by (repeat (with_reducible first | exact HR.out | apply Frm.drew | apply Frm.alloc | apply Frm.drewN))) hba); clear HR; have HR := HRq; clear HRq hba; have x0 := HR.out.cells (List.mem_cons_self ..)) | (go_at_call 17; refine (GX.known_true _ (HT.out.below (Frm.b (w := w) (bs := [(w.heap.size, (.cells #[.int .i64 wd, .slice Z zs.length zc] 27))]) (by (repeat (with_reducible first | exact HR.out | apply Frm.drew | apply Frm.alloc | apply Frm.drewN)))))).mono ?_; rintro e wa ⟨rfl, hba⟩; have HRq := Lib.hid (Frm.below (w := w) (bs := [(w.heap.size, (.cells #[.int .i64 wd, .slice Z zs.length zc] 27))]) (by (repeat (with_reducible first | exact HR.out | apply Frm.drew | apply Frm.alloc | apply Frm.drewN))) hba); clear HR; have HR := HRq; clear HRq hba))
    go_ret
    exact ⟨rfl, (Frm.b (w := w) (bs := [(w.heap.size, (.cells #[.int .i64 wd, .slice Z zs.length zc] 27))]) (by (repeat (with_reducible first | exact HR.out | apply Frm.drew | apply Frm.alloc | apply Frm.drewN))))⟩
  obtain ⟨wn, rn, hwd, hl, v1, v2, r1, r2, hv⟩ := fieldB_rows hf
  have HV := Lib.hid hv
  have HL := Lib.hid hl
  have HPR : Hid (∀ W, Below w.heap.size w W → Calls Tryz.prog 39 #[.agg #[.int .i64 wd, .slice Z zs.length zc]] W fun e w' => e = .returned (.tuple #[str (textP wn rn zs), .int .i64 0]) ∧ Below W.heap.size W w') := Lib.hid (fun W hW => by
    have := cPrint_ok wn rn Z zc zs W (HZ0.out.below hW) (hwd ▸ hf) hl r1 r2 (HT.out.below hW)
    rwa [← hwd] at this)
  clear hl hv hwd
  go_enter Tryz.func11, Tryz.ntmps11
  go_wp2_with (first | (go_at_call 13; refine (few_is hb _).mono ?_; rintro e wa ⟨rfl, hba⟩; have HRq := Lib.hid (Frm.below (w := w) (bs := [(w.heap.size, (.cells #[.int .i64 wd, .slice Z zs.length zc] 27))]) (by (repeat (with_reducible first | exact HR.out | apply Frm.drew | apply Frm.alloc | apply Frm.drewN))) hba); clear HR; have HR := HRq; clear HRq hba; have x0 := HR.out.cells (List.mem_cons_self ..)) | (go_at_call 15; refine (rField_is (HZ0.out.below (Frm.b (w := w) (bs := [(w.heap.size, (.cells #[.int .i64 wd, .slice Z zs.length zc] 27))]) (by (repeat (with_reducible first | exact HR.out | apply Frm.drew | apply Frm.alloc | apply Frm.drewN))))) hf).mono ?_; rintro e wa ⟨rfl, hba⟩; have HRq := Lib.hid (Frm.below (w := w) (bs := [(w.heap.size, (.cells #[.int .i64 wd, .slice Z zs.length zc] 27))]) (by (repeat (with_reducible first | exact HR.out | apply Frm.drew | apply Frm.alloc | apply Frm.drewN))) hba); clear HR; have HR := HRq; clear HRq hba; have x0 := HR.out.cells (List.mem_cons_self ..)))
  refine (HPR.out _ (Frm.b (w := w) (bs := [(w.heap.size, (.cells #[.int .i64 wd, .slice Z zs.length zc] 27))]) (by (repeat (with_reducible first | exact HR.out | apply Frm.drew | apply Frm.alloc | apply Frm.drewN))))).mono ?_
  rintro e w2 ⟨rfl, hba⟩
  have HRq := Lib.hid (Frm.below (w := w) (bs := [(w.heap.size, (.cells #[.int .i64 wd, .slice Z zs.length zc] 27))]) (by (repeat (with_reducible first | exact HR.out | apply Frm.drew | apply Frm.alloc | apply Frm.drewN))) hba)
  clear HR hba
  have HR := HRq
  clear HRq
  have htl := text_len (wd := wn) (rw := rn) HV.out v2 r2
  obtain ⟨S, hS⟩ : ∃ S : ByteArray, (⟨(textP wn rn zs).toArray⟩ : ByteArray) = S := ⟨_, rfl⟩
  rw [show str (textP wn rn zs) = Value.string S from congrArg Value.string hS]
  have HTX := Lib.hid (show S.data.toList = textP wn rn zs by rw [← hS])
  have hsz : S.size ≤ 400 := by rw [← hS]; exact htl
  clear hS htl
  by_cases p0 : p < 0
  · go_wp2_with ((go_at_call 17; refine (GX.known_true _ (HT.out.below (Frm.b (w := w) (bs := [(w.heap.size, (.cells #[.int .i64 wd, .slice Z zs.length zc] 27))]) (by (repeat (with_reducible first | exact HR.out | apply Frm.drew | apply Frm.alloc | apply Frm.drewN)))))).mono ?_; rintro e wa ⟨rfl, hba⟩; have HRq := Lib.hid (Frm.below (w := w) (bs := [(w.heap.size, (.cells #[.int .i64 wd, .slice Z zs.length zc] 27))]) (by (repeat (with_reducible first | exact HR.out | apply Frm.drew | apply Frm.alloc | apply Frm.drewN))) hba); clear HR; have HR := HRq; clear HRq hba))
    go_ret
    exact ⟨rfl, (Frm.b (w := w) (bs := [(w.heap.size, (.cells #[.int .i64 wd, .slice Z zs.length zc] 27))]) (by (repeat (with_reducible first | exact HR.out | apply Frm.drew | apply Frm.alloc | apply Frm.drewN))))⟩
  by_cases p1 : (S.size : Int) ≤ p
  · go_wp2_with ((go_at_call 17; refine (GX.known_true _ (HT.out.below (Frm.b (w := w) (bs := [(w.heap.size, (.cells #[.int .i64 wd, .slice Z zs.length zc] 27))]) (by (repeat (with_reducible first | exact HR.out | apply Frm.drew | apply Frm.alloc | apply Frm.drewN)))))).mono ?_; rintro e wa ⟨rfl, hba⟩; have HRq := Lib.hid (Frm.below (w := w) (bs := [(w.heap.size, (.cells #[.int .i64 wd, .slice Z zs.length zc] 27))]) (by (repeat (with_reducible first | exact HR.out | apply Frm.drew | apply Frm.alloc | apply Frm.drewN))) hba); clear HR; have HR := HRq; clear HRq hba))
    go_ret
    exact ⟨rfl, (Frm.b (w := w) (bs := [(w.heap.size, (.cells #[.int .i64 wd, .slice Z zs.length zc] 27))]) (by (repeat (with_reducible first | exact HR.out | apply Frm.drew | apply Frm.alloc | apply Frm.drewN))))⟩
  obtain ⟨k, rfl⟩ : ∃ k : Nat, p = k := ⟨p.toNat, by omega⟩
  have hk : k < S.size := by omega
  obtain ⟨y, hy⟩ : ∃ y, S[k]'hk = y := ⟨_, rfl⟩
  have hq : ∀ h, S[k]'h = y := fun _ => hy
  have HY := Lib.hid hy
  have hk2 : (k : Int) < S.size := by omega
  have hy8 : (y.toNat : Int) ≤ 255 := by have := y.toNat_lt; omega
  clear hy p0 p1
  by_cases y0 : (y.toNat : Int) < 48
  · go_wp2_with ((go_at_call 17; refine (GX.known_true _ (HT.out.below (Frm.b (w := w) (bs := [(w.heap.size, (.cells #[.int .i64 wd, .slice Z zs.length zc] 27))]) (by (repeat (with_reducible first | exact HR.out | apply Frm.drew | apply Frm.alloc | apply Frm.drewN)))))).mono ?_; rintro e wa ⟨rfl, hba⟩; have HRq := Lib.hid (Frm.below (w := w) (bs := [(w.heap.size, (.cells #[.int .i64 wd, .slice Z zs.length zc] 27))]) (by (repeat (with_reducible first | exact HR.out | apply Frm.drew | apply Frm.alloc | apply Frm.drewN))) hba); clear HR; have HR := HRq; clear HRq hba))
    go_ret
    exact ⟨rfl, (Frm.b (w := w) (bs := [(w.heap.size, (.cells #[.int .i64 wd, .slice Z zs.length zc] 27))]) (by (repeat (with_reducible first | exact HR.out | apply Frm.drew | apply Frm.alloc | apply Frm.drewN))))⟩
  by_cases y9 : (57 : Int) < y.toNat
  · go_wp2_with ((go_at_call 17; refine (GX.known_true _ (HT.out.below (Frm.b (w := w) (bs := [(w.heap.size, (.cells #[.int .i64 wd, .slice Z zs.length zc] 27))]) (by (repeat (with_reducible first | exact HR.out | apply Frm.drew | apply Frm.alloc | apply Frm.drewN)))))).mono ?_; rintro e wa ⟨rfl, hba⟩; have HRq := Lib.hid (Frm.below (w := w) (bs := [(w.heap.size, (.cells #[.int .i64 wd, .slice Z zs.length zc] 27))]) (by (repeat (with_reducible first | exact HR.out | apply Frm.drew | apply Frm.alloc | apply Frm.drewN))) hba); clear HR; have HR := HRq; clear HRq hba))
    go_ret
    exact ⟨rfl, (Frm.b (w := w) (bs := [(w.heap.size, (.cells #[.int .i64 wd, .slice Z zs.length zc] 27))]) (by (repeat (with_reducible first | exact HR.out | apply Frm.drew | apply Frm.alloc | apply Frm.drewN))))⟩
  have e1 : IntKind.u8.wrap ((y.toNat : Int) - 48) = (y.toNat : Int) - 48 := by
    have h1 : (0 : Int) ≤ (y.toNat : Int) - 48 := by omega
    have h2 : (y.toNat : Int) - 48 < 256 := by omega
    simp only [IntKind.wrap, IntKind.signed, IntKind.bits]
    simp
    omega
  have e2 : IntKind.i64.wrap ((y.toNat : Int) - 48) = (y.toNat : Int) - 48 := IntWalk.i64_in _ (by omega)
  by_cases yd : (y.toNat : Int) - 48 = dg
  · have hdb : ((y.toNat : Int) - 48 == dg) = true := by simpa using yd
    go_wp2_with ((go_at_call 17; refine (GX.known_true _ (HT.out.below (Frm.b (w := w) (bs := [(w.heap.size, (.cells #[.int .i64 wd, .slice Z zs.length zc] 27))]) (by (repeat (with_reducible first | exact HR.out | apply Frm.drew | apply Frm.alloc | apply Frm.drewN)))))).mono ?_; rintro e wa ⟨rfl, hba⟩; have HRq := Lib.hid (Frm.below (w := w) (bs := [(w.heap.size, (.cells #[.int .i64 wd, .slice Z zs.length zc] 27))]) (by (repeat (with_reducible first | exact HR.out | apply Frm.drew | apply Frm.alloc | apply Frm.drewN))) hba); clear HR; have HR := HRq; clear HRq hba))
    go_ret
    exact ⟨rfl, (Frm.b (w := w) (bs := [(w.heap.size, (.cells #[.int .i64 wd, .slice Z zs.length zc] 27))]) (by (repeat (with_reducible first | exact HR.out | apply Frm.drew | apply Frm.alloc | apply Frm.drewN))))⟩
  have hdb : ((y.toNat : Int) - 48 == dg) = false := by simpa using yd
  go_upto_region 8 with fail
  have hcv := run_bytes_of_string (P := Tryz.prog) w2 9 81 5 S (by kernel_rfl) Tryz.underlying81 (by kernel_rfl)
  have hge := grownCap_ge w2 S.size 0 5
  generalize grownCap w2 S.size 0 5 = c2 at *
  have hzz := bytesRow_size S c2 hge
  rw [hzz] at hcv
  have HZZ := Lib.hid hzz
  clear hzz
  go_upto_region 9 with fail
  have hbk := heap_new w2 (.cells (bytesRow S c2) 5 (c2, c2 + 1)) rfl
  have HBK := Lib.hid hbk
  have bc : (w2.alloc (.cells (bytesRow S c2) 5 (c2, c2 + 1))).cell? ⟨w2.heap.size, k, none⟩ = some (.int .u8 (y.toNat : Int)) := by
    rw [cell_of_row _ _ _ _ _ _ hbk, bytesRow_at' S c2 k hk, HY.out]
  have bf : (w2.alloc (.cells (bytesRow S c2) 5 (c2, c2 + 1))).frozen? ⟨w2.heap.size, k, none⟩ = false := by
    unfold World.frozen?
    simp only [hbk]
    simp
    omega
  have e3 : IntKind.u8.wrap (48 + dg) = 48 + dg := by
    have h1 : (0 : Int) ≤ 48 + dg := by omega
    have h2 : 48 + dg < 256 := by omega
    simp only [IntKind.wrap, IntKind.signed, IntKind.bits]
    simp
    omega
  clear hbk hcv hq
  go_upto_region 10 with fail
  obtain ⟨d, hd⟩ : ∃ d : UInt8, (d.toNat : Int) = 48 + dg := ⟨UInt8.ofNat (48 + dg.toNat), by
    rw [show (UInt8.ofNat (48 + dg.toNat)).toNat = 48 + dg.toNat from dig_of (by omega)]
    omega⟩
  rw [← hd]
  have HD := Lib.hid hd
  obtain ⟨W3, hW3⟩ : ∃ W3, ((w2.alloc (.cells (bytesRow S c2) 5 (c2, c2 + 1))).setCell ⟨w2.heap.size, k, none⟩ (.int .u8 (d.toNat : Int))).drew = W3 := ⟨_, rfl⟩
  have hback : (convert 81 9 (.slice (some ⟨w2.heap.size, 0, none⟩) S.size c2)).run Tryz.prog W3 = .ok (str (S.data.toList.set k d)) W3 := by
    have hlen : (S.data.toList.set k d).length = S.size := by simp
    have q := run_convert_bytes_back (P := Tryz.prog) W3 81 9 5 ⟨w2.heap.size, 0, none⟩ c2 (S.data.toList.set k d) Tryz.underlying81 (by kernel_rfl) (by kernel_rfl) (fun j hj => by
      rw [← hW3, Go.WideShapes.add_plain, Nat.zero_add]
      have hj' : j < S.size := by rw [← hlen]; exact hj
      show ((w2.alloc (.cells (bytesRow S c2) 5 (c2, c2 + 1))).setCell ⟨w2.heap.size, k, none⟩ (.int .u8 (d.toNat : Int))).cell? ⟨w2.heap.size, j, none⟩ = _
      rw [cell_of_row _ _ _ _ _ _ (heap_setCell_same (o := k) HBK.out (.int .u8 (d.toNat : Int)))]
      rw [List.getElem_set]
      by_cases hjk : k = j
      · subst hjk
        rw [if_pos rfl, Array.getElem?_setIfInBounds, if_pos rfl, if_pos (by rw [HZZ.out]; omega)]
      · rw [if_neg hjk, Array.getElem?_setIfInBounds_ne hjk, bytesRow_at' S c2 j hj']
        rfl)
    rw [hlen] at q
    exact q
  have HR3 : Hid (Frm w [(w.heap.size, (.cells #[.int .i64 wd, .slice Z zs.length zc] 27))] W3) := Lib.hid (by
    rw [← hW3]
    have h1 := HR.out.lt (List.mem_cons_self ..)
    exact ((HR.out.alloc _).set (by show w.heap.size ≤ w2.heap.size; omega) (by simp; omega) _).drew)
  rw [hW3]
  have HNO : Hid (∀ wd' rw', ¬ GoodL (spl 10 (S.data.toList.set k d)) wd' rw') := Lib.hid (by
    intro wd' rw' hg
    have e := good_text hg
    obtain ⟨-, hl', hb', w3, r3⟩ := good_lines hg
    have hk3 : k < S.data.toList.length := by simpa using hk
    have hset := List.set_eq_take_append_cons_drop (l := S.data.toList) (i := k) (a := d)
    rw [if_pos hk3] at hset
    have hold : textP wn rn zs = S.data.toList.take k ++ y :: S.data.toList.drop (k + 1) := by
      rw [← HTX.out]
      have q := List.take_append_drop k S.data.toList
      rw [List.drop_eq_getElem_cons hk3] at q
      rw [← HY.out]
      exact q.symm
    have hd8 := HD.out
    exact spoilt HV.out hb' HL.out hl' v1 (by omega) r1 r2 w3 r3 hold (by simp only [digB, Bool.and_eq_true, decide_eq_true_eq]; omega) (by simp only [digB, Bool.and_eq_true, decide_eq_true_eq]; omega) (fun h => by rw [h] at yd; omega) (e.symm.trans hset))
  have hl3 : (S.data.toList.set k d).length ≤ 400 := by
    rw [List.length_set]
    exact hsz
  clear hW3 bc bf HR
  have HR := HR3
  clear HR3
  have HRE : Hid (∀ W, Below w.heap.size w W → Calls Tryz.prog 40 #[str (S.data.toList.set k d)] W fun e w' => e = .returned (.tuple #[.agg #[.int .i64 0, .slice none 0 0], .int .i64 4]) ∧ Below W.heap.size W w') := Lib.hid (fun W hW => cRead_none _ W m (HM.out.below hW) (HT.out.below hW) hl3 HNO.out)
  have HSM : Hid (∀ W, Calls Tryz.prog 33 #[.agg #[.int .i64 0, .slice none 0 0], .agg #[.int .i64 0, .slice none 0 0]] W fun e w' => e = .returned (.bool true) ∧ Below W.heap.size W w') := Lib.hid (fun W => rSameField_yes 0 none none 0 0 0 [] W rfl (by omega) (Ints.nil W) (Ints.nil W))
  generalize S.data.toList.set k d = T at *
  go_wp2_with (first | (go_at_call 40; refine (HRE.out _ (Frm.b (w := w) (bs := [(w.heap.size, (.cells #[.int .i64 wd, .slice Z zs.length zc] 27))]) (by (repeat (with_reducible first | exact HR.out | apply Frm.drew | apply Frm.alloc | apply Frm.drewN))))).mono ?_; rintro e wa ⟨rfl, hba⟩; have HRq := Lib.hid (Frm.below (w := w) (bs := [(w.heap.size, (.cells #[.int .i64 wd, .slice Z zs.length zc] 27))]) (by (repeat (with_reducible first | exact HR.out | apply Frm.drew | apply Frm.alloc | apply Frm.drewN))) hba); clear HR; have HR := HRq; clear HRq hba; have x0 := HR.out.cells (List.mem_cons_self ..)) | (go_at_call 33; refine (HSM.out _).mono ?_; rintro e wa ⟨rfl, hba⟩; have HRq := Lib.hid (Frm.below (w := w) (bs := [(w.heap.size, (.cells #[.int .i64 wd, .slice Z zs.length zc] 27))]) (by (repeat (with_reducible first | exact HR.out | apply Frm.drew | apply Frm.alloc | apply Frm.drewN))) hba); clear HR; have HR := HRq; clear HRq hba; have x0 := HR.out.cells (List.mem_cons_self ..)) | (go_at_call 17; refine (GX.known_true _ (HT.out.below (Frm.b (w := w) (bs := [(w.heap.size, (.cells #[.int .i64 wd, .slice Z zs.length zc] 27))]) (by (repeat (with_reducible first | exact HR.out | apply Frm.drew | apply Frm.alloc | apply Frm.drewN)))))).mono ?_; rintro e wa ⟨rfl, hba⟩; have HRq := Lib.hid (Frm.below (w := w) (bs := [(w.heap.size, (.cells #[.int .i64 wd, .slice Z zs.length zc] 27))]) (by (repeat (with_reducible first | exact HR.out | apply Frm.drew | apply Frm.alloc | apply Frm.drewN))) hba); clear HR; have HR := HRq; clear HRq hba))
  go_ret
  exact ⟨rfl, (Frm.b (w := w) (bs := [(w.heap.size, (.cells #[.int .i64 wd, .slice Z zs.length zc] 27))]) (by (repeat (with_reducible first | exact HR.out | apply Frm.drew | apply Frm.alloc | apply Frm.drewN))))⟩
end Go.Proofs.YtpkmojcppdogkaaGreatDoor
