/- The law GlassSpoilt, walked. -/
import Derived.Test.YtbpkkphmmengnaaGreatDoorRsh
import Derived.Test.YtbpkkphmmengnaaGreatDoorRda
import Derived.Test.YtbpkkphmmengnaaGreatDoorKno
import Derived.Laws.IdiomStrings
set_option linter.unusedVariables false
set_option linter.unusedSimpArgs false
namespace Go.Proofs.YtbpkkphmmengnaaGreatDoor
open Go.RowKit Go.Maps
theorem sheet_all {rs : List Rdg} (h : sheetF rs = 0) : rs.all readB = true := by
  unfold sheetF at h
  split at h
  · cases h
  · split at h
    · assumption
    · cases h
theorem bytesRow_size (S : ByteArray) (c : Nat) (h : S.size ≤ c) : (bytesRow S c).size = c := by
  unfold bytesRow
  rw [Array.size_append, Array.size_map, Array.size_replicate]
  show S.size + (c - S.size) = c
  omega
theorem bytesRow_at (S : ByteArray) (c k : Nat) (h : k < S.size) : (bytesRow S c)[k]? = some (.int .u8 ((S[k]'h).toNat : Int)) := by
  unfold bytesRow
  have h' : k < (S.data.map fun b => Value.int .u8 b.toNat).size := by rw [Array.size_map]; exact h
  rw [Array.getElem?_append_left h', Array.getElem?_eq_getElem h', Array.getElem_map]
  rfl
theorem join_len7 (ws : List (List UInt8)) (h : ∀ x ∈ ws, x.length ≤ 6) : (Lib.join ws [32]).length ≤ ws.length * 7 := by
  induction ws with
  | nil => simp [Lib.join, List.intercalate]
  | cons a l ih =>
    have ha := h a (by simp)
    have hl := ih fun x hx => h x (List.mem_cons_of_mem _ hx)
    cases l with
    | nil =>
      have e : Lib.join [a] [32] = a := by simp [Lib.join, List.intercalate]
      rw [e]; simp; omega
    | cons b l =>
      have e : Lib.join (a :: b :: l) [32] = a ++ 32 :: Lib.join (b :: l) [32] := by simp [Lib.join, List.intercalate, List.intersperse]
      rw [e]
      simp only [List.length_append, List.length_cons] at *
      omega
theorem itoa_len6 {n : Int} (h0 : -99999 ≤ n) (h1 : n ≤ 99999) : (Lib.itoa n).length ≤ 6 := by
  unfold Lib.itoa
  split
  · have := dec_small (u := n.natAbs) (by omega)
    simp; omega
  · have := dec_small (u := n.toNat) (by omega)
    omega
theorem lines_len70 {rs : List Rdg} (h : AllPr rs) : (linesF rs).length ≤ 71 * rs.length := by
  induction rs with
  | nil => simp [linesF]
  | cons r rs ih =>
    have q := ih fun x hx => h x (List.mem_cons_of_mem _ hx)
    have hr := h r (by simp)
    have hn : ∀ x ∈ [r.day, r.mi, r.me, r.al, r.ah, r.dl, r.dh, r.wl, r.wh], (Lib.itoa x).length ≤ 6 := fun x hx => itoa_len6 (hr.n x hx).1 (hr.n x hx).2
    have hw : ∀ x ∈ wordsF r, x.length ≤ 6 := fun x hx => by
      simp only [wordsF, List.mem_cons, List.not_mem_nil, or_false] at hx
      rcases hx with rfl | rfl | rfl | rfl | rfl | rfl | rfl | rfl | rfl | rfl
      case inr.inr.inl => rcases letF_cases r.cl with e | e | e <;> rw [e] <;> simp
      all_goals exact hn _ (by simp)
    have p := join_len7 (wordsF r) hw
    rw [lines_cons, List.length_append, lineF_row, List.length_append, List.length_singleton, List.length_cons]
    unfold rowF
    have e : (wordsF r).length = 10 := rfl
    omega
theorem known_b {w W : World} (hh : Holds w) (ht : Tab w) (hb : Below w.heap.size w W) :
    Calls Tryz.prog 6 #[] W fun e w' => e = .returned (.bool true) ∧ Below w.heap.size w w' := by
  refine (known_ex W (hh.below hb) (ht.below hb)).mono ?_
  rintro e w' ⟨rfl, h⟩
  exact ⟨rfl, below_step hb h⟩
set_option maxHeartbeats 8000000 in
set_option maxRecDepth 100000 in
theorem lawGlassSpoilt {v : Value} {rs : List Rdg} {p dg m : Int} {w : World} (hc : Rdgs w v rs) (hh : Holds w) (ht : Tab w) (hm : MxL w m) :
    Calls Tryz.prog 5 #[v, .int .i64 p, .int .i64 dg] w fun e w' => e = .returned (.bool true) ∧ Below w.heap.size w w' := by
  have HC := Lib.hid hc
  have HH := Lib.hid hh
  have HT := Lib.hid ht
  have HM := Lib.hid hm
  obtain ⟨A, cap, rfl, hl, hcap, -⟩ := hc
  clear hh ht hm
  have hcap' : (cap : Int) ≤ 9223372036854775807 := by unfold maxLen at hcap; omega
  go_enter Tryz.func5, Tryz.ntmps5
  by_cases n20 : 20 < rs.length
  · have n20' : (20 : Int) < rs.length := by omega
    go_wp2_with fail
    refine (known_b HH.out HT.out (Below.refl _ _)).mono ?_
    rintro e w1 ⟨rfl, hb⟩
    have HB := Lib.hid hb
    clear hb
    go_wp2_with fail
    go_ret
    exact ⟨rfl, HB.out⟩
  have n20' : (rs.length : Int) ≤ 20 := by omega
  go_wp2_with fail
  refine (rSheet_any HC.out).mono ?_
  rintro e w1 ⟨rfl, hb1⟩
  have HB1 := Lib.hid hb1
  clear hb1
  cases hs : rs.all readB
  · go_wp2_with fail
    refine (known_b HH.out HT.out HB1.out).mono ?_
    rintro e w2 ⟨rfl, hb⟩
    have HB := Lib.hid hb
    clear hb
    go_wp2_with fail
    go_ret
    exact ⟨rfl, HB.out⟩
  have HS := Lib.hid (show sheetF rs = 0 by simp [sheetF, n20, hs])
  have HPR : Hid (AllPr rs) := Lib.hid (fun r hr => PrR.of_good (good_of_readB (List.all_eq_true.1 hs r hr)))
  clear hs n20
  by_cases d0 : dg < 0
  · go_wp2_with fail
    refine (known_b HH.out HT.out HB1.out).mono ?_
    rintro e w2 ⟨rfl, hb⟩
    have HB := Lib.hid hb
    clear hb
    go_wp2_with fail
    go_ret
    exact ⟨rfl, HB.out⟩
  by_cases d9 : 9 < dg
  · go_wp2_with fail
    refine (known_b HH.out HT.out HB1.out).mono ?_
    rintro e w2 ⟨rfl, hb⟩
    have HB := Lib.hid hb
    clear hb
    go_wp2_with fail
    go_ret
    exact ⟨rfl, HB.out⟩
  go_wp2_with fail
  refine (print_ok (HC.out.below HB1.out) HS.out (HT.out.below HB1.out)).mono ?_
  rintro e w2 ⟨rfl, hb2⟩
  have HB2 := Lib.hid (below_step HB1.out hb2)
  clear hb2
  obtain ⟨S, hS⟩ : ∃ S : ByteArray, (⟨(textF rs).toArray⟩ : ByteArray) = S := ⟨_, rfl⟩
  rw [show str (textF rs) = Value.string S from congrArg Value.string hS]
  have HTX := Lib.hid (show S.data.toList = textF rs by rw [← hS])
  clear hS
  by_cases p0 : p < 0
  · go_wp2_with fail
    refine (known_b HH.out HT.out HB2.out).mono ?_
    rintro e w3 ⟨rfl, hb⟩
    have HB := Lib.hid hb
    clear hb
    go_wp2_with fail
    go_ret
    exact ⟨rfl, HB.out⟩
  by_cases p1 : (S.size : Int) ≤ p
  · go_wp2_with fail
    refine (known_b HH.out HT.out HB2.out).mono ?_
    rintro e w3 ⟨rfl, hb⟩
    have HB := Lib.hid hb
    clear hb
    go_wp2_with fail
    go_ret
    exact ⟨rfl, HB.out⟩
  obtain ⟨k, rfl⟩ : ∃ k : Nat, p = k := ⟨p.toNat, by omega⟩
  have hk : k < S.size := by omega
  obtain ⟨y, hy⟩ : ∃ y, S[k]'hk = y := ⟨_, rfl⟩
  have hq : ∀ h, S[k]'h = y := fun _ => hy
  have HY := Lib.hid hy
  have hk2 : (k : Int) < S.size := by omega
  have hy8 : (y.toNat : Int) ≤ 255 := by have := y.toNat_lt; omega
  clear hy p0 p1
  by_cases y0 : (y.toNat : Int) < 48
  · go_wp2_with fail
    refine (known_b HH.out HT.out HB2.out).mono ?_
    rintro e w3 ⟨rfl, hb⟩
    have HB := Lib.hid hb
    clear hb
    go_wp2_with fail
    go_ret
    exact ⟨rfl, HB.out⟩
  by_cases y9 : (57 : Int) < y.toNat
  · go_wp2_with fail
    refine (known_b HH.out HT.out HB2.out).mono ?_
    rintro e w3 ⟨rfl, hb⟩
    have HB := Lib.hid hb
    clear hb
    go_wp2_with fail
    go_ret
    exact ⟨rfl, HB.out⟩
  have e1 : IntKind.u8.wrap ((y.toNat : Int) - 48) = (y.toNat : Int) - 48 := by
    have h1 : (0 : Int) ≤ (y.toNat : Int) - 48 := by omega
    have h2 : (y.toNat : Int) - 48 < 256 := by omega
    simp only [IntKind.wrap, IntKind.signed, IntKind.bits]
    simp
    omega
  have e2 : IntKind.i64.wrap ((y.toNat : Int) - 48) = (y.toNat : Int) - 48 := IntWalk.i64_in _ (by omega)
  by_cases yd : (y.toNat : Int) - 48 = dg
  · have hdb : ((y.toNat : Int) - 48 == dg) = true := by simpa using yd
    go_wp2_with fail
    refine (known_b HH.out HT.out HB2.out).mono ?_
    rintro e w3 ⟨rfl, hb⟩
    have HB := Lib.hid hb
    clear hb
    go_wp2_with fail
    go_ret
    exact ⟨rfl, HB.out⟩
  have hdb : ((y.toNat : Int) - 48 == dg) = false := by simpa using yd
  go_upto_region 8 with fail
  have hcv := run_bytes_of_string (P := Tryz.prog) w2 9 35 5 S (by kernel_rfl) Tryz.underlying35 (by kernel_rfl)
  have hge := grownCap_ge w2 S.size 0 5
  generalize grownCap w2 S.size 0 5 = c2 at *
  have hz := bytesRow_size S c2 hge
  rw [hz] at hcv
  have HZ := Lib.hid hz
  clear hz
  go_upto_region 9 with fail
  have hbk := heap_new w2 (.cells (bytesRow S c2) 5 (c2, c2 + 1)) rfl
  have HBK := Lib.hid hbk
  have bc : (w2.alloc (.cells (bytesRow S c2) 5 (c2, c2 + 1))).cell? ⟨w2.heap.size, k, none⟩ = some (.int .u8 (y.toNat : Int)) := by
    rw [cell_of_row _ _ _ _ _ _ hbk, bytesRow_at S c2 k hk, HY.out]
  have bf : (w2.alloc (.cells (bytesRow S c2) 5 (c2, c2 + 1))).frozen? ⟨w2.heap.size, k, none⟩ = false := by
    unfold World.frozen?
    simp only [hbk]
    simp
    omega
  have e3 : IntKind.u8.wrap (48 + dg) = 48 + dg := by
    have h1 : (0 : Int) ≤ 48 + dg := by omega
    have h2 : 48 + dg < 256 := by omega
    simp only [IntKind.wrap, IntKind.signed, IntKind.bits]
    simp
    omega
  clear hbk hcv hq
  go_upto_region 10 with fail
  obtain ⟨d, hd⟩ : ∃ d : UInt8, (d.toNat : Int) = 48 + dg := ⟨UInt8.ofNat (48 + dg.toNat), by
    rw [show (UInt8.ofNat (48 + dg.toNat)).toNat = 48 + dg.toNat from dig_of (by omega)]
    omega⟩
  rw [← hd]
  have HD := Lib.hid hd
  obtain ⟨W3, hW3⟩ : ∃ W3, ((w2.alloc (.cells (bytesRow S c2) 5 (c2, c2 + 1))).setCell ⟨w2.heap.size, k, none⟩ (.int .u8 (d.toNat : Int))).drew = W3 := ⟨_, rfl⟩
  have hback : (convert 35 9 (.slice (some ⟨w2.heap.size, 0, none⟩) S.size c2)).run Tryz.prog W3 = .ok (str (S.data.toList.set k d)) W3 := by
    have hlen : (S.data.toList.set k d).length = S.size := by simp
    have q := run_convert_bytes_back (P := Tryz.prog) W3 35 9 5 ⟨w2.heap.size, 0, none⟩ c2 (S.data.toList.set k d) Tryz.underlying35 (by kernel_rfl) (by kernel_rfl) (fun j hj => by
      rw [← hW3, Go.WideShapes.add_plain, Nat.zero_add]
      have hj' : j < S.size := by rw [← hlen]; exact hj
      show ((w2.alloc (.cells (bytesRow S c2) 5 (c2, c2 + 1))).setCell ⟨w2.heap.size, k, none⟩ (.int .u8 (d.toNat : Int))).cell? ⟨w2.heap.size, j, none⟩ = _
      rw [cell_of_row _ _ _ _ _ _ (heap_setCell_same (o := k) HBK.out (.int .u8 (d.toNat : Int)))]
      rw [List.getElem_set]
      by_cases hjk : k = j
      · subst hjk
        rw [if_pos rfl, Array.getElem?_setIfInBounds, if_pos rfl, if_pos (by rw [HZ.out]; omega)]
      · rw [if_neg hjk, Array.getElem?_setIfInBounds_ne hjk, bytesRow_at S c2 j hj']
        rfl)
    rw [hlen] at q
    exact q
  have HB3 : Hid (Below w.heap.size w W3) := Lib.hid (by
    rw [← hW3]
    exact (below_set (below_al HB2.out _) HB2.out.size _).drew)
  rw [hW3]
  have HNO : Hid (¬ IsText (S.data.toList.set k d)) := Lib.hid (by
    rintro ⟨l, hl, e⟩
    have hk3 : k < S.data.toList.length := by simpa using hk
    have hset := List.set_eq_take_append_cons_drop (l := S.data.toList) (i := k) (a := d)
    rw [if_pos hk3] at hset
    have hold : textF rs = S.data.toList.take k ++ y :: S.data.toList.drop (k + 1) := by
      rw [← HTX.out]
      have q := List.take_append_drop k S.data.toList
      rw [List.drop_eq_getElem_cons hk3] at q
      rw [← HY.out]
      exact q.symm
    rw [hset] at e
    have hd8 := HD.out
    exact spoilt hold (by simp only [digB, Bool.and_eq_true, decide_eq_true_eq]; omega) (by simp only [digB, Bool.and_eq_true, decide_eq_true_eq]; omega) (fun h => by rw [h] at yd; omega) e.symm)
  have hl3 : (S.data.toList.set k d).length ≤ 3000 := by
    rw [List.length_set, HTX.out]
    unfold textF
    have q := lines_len70 (rs := rs) HPR.out
    rw [List.length_append, end_len]
    omega
  clear hW3 bc bf
  go_wp2_with fail
  refine (read_any (HM.out.below HB3.out) (HT.out.below HB3.out) (by omega)).mono ?_
  rintro e w5 ⟨hb, ⟨h3, -⟩ | ⟨-, -, rfl⟩ | ⟨l, -, hl', htx, -⟩⟩
  · exact absurd h3 (by omega)
  · have HB5 := Lib.hid (below_step HB3.out hb)
    clear hb
    go_wp2_with fail
    refine (known_b HH.out HT.out HB5.out).mono ?_
    rintro e w6 ⟨rfl, hb⟩
    have HB := Lib.hid hb
    clear hb
    go_wp2_with fail
    go_ret
    exact ⟨rfl, HB.out⟩
  · exact absurd ⟨l, hl', htx⟩ HNO.out
end Go.Proofs.YtbpkkphmmengnaaGreatDoor
