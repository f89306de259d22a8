/- The reference's Read, and the law ChartReads, walked. -/
import Derived.Test.YtpkmojcppdogkaaGreatDoorTxp
import Derived.Test.YtpkmojcppdogkaaGreatDoorKi
import Derived.Laws.IdiomStrings
set_option linter.unusedVariables false
set_option linter.unusedSimpArgs false
namespace Go.Proofs.YtpkmojcppdogkaaGreatDoor
open Go.RowKit
open Go.Maps
theorem join_snoc (ws : List (List UInt8)) (w : List UInt8) (h : ws ≠ []) : Lib.join (ws ++ [w]) [32] = Lib.join ws [32] ++ [32] ++ w := by
  induction ws with
  | nil => exact absurd rfl h
  | cons a r ih =>
    cases r with
    | nil => rw [List.singleton_append, join_two, join_one']
    | cons b r =>
      have := ih (by simp)
      rw [List.cons_append, List.cons_append, join_cons', join_cons', ← List.cons_append, this]
      simp
theorem fl_row {wd rw r : Nat} {zs : List Int} (hz : ∀ z ∈ zs, 0 ≤ z ∧ z ≤ 99999) (hl : zs.length = rw * wd) (hr : r < rw) : ∀ i, i < wd → flL (wd : Int) zs (r * wd + (i + 1)) = flL (wd : Int) zs (r * wd) ++ [10] ++ lineF ((rowOf wd zs r).take (i + 1))
  | 0, hi => by
    have hx := ev_row hl hr hi
    have hb := hz (ev zs (r * wd)) (rowOf_mem (List.mem_of_getElem? (by rwa [Nat.add_zero] at hx)))
    have h0 : ((r * wd : Nat) : Int) % (wd : Int) = 0 := by
      rw [Int.natCast_mul]; exact Int.mul_emod_left _ _
    have e1 : (rowOf wd zs r).take 1 = [ev zs (r * wd)] := by
      rw [List.take_one]
      rw [Nat.add_zero] at hx
      rw [List.head?_eq_getElem?, hx]
      rfl
    have e2 : Lib.itoa (ev zs (r * wd)) = Lib.decDigits (ev zs (r * wd)).toNat := by
      have := Lib.itoa_nonneg (ev zs (r * wd)).toNat
      rwa [Int.toNat_of_nonneg hb.1] at this
    rw [Nat.zero_add, e1]
    show flL (wd : Int) zs (r * wd) ++ (if ((r * wd : Nat) : Int) % (wd : Int) = 0 then [10] else [32]) ++ Lib.decDigits (ev zs (r * wd)).toNat = _
    rw [if_pos h0, lineF, itosL, List.map_cons, List.map_nil, join_one', e2]
  | i + 1, hi => by
    have ih := fl_row hz hl hr i (by omega)
    have hx := ev_row hl hr hi
    have hb := hz (ev zs (r * wd + (i + 1))) (rowOf_mem (List.mem_of_getElem? hx))
    have h0 : ¬ ((r * wd + (i + 1) : Nat) : Int) % (wd : Int) = 0 := by
      intro h
      have : ((r * wd + (i + 1)) % wd : Nat) = 0 := by
        have h2 : (((r * wd + (i + 1)) % wd : Nat) : Int) = 0 := by rw [Int.natCast_emod]; exact h
        omega
      rw [Nat.mul_comm, Nat.mul_add_mod, Nat.mod_eq_of_lt hi] at this
      omega
    have e2 : Lib.itoa (ev zs (r * wd + (i + 1))) = Lib.decDigits (ev zs (r * wd + (i + 1))).toNat := by
      have := Lib.itoa_nonneg (ev zs (r * wd + (i + 1))).toNat
      rwa [Int.toNat_of_nonneg hb.1] at this
    have e1 : itosL ((rowOf wd zs r).take (i + 1 + 1)) = itosL ((rowOf wd zs r).take (i + 1)) ++ [Lib.itoa (ev zs (r * wd + (i + 1)))] := itosL_snoc hx
    have hne : itosL ((rowOf wd zs r).take (i + 1)) ≠ [] := fun e => by
      have := congrArg List.length e
      rw [itosL_len, List.length_take, rowOf_len hl hr] at this
      simp at this
      omega
    show flL (wd : Int) zs (r * wd + (i + 1)) ++ (if ((r * wd + (i + 1) : Nat) : Int) % (wd : Int) = 0 then [10] else [32]) ++ Lib.decDigits (ev zs (r * wd + (i + 1))).toNat = _
    rw [if_neg h0, ih, lineF, lineF, e1, join_snoc _ _ hne, e2]
    simp
theorem fl_rows {wd rw : Nat} {zs : List Int} (hz : ∀ z ∈ zs, 0 ≤ z ∧ z ≤ 99999) (hl : zs.length = rw * wd) (w1 : 1 ≤ wd) : ∀ r, r ≤ rw → flL (wd : Int) zs (r * wd) ++ [10] = [10] ++ rowsT wd zs r
  | 0, _ => by simp [flL, rowsT]
  | r + 1, h => by
    have ih := fl_rows hz hl w1 r (by omega)
    have e := fl_row hz hl (show r < rw by omega) (wd - 1) (by omega)
    have e2 : wd - 1 + 1 = wd := by omega
    rw [e2] at e
    have e3 : (rowOf wd zs r).take wd = rowOf wd zs r := List.take_of_length_le (by rw [rowOf_len hl (by omega)]; exact Nat.le_refl _)
    rw [e3] at e
    rw [Nat.add_mul, Nat.one_mul, e, rowsT, ih]
    simp
theorem two_dig (x : Int) (h0 : 0 ≤ x) (h1 : x < 100) : (Lib.itoa (100 + x)).drop 1 = Lib.decDigits (x / 10).toNat ++ Lib.decDigits (x % 10).toNat := by
  obtain ⟨n, rfl⟩ : ∃ n : Nat, x = n := ⟨x.toNat, by omega⟩
  have e : (100 : Int) + n = ((100 + n : Nat) : Int) := by omega
  have a1 : ((n : Int) / 10).toNat = n / 10 := by omega
  have a2 : ((n : Int) % 10).toNat = n % 10 := by omega
  rw [a1, a2, e, Lib.itoa_nonneg, Lib.decDigits, dif_neg (by omega), Lib.decDigits, dif_neg (by omega), Lib.decDigits, dif_pos (by omega)]
  rw [Lib.decDigits, dif_pos (show n / 10 < 10 by omega), Lib.decDigits, dif_pos (show n % 10 < 10 by omega)]
  have h3 : (100 + n) / 10 / 10 = 1 := by omega
  have h4 : (100 + n) / 10 % 10 = n / 10 := by omega
  have h5 : (100 + n) % 10 = n % 10 := by omega
  rw [h3, h4, h5]
  rfl
theorem text_eq {wd rw : Nat} {zs : List Int} (hz : ∀ z ∈ zs, 0 ≤ z ∧ z ≤ 99999) (hl : zs.length = rw * wd) (w1 : 1 ≤ wd) : textR (wd : Int) zs = textP wd rw zs := by
  have hq : (zs.length : Int) / (wd : Int) = (rw : Int) := by
    rw [hl, Int.natCast_mul]
    exact Int.mul_ediv_cancel _ (by omega)
  have hh : headL (wd : Int) zs = headF wd rw := by
    rw [headF_eq, headL, hq, Lib.itoa_nonneg, Lib.itoa_nonneg, Int.toNat_natCast, Int.toNat_natCast]
    simp [chartW]
  have hf := fl_rows hz hl w1 rw (Nat.le_refl _)
  rw [← hl] at hf
  have ht : tailR (sumN (wd : Int) zs zs.length) = [10] ++ endL (wd : Int) zs := by
    unfold tailR endL
    rw [two_dig _ (by omega) (by omega)]
    simp
  rw [textR, textP, hh, ht, ← List.append_assoc, List.append_assoc (headF wd rw), hf]
  simp
theorem own_str {w : World} {base : Nat} {v : Value} {ws : List (List UInt8)} (h : OwnW w base v ws) (hne : ws ≠ []) : ∃ g cap cur, v = .slice (some ⟨g, 0, none⟩) ws.length cap ∧ ws.length ≤ cap ∧ cap ≤ maxLen ∧ w.heap[g]? = some (.cells cur 9) ∧ (∀ (i : Nat) x, ws[i]? = some x → cur[i]? = some (str x)) ∧ base ≤ g := by
  rcases h.2 with ⟨_, hz⟩ | ⟨g, cap, cur, hv, hb0, hg, h1, h2, h3, h4⟩
  · exact absurd (List.length_eq_zero_iff.1 hz) hne
  · refine ⟨g, cap, cur, hv, h1, h2, hg, fun i x hi => ?_, hb0⟩
    have hil := (List.getElem?_eq_some_iff.1 hi).1
    have q : (cur.toList.take ws.length)[i]? = (ws.map str)[i]? := by
      rw [← h4]
      simp
    rw [List.getElem?_take_of_lt hil, Array.getElem?_toList, List.getElem?_map, hi] at q
    exact q
theorem rSplit_row (S : ByteArray) (b : UInt8) (c : Int) (hbc : c = (b.toNat : Int)) (w : World) (hs : S.size ≤ 3200) :
    Calls Tryz.prog 82 #[.string S, .int .u8 c] w fun e w' => ∃ g cap cur, e = .returned (.slice (some ⟨g, 0, none⟩) (spl b S.data.toList).length cap) ∧ (spl b S.data.toList).length ≤ cap ∧ cap ≤ maxLen ∧ w'.heap[g]? = some (.cells cur 9) ∧ (∀ (i : Nat) x, (spl b S.data.toList)[i]? = some x → cur[i]? = some (str x)) ∧ w.heap.size ≤ g ∧ Below w.heap.size w w' :=
  (rSplit_any S b c hbc w hs).mono fun e w' ⟨v, he, hO, hb⟩ => by
    obtain ⟨g, cap, cur, hv, h1, h2, h3, h4, h5⟩ := own_str hO (spl_ne _ _)
    exact ⟨g, cap, cur, by rw [he, hv], h1, h2, h3, h4, h5, hb⟩
theorem rWords_nil (w : World) : Calls Tryz.prog 84 #[str []] w fun e w' => e = .returned (.slice none 0 0) ∧ Below w.heap.size w w' := by
  go_enter Tryz.func84, Tryz.ntmps84
  go_wp2_with fail
  go_ret
  exact ⟨rfl, Below.refl _ _⟩
theorem rNumbers_nil (w : World) : Calls Tryz.prog 83 #[.slice none 0 0] w fun e w' => e = .returned (.tuple #[.slice none 0 0, .bool true]) ∧ Below w.heap.size w w' := by
  go_enter Tryz.func83, Tryz.ntmps83
  go_wp2_with fail
  go_loopw [4, 5] (fun v i wr => wr = w ∧ v = .slice none 0 0 ∧ i = .int .i64 0) (fun _ _ _ => 0)
  case atStart => exact ⟨rfl, rfl, rfl⟩
  case round =>
    obtain ⟨rfl, rfl, rfl⟩ := hrel
    go_wp2_with fail
    go_ret2
    exact ⟨rfl, Below.refl _ _⟩
theorem RW.fresh {w W W1 : World} {base : Nat} {bs : List (Nat × Obj)} {rs : List Rw} {g : Nat} {o : Obj} (h : RW w base bs rs W) (hb : Below W.heap.size W W1) (hg : W1.heap[g]? = some o) (hge : W.heap.size ≤ g) : RW w base ((g, o) :: bs) rs W1 := by
  have h1 := h.below hb
  refine ⟨h1.frm.more hg, h1.own, fun s hs k hk p hp => ?_, h1.dis, h1.lo, h1.hi⟩
  rcases List.mem_cons.1 hp with rfl | hp
  · intro e
    have := (World.ownsRow.lt (h.own s hs) k hk).2
    simp only at e
    omega
  · exact h1.sep s hs k hk p hp
theorem head_spl {l0 a b : List UInt8} (h : l0 = chartW ++ (a ++ [32] ++ b)) (ga : goodN a) (gb : goodN b) : spl 32 l0 = [[99, 104, 97, 114, 116], a, b] := by
  have e : l0 = [99, 104, 97, 114, 116] ++ 32 :: (a ++ 32 :: b) := by rw [h]; simp [chartW]
  rw [e, spl_app 32 _ _ (by decide), spl_app 32 _ _ (good_not ga (by decide)), spl_no 32 b (good_not gb (by decide))]
theorem sum_app (wd : Int) (a b : List Int) : ∀ n, n ≤ a.length → sumN wd (a ++ b) n = sumN wd a n
  | 0, _ => rfl
  | n + 1, h => by
    have e : ev (a ++ b) n = ev a n := by
      unfold ev
      rw [List.getD_eq_getElem?_getD, List.getD_eq_getElem?_getD, List.getElem?_append_left (by omega)]
    simp only [sumN]
    rw [sum_app wd a b n (by omega), e]
theorem endW_two (wd : Int) (zs : List Int) : endW wd zs = [101, 110, 100, 32] ++ Lib.decDigits (sumN wd zs zs.length % 97 / 10).toNat ++ Lib.decDigits (sumN wd zs zs.length % 97 % 10).toNat := by
  unfold endW
  rw [two_dig _ (by omega) (by omega)]
  simp
set_option maxHeartbeats 16000000 in
set_option maxRecDepth 100000 in
theorem rRead_any (T : List UInt8) (w : World) (hl : T.length ≤ 500) :
    Calls Tryz.prog 42 #[str T] w fun e w' => RdPost2 w (spl 10 T) e w' := by
  have HXL : Hid (∀ x ∈ spl 10 T, x.length ≤ 500) := Lib.hid (fun x hx => by
    have := join_ge (b := 10) (spl 10 T) x hx
    rw [spl_join] at this
    omega)
  have HSZ : Hid (∀ n, n + 1 ≤ (spl 10 T).length → (valsN (spl 10 T) n).length ≤ 501) := Lib.hid (fun n hn => by
    have := vals_size (spl 10 T) n hn
    rw [spl_join] at this
    omega)
  have hll : (spl 10 T).length ≤ 501 := Nat.le_trans (spl_len 10 T) (by omega)
  cases hls : spl 10 T with
  | nil => exact absurd hls (spl_ne _ _)
  | cons l0 lr =>
    have HLS := Lib.hid hls
    rw [hls] at HXL HSZ hll
    have HLL := Lib.hid hll
    have hx0 : l0.length ≤ 500 := HXL.out l0 (List.mem_cons_self ..)
    have H10 : Hid ((10 : Int) = ((10 : UInt8).toNat : Int)) := Lib.hid rfl
    have H32 : Hid ((32 : Int) = ((32 : UInt8).toNat : Int)) := Lib.hid rfl
    have HTL : (⟨T.toArray⟩ : ByteArray).size ≤ 3200 := Nat.le_trans hl (by omega)
    have HL0 : (⟨l0.toArray⟩ : ByteArray).size ≤ 3200 := Nat.le_trans hx0 (by omega)
    have HR := Lib.hid ((Frm.nil w).add (.cells #[.int .i64 0, .slice none 0 0] 27) rfl)
    have x0 := HR.out.cells (List.mem_cons_self ..); have f0 := HR.out.free (List.mem_cons_self ..); have k0 := HR.out.lt (List.mem_cons_self ..)
    obtain ⟨ln, hln⟩ : ∃ ln, (l0 :: lr).length = ln := ⟨_, rfl⟩
    obtain ⟨ws0, hw0⟩ : ∃ ws0, spl 32 l0 = ws0 := ⟨_, rfl⟩
    have HW0 := Lib.hid hw0
    have hw0l : ws0.length ≤ 501 := by rw [← hw0]; exact Nat.le_trans (spl_len 32 l0) (by omega)
    have HWX : Hid (∀ y ∈ ws0, y.length ≤ 3200) := Lib.hid (fun y hy => by
      rw [← hw0] at hy
      have := join_ge (b := 32) (spl 32 l0) y hy
      rw [spl_join] at this
      omega)
    have HLn := Lib.hid hln
    have hln1 : 0 < ln := by rw [← hln]; simp
    rw [hln] at hll
    clear hls hw0
    by_cases h3 : ws0.length = 3
    rotate_left
    · have H3 := Lib.hid h3
      obtain ⟨n3, hn3⟩ : ∃ n3, ws0.length = n3 := ⟨_, rfl⟩
      rw [hn3] at h3 hw0l
      have hn31 : ((n3 : Int) != 3) = true := by simp; omega
      have HN3 := Lib.hid hn3
      clear hn3 h3 hln
      go_enter Tryz.func42, Tryz.ntmps42
      go_wp2_with fail
      go_at_call 82
      with_reducible refine (rSplit_row (⟨T.toArray⟩ : ByteArray) 10 10 H10.out _ HTL).mono ?_
      rw [show spl 10 (⟨T.toArray⟩ : ByteArray).data.toList = l0 :: lr from HLS.out, HLn.out]
      rintro e wa ⟨g1, c1, cur1, rfl, hc1, hm1, hg1, hr1, hbs1, hba⟩
      have HR1 := Lib.hid hr1
      have HRq := Lib.hid ((HR.out.below hba).more hg1)
      clear HR x0 f0 k0
      have HR := HRq
      clear HRq
      have x1 := HR.out.cells (List.mem_cons_of_mem _ (List.mem_cons_self ..))
      have f1 := HR.out.free (List.mem_cons_of_mem _ (List.mem_cons_self ..))
      have k1 := HR.out.lt (List.mem_cons_of_mem _ (List.mem_cons_self ..))
      have c00 := (HR.out.cells (List.mem_cons_self ..) 0).trans (HR1.out 0 l0 rfl)
      unfold maxLen at hm1
      clear hba hg1 hr1
      go_wp2_with fail
      go_at_call 82
      with_reducible refine (rSplit_row (⟨l0.toArray⟩ : ByteArray) 32 32 H32.out _ HL0).mono ?_
      rw [show spl 32 (⟨l0.toArray⟩ : ByteArray).data.toList = ws0 from HW0.out, HN3.out]
      rintro e wb ⟨g2, c2, cur2, rfl, hc2, hm2, hg2, hr2, hbs2, hbb⟩
      have HR2 := Lib.hid hr2
      have HRq := Lib.hid ((HR.out.below hbb).more hg2)
      clear HR x1 f1 k1 c00
      have HR := HRq
      clear HRq
      have x2 := HR.out.cells (List.mem_cons_of_mem _ (List.mem_cons_of_mem _ (List.mem_cons_self ..)))
      have f2 := HR.out.free (List.mem_cons_of_mem _ (List.mem_cons_of_mem _ (List.mem_cons_self ..)))
      have k2 := HR.out.lt (List.mem_cons_of_mem _ (List.mem_cons_of_mem _ (List.mem_cons_self ..)))
      unfold maxLen at hm2
      clear hbb hg2 hr2
      go_wp2_with fail
      have HZ9 := Lib.hid (show ∀ wd' rw', ¬ GoodL (l0 :: lr) wd' rw' from fun wd' rw' hg => by
        obtain ⟨a', b', e0', ga', gb', ea', eb'⟩ := hg.head
        have es : spl 32 l0 = [[99, 104, 97, 114, 116], a', b'] := head_spl e0' ga' gb'
        rw [HW0.out] at es
        exact H3.out (by rw [es]; rfl))
      have hF9 := Frm.put (Frm.put (Frm.less (bs' := [(w.heap.size, (.cells #[.int .i64 0, .slice none 0 0] 27))]) HR.out (by simp)) (Nat.le_refl _) (by simp) 0 (.int .i64 0)) (Nat.le_refl _) (by simp) 1 (.slice none 0 0)
      have u9 := hF9.cells (List.mem_cons_self ..)
      refine bodyPost_ret (v := .tuple #[.agg #[.int .i64 0, .slice none 0 0], .bool false]) (by simp [results, Tryz.results42, go_sem, u9]) rfl ?_
      exact ⟨hF9.b, .inr ⟨HZ9.out, 0, none, 0, 0, rfl⟩⟩
    obtain ⟨c, a, b, rfl⟩ : ∃ c a b, ws0 = [c, a, b] := by
      match h : ws0, h3 with
      | [c, a, b], _ => exact ⟨c, a, b, rfl⟩
    by_cases hcb : c = [99, 104, 97, 114, 116]
    rotate_left
    · have HCB := Lib.hid hcb
      have hcb1 : (c == [99, 104, 97, 114, 116]) = false := by simpa using hcb
      clear hcb hln h3
      go_enter Tryz.func42, Tryz.ntmps42
      go_wp2_with fail
      go_at_call 82
      with_reducible refine (rSplit_row (⟨T.toArray⟩ : ByteArray) 10 10 H10.out _ HTL).mono ?_
      rw [show spl 10 (⟨T.toArray⟩ : ByteArray).data.toList = l0 :: lr from HLS.out, HLn.out]
      rintro e wa ⟨g1, c1, cur1, rfl, hc1, hm1, hg1, hr1, hbs1, hba⟩
      have HR1 := Lib.hid hr1
      have HRq := Lib.hid ((HR.out.below hba).more hg1)
      clear HR x0 f0 k0
      have HR := HRq
      clear HRq
      have x1 := HR.out.cells (List.mem_cons_of_mem _ (List.mem_cons_self ..))
      have f1 := HR.out.free (List.mem_cons_of_mem _ (List.mem_cons_self ..))
      have k1 := HR.out.lt (List.mem_cons_of_mem _ (List.mem_cons_self ..))
      have c00 := (HR.out.cells (List.mem_cons_self ..) 0).trans (HR1.out 0 l0 rfl)
      unfold maxLen at hm1
      clear hba hg1 hr1
      go_wp2_with fail
      go_at_call 82
      with_reducible refine (rSplit_row (⟨l0.toArray⟩ : ByteArray) 32 32 H32.out _ HL0).mono ?_
      rw [show spl 32 (⟨l0.toArray⟩ : ByteArray).data.toList = [c, a, b] from HW0.out]
      rintro e wb ⟨g2, c2, cur2, rfl, hc2, hm2, hg2, hr2, hbs2, hbb⟩
      have HR2 := Lib.hid hr2
      have HRq := Lib.hid ((HR.out.below hbb).more hg2)
      clear HR x1 f1 k1 c00
      have HR := HRq
      clear HRq
      have x2 := HR.out.cells (List.mem_cons_of_mem _ (List.mem_cons_of_mem _ (List.mem_cons_self ..)))
      have f2 := HR.out.free (List.mem_cons_of_mem _ (List.mem_cons_of_mem _ (List.mem_cons_self ..)))
      have k2 := HR.out.lt (List.mem_cons_of_mem _ (List.mem_cons_of_mem _ (List.mem_cons_self ..)))
      have cw := (HR.out.cells (List.mem_cons_self ..) 0).trans (HR2.out 0 _ rfl)
      unfold maxLen at hm2
      clear hbb hg2 hr2
      go_wp2_with fail
      have HZ9 := Lib.hid (show ∀ wd' rw', ¬ GoodL (l0 :: lr) wd' rw' from fun wd' rw' hg => by
        obtain ⟨a', b', e0', ga', gb', ea', eb'⟩ := hg.head
        have es : spl 32 l0 = [[99, 104, 97, 114, 116], a', b'] := head_spl e0' ga' gb'
        rw [HW0.out] at es
        obtain ⟨rfl, -⟩ := List.cons.inj es
        exact HCB.out rfl)
      have hF9 := Frm.put (Frm.put (Frm.less (bs' := [(w.heap.size, (.cells #[.int .i64 0, .slice none 0 0] 27))]) HR.out (by simp)) (Nat.le_refl _) (by simp) 0 (.int .i64 0)) (Nat.le_refl _) (by simp) 1 (.slice none 0 0)
      have u9 := hF9.cells (List.mem_cons_self ..)
      refine bodyPost_ret (v := .tuple #[.agg #[.int .i64 0, .slice none 0 0], .bool false]) (by simp [results, Tryz.results42, go_sem, u9]) rfl ?_
      exact ⟨hF9.b, .inr ⟨HZ9.out, 0, none, 0, 0, rfl⟩⟩
    subst hcb
    have SP2 : True := trivial
    by_cases hg : ∀ z ∈ [a, b], goodN z
    rotate_left
    · have HG := Lib.hid hg
      have HNM : Hid (∀ W g c, WdsAt W g 1 [a, b] → 2 ≤ c → c ≤ maxLen → Calls Tryz.prog 83 #[.slice (some ⟨g, 1, none⟩) 2 c] W fun e w' => e = .returned (.tuple #[.slice none 0 0, .bool false]) ∧ Below W.heap.size W w') := Lib.hid (fun W g c hat h1 h2 => (rNumbers_any g 1 c [a, b] W hat (by simp) h1 h2 (fun x hx => HWX.out x (List.mem_cons_of_mem _ hx))).mono fun e w' ⟨hb, h⟩ => by
        rcases h with ⟨hall, _⟩ | ⟨_, he⟩
        · exact absurd hall HG.out
        · exact ⟨he, hb⟩)
      clear hg hln h3
      go_enter Tryz.func42, Tryz.ntmps42
      go_wp2_with fail
      go_at_call 82
      with_reducible refine (rSplit_row (⟨T.toArray⟩ : ByteArray) 10 10 H10.out _ HTL).mono ?_
      rw [show spl 10 (⟨T.toArray⟩ : ByteArray).data.toList = l0 :: lr from HLS.out, HLn.out]
      rintro e wa ⟨g1, c1, cur1, rfl, hc1, hm1, hg1, hr1, hbs1, hba⟩
      have HR1 := Lib.hid hr1
      have HRq := Lib.hid ((HR.out.below hba).more hg1)
      clear HR x0 f0 k0
      have HR := HRq
      clear HRq
      have x1 := HR.out.cells (List.mem_cons_of_mem _ (List.mem_cons_self ..))
      have f1 := HR.out.free (List.mem_cons_of_mem _ (List.mem_cons_self ..))
      have k1 := HR.out.lt (List.mem_cons_of_mem _ (List.mem_cons_self ..))
      have c00 := (HR.out.cells (List.mem_cons_self ..) 0).trans (HR1.out 0 l0 rfl)
      unfold maxLen at hm1
      clear hba hg1 hr1
      go_wp2_with fail
      go_at_call 82
      with_reducible refine (rSplit_row (⟨l0.toArray⟩ : ByteArray) 32 32 H32.out _ HL0).mono ?_
      rw [show spl 32 (⟨l0.toArray⟩ : ByteArray).data.toList = [[99, 104, 97, 114, 116], a, b] from HW0.out]
      rintro e wb ⟨g2, c2, cur2, rfl, hc2, hm2, hg2, hr2, hbs2, hbb⟩
      have HR2 := Lib.hid hr2
      have HRq := Lib.hid ((HR.out.below hbb).more hg2)
      clear HR x1 f1 k1 c00
      have HR := HRq
      clear HRq
      have x2 := HR.out.cells (List.mem_cons_of_mem _ (List.mem_cons_of_mem _ (List.mem_cons_self ..)))
      have f2 := HR.out.free (List.mem_cons_of_mem _ (List.mem_cons_of_mem _ (List.mem_cons_self ..)))
      have k2 := HR.out.lt (List.mem_cons_of_mem _ (List.mem_cons_of_mem _ (List.mem_cons_self ..)))
      have cw := (HR.out.cells (List.mem_cons_self ..) 0).trans (HR2.out 0 _ rfl)
      have HAT : Hid (WdsAt wb g2 1 [a, b]) := Lib.hid ⟨HR.out.lt (List.mem_cons_self ..), fun i x hi => (HR.out.cells (List.mem_cons_self ..) (1 + i)).trans (HR2.out (1 + i) x (by rw [Nat.add_comm]; exact hi))⟩
      have hc21 : ¬ c2 = 1 := (by simp at hc2; omega)
      have hc22 : 1 ≤ c2 := (by simp at hc2; omega)
      have hc23 : 2 ≤ c2 - 1 := (by simp at hc2; omega)
      have hc24 : c2 - 1 ≤ maxLen := Nat.le_trans (Nat.sub_le _ _) hm2
      unfold maxLen at hm2
      clear hbb hg2 hr2
      go_wp2_with fail
      go_at_call 83
      refine (HNM.out _ _ _ HAT.out hc23 hc24).mono ?_
      rintro e wc ⟨rfl, hbc⟩
      have HRq := Lib.hid (HR.out.below hbc)
      clear HR x2 f2 k2 cw
      have HR := HRq
      clear HRq
      have x2 := HR.out.cells (List.mem_cons_of_mem _ (List.mem_cons_of_mem _ (List.mem_cons_self ..)))
      have f2 := HR.out.free (List.mem_cons_of_mem _ (List.mem_cons_of_mem _ (List.mem_cons_self ..)))
      have k2 := HR.out.lt (List.mem_cons_of_mem _ (List.mem_cons_of_mem _ (List.mem_cons_self ..)))
      clear hbc
      go_wp2_with fail
      have HZ9 := Lib.hid (show ∀ wd' rw', ¬ GoodL (l0 :: lr) wd' rw' from fun wd' rw' hg => by
        obtain ⟨a', b', e0', ga', gb', ea', eb'⟩ := hg.head
        have es : spl 32 l0 = [[99, 104, 97, 114, 116], a', b'] := head_spl e0' ga' gb'
        rw [HW0.out] at es
        obtain ⟨-, es2⟩ := List.cons.inj es
        obtain ⟨rfl, es3⟩ := List.cons.inj es2
        obtain ⟨rfl, -⟩ := List.cons.inj es3
        exact HG.out (by intro z hz; simp at hz; rcases hz with rfl | rfl <;> assumption))
      have hF9 := Frm.put (Frm.put (Frm.less (bs' := [(w.heap.size, (.cells #[.int .i64 0, .slice none 0 0] 27))]) HR.out (by simp)) (Nat.le_refl _) (by simp) 0 (.int .i64 0)) (Nat.le_refl _) (by simp) 1 (.slice none 0 0)
      have u9 := hF9.cells (List.mem_cons_self ..)
      refine bodyPost_ret (v := .tuple #[.agg #[.int .i64 0, .slice none 0 0], .bool false]) (by simp [results, Tryz.results42, go_sem, u9]) rfl ?_
      exact ⟨hF9.b, .inr ⟨HZ9.out, 0, none, 0, 0, rfl⟩⟩
    have ga : goodN a := hg a (by simp)
    have gb : goodN b := hg b (by simp)
    have HNM : Hid (∀ W g c, WdsAt W g 1 [a, b] → 2 ≤ c → c ≤ maxLen → Calls Tryz.prog 83 #[.slice (some ⟨g, 1, none⟩) 2 c] W fun e w' => ∃ g3 c3 cur3, e = .returned (.tuple #[.slice (some ⟨g3, 0, none⟩) 2 c3, .bool true]) ∧ w'.heap[g3]? = some (.cells cur3 3) ∧ RowI [(decV a : Int), (decV b : Int)] cur3 ∧ 2 ≤ c3 ∧ c3 ≤ maxLen ∧ Below W.heap.size W w') := Lib.hid (fun W g c hat h1 h2 => (rNumbers_any g 1 c [a, b] W hat (by simp) h1 h2 (fun x hx => HWX.out x (List.mem_cons_of_mem _ hx))).mono fun e w' ⟨hb, h⟩ => by
      rcases h with ⟨_, E, ec, he, ho⟩ | ⟨⟨z, hz, hbz⟩, _⟩
      · obtain ⟨g5, cur, rfl, hgc, hr, q1, q2, q3⟩ := int_row ho (by rw [valsF_len]) (by simp)
        exact ⟨g5, ec, cur, he, hgc, hr, q2, q3, hb⟩
      · exact absurd (hg z hz) hbz)
    have HGH : Hid (∀ wd' rw', GoodL (l0 :: lr) wd' rw' → wd' = decV a ∧ rw' = decV b) := Lib.hid (fun wd' rw' hg => by
      obtain ⟨a', b', e0', ga', gb', ea', eb'⟩ := hg.head
      have es : spl 32 l0 = [[99, 104, 97, 114, 116], a', b'] := head_spl e0' ga' gb'
      rw [HW0.out] at es
      obtain ⟨-, es2⟩ := List.cons.inj es
      obtain ⟨rfl, es3⟩ := List.cons.inj es2
      obtain ⟨rfl, -⟩ := List.cons.inj es3
      exact ⟨ea'.symm, eb'.symm⟩)
    have HHD : Hid (∃ a' b', (l0 :: lr).getD 0 [] = chartW ++ (a' ++ [32] ++ b') ∧ goodN a' ∧ goodN b' ∧ decV a' = decV a ∧ decV b' = decV b) := Lib.hid ⟨a, b, by
      show l0 = _
      rw [← spl_join 32 l0, HW0.out, join_cons', join_cons', join_one']
      simp [chartW], ga, gb, rfl, rfl⟩
    have wdb := good_val ga
    have rwb := good_val gb
    clear hg ga gb hln h3
    generalize decV a = wd at *
    generalize decV b = rw at *
    by_cases hln4 : ln = rw + 3
    rotate_left
    · have HLN : Hid (¬ (l0 :: lr).length = rw + 3) := Lib.hid (by rw [HLn.out]; exact hln4)
      have w3 : IntKind.i64.wrap ((rw : Int) + 3) = (rw : Int) + 3 := IntWalk.i64_in _ (by omega)
      have hn1 : ((ln : Int) != (rw : Int) + 3) = true := by simp; omega
      clear hln4
      go_enter Tryz.func42, Tryz.ntmps42
      go_wp2_with fail
      go_at_call 82
      with_reducible refine (rSplit_row (⟨T.toArray⟩ : ByteArray) 10 10 H10.out _ HTL).mono ?_
      rw [show spl 10 (⟨T.toArray⟩ : ByteArray).data.toList = l0 :: lr from HLS.out, HLn.out]
      rintro e wa ⟨g1, c1, cur1, rfl, hc1, hm1, hg1, hr1, hbs1, hba⟩
      have HR1 := Lib.hid hr1
      have HRq := Lib.hid ((HR.out.below hba).more hg1)
      clear HR x0 f0 k0
      have HR := HRq
      clear HRq
      have x1 := HR.out.cells (List.mem_cons_of_mem _ (List.mem_cons_self ..))
      have f1 := HR.out.free (List.mem_cons_of_mem _ (List.mem_cons_self ..))
      have k1 := HR.out.lt (List.mem_cons_of_mem _ (List.mem_cons_self ..))
      have c00 := (HR.out.cells (List.mem_cons_self ..) 0).trans (HR1.out 0 l0 rfl)
      unfold maxLen at hm1
      clear hba hg1 hr1
      go_wp2_with fail
      go_at_call 82
      with_reducible refine (rSplit_row (⟨l0.toArray⟩ : ByteArray) 32 32 H32.out _ HL0).mono ?_
      rw [show spl 32 (⟨l0.toArray⟩ : ByteArray).data.toList = [[99, 104, 97, 114, 116], a, b] from HW0.out]
      rintro e wb ⟨g2, c2, cur2, rfl, hc2, hm2, hg2, hr2, hbs2, hbb⟩
      have HR2 := Lib.hid hr2
      have HRq := Lib.hid ((HR.out.below hbb).more hg2)
      clear HR x1 f1 k1 c00
      have HR := HRq
      clear HRq
      have x2 := HR.out.cells (List.mem_cons_of_mem _ (List.mem_cons_of_mem _ (List.mem_cons_self ..)))
      have f2 := HR.out.free (List.mem_cons_of_mem _ (List.mem_cons_of_mem _ (List.mem_cons_self ..)))
      have k2 := HR.out.lt (List.mem_cons_of_mem _ (List.mem_cons_of_mem _ (List.mem_cons_self ..)))
      have cw := (HR.out.cells (List.mem_cons_self ..) 0).trans (HR2.out 0 _ rfl)
      have HAT : Hid (WdsAt wb g2 1 [a, b]) := Lib.hid ⟨HR.out.lt (List.mem_cons_self ..), fun i x hi => (HR.out.cells (List.mem_cons_self ..) (1 + i)).trans (HR2.out (1 + i) x (by rw [Nat.add_comm]; exact hi))⟩
      have hc21 : ¬ c2 = 1 := (by simp at hc2; omega)
      have hc22 : 1 ≤ c2 := (by simp at hc2; omega)
      have hc23 : 2 ≤ c2 - 1 := (by simp at hc2; omega)
      have hc24 : c2 - 1 ≤ maxLen := Nat.le_trans (Nat.sub_le _ _) hm2
      unfold maxLen at hm2
      clear hbb hg2 hr2
      go_wp2_with fail
      go_at_call 83
      refine (HNM.out _ _ _ HAT.out hc23 hc24).mono ?_
      rintro e wc ⟨g3, c3, cur3, rfl, hg3, hr3, hc3, hm3, hbc⟩
      have HR3 := Lib.hid hr3
      have HRq := Lib.hid ((HR.out.below hbc).more hg3)
      clear HR x2 f2 k2 cw
      have HR := HRq
      clear HRq
      have x3 := HR.out.cells (List.mem_cons_of_mem _ (List.mem_cons_of_mem _ (List.mem_cons_of_mem _ (List.mem_cons_self ..))))
      have f3 := HR.out.free (List.mem_cons_of_mem _ (List.mem_cons_of_mem _ (List.mem_cons_of_mem _ (List.mem_cons_self ..))))
      have k3 := HR.out.lt (List.mem_cons_of_mem _ (List.mem_cons_of_mem _ (List.mem_cons_of_mem _ (List.mem_cons_self ..))))
      have ca := (HR.out.cells (List.mem_cons_self ..) 0).trans (HR3.out 0 _ rfl)
      have cb := (HR.out.cells (List.mem_cons_self ..) 1).trans (HR3.out 1 _ rfl)
      have kg3 := HR.out.lt (List.mem_cons_self ..)
      unfold maxLen at hm3
      clear hbc hg3 hr3
      go_wp2_with fail
      have HZ9 := Lib.hid (show ∀ wd' rw', ¬ GoodL (l0 :: lr) wd' rw' from fun wd' rw' hg => by
        obtain ⟨hw', hr'⟩ := HGH.out wd' rw' hg
        subst hw' hr'
        have := hg.len
        exact HLN.out this)
      have hF9 := Frm.put (Frm.put (Frm.less (bs' := [(w.heap.size, (.cells #[.int .i64 0, .slice none 0 0] 27))]) HR.out (by simp)) (Nat.le_refl _) (by simp) 0 (.int .i64 0)) (Nat.le_refl _) (by simp) 1 (.slice none 0 0)
      have u9 := hF9.cells (List.mem_cons_self ..)
      refine bodyPost_ret (v := .tuple #[.agg #[.int .i64 0, .slice none 0 0], .bool false]) (by simp [results, Tryz.results42, go_sem, u9]) rfl ?_
      exact ⟨hF9.b, .inr ⟨HZ9.out, 0, none, 0, 0, rfl⟩⟩
    have HLN2 := Lib.hid hln4
    have HLEN : Hid ((l0 :: lr).length = rw + 3) := Lib.hid (by rw [HLn.out]; exact hln4)
    have w3 : IntKind.i64.wrap ((rw : Int) + 3) = (rw : Int) + 3 := IntWalk.i64_in _ (by omega)
    have hn1 : ((ln : Int) != (rw : Int) + 3) = false := by simp; omega
    have wl1 : IntKind.i64.wrap ((ln : Int) - 1) = ((rw + 2 : Nat) : Int) := by rw [IntWalk.i64_in _ (by omega)]; omega
    have hil : rw + 2 < ln := by omega
    have hxi : (l0 :: lr)[rw + 2]? = some ((l0 :: lr).getD (rw + 2) []) := by
      have h1 : rw + 2 < (l0 :: lr).length := by rw [HLEN.out]; omega
      rw [List.getD_eq_getElem?_getD, List.getElem?_eq_getElem h1]; rfl
    obtain ⟨z8, hz8⟩ : ∃ z8, (l0 :: lr).getD (rw + 2) [] = z8 := ⟨_, rfl⟩
    rw [hz8] at hxi
    have HZ8 := Lib.hid hz8
    have HX8 := Lib.hid hxi
    clear hxi hz8 hln4
    by_cases hz8n : z8 = []
    rotate_left
    · have HLZ : Hid (¬ (l0 :: lr).getD (rw + 2) [] = []) := Lib.hid (by rw [HZ8.out]; exact hz8n)
      have hzb : (z8 == []) = false := by simpa using hz8n
      clear hz8n
      go_enter Tryz.func42, Tryz.ntmps42
      go_wp2_with fail
      go_at_call 82
      with_reducible refine (rSplit_row (⟨T.toArray⟩ : ByteArray) 10 10 H10.out _ HTL).mono ?_
      rw [show spl 10 (⟨T.toArray⟩ : ByteArray).data.toList = l0 :: lr from HLS.out, HLn.out]
      rintro e wa ⟨g1, c1, cur1, rfl, hc1, hm1, hg1, hr1, hbs1, hba⟩
      have HR1 := Lib.hid hr1
      have HRq := Lib.hid ((HR.out.below hba).more hg1)
      clear HR x0 f0 k0
      have HR := HRq
      clear HRq
      have x1 := HR.out.cells (List.mem_cons_of_mem _ (List.mem_cons_self ..))
      have f1 := HR.out.free (List.mem_cons_of_mem _ (List.mem_cons_self ..))
      have k1 := HR.out.lt (List.mem_cons_of_mem _ (List.mem_cons_self ..))
      have c00 := (HR.out.cells (List.mem_cons_self ..) 0).trans (HR1.out 0 l0 rfl)
      have cz8 := (HR.out.cells (List.mem_cons_self ..) (rw + 2)).trans (HR1.out _ _ HX8.out)
      unfold maxLen at hm1
      clear hba hg1 hr1
      go_wp2_with fail
      go_at_call 82
      with_reducible refine (rSplit_row (⟨l0.toArray⟩ : ByteArray) 32 32 H32.out _ HL0).mono ?_
      rw [show spl 32 (⟨l0.toArray⟩ : ByteArray).data.toList = [[99, 104, 97, 114, 116], a, b] from HW0.out]
      rintro e wb ⟨g2, c2, cur2, rfl, hc2, hm2, hg2, hr2, hbs2, hbb⟩
      have HR2 := Lib.hid hr2
      have HRq := Lib.hid ((HR.out.below hbb).more hg2)
      clear HR x1 f1 k1 c00 cz8
      have HR := HRq
      clear HRq
      have x2 := HR.out.cells (List.mem_cons_of_mem _ (List.mem_cons_of_mem _ (List.mem_cons_self ..)))
      have f2 := HR.out.free (List.mem_cons_of_mem _ (List.mem_cons_of_mem _ (List.mem_cons_self ..)))
      have k2 := HR.out.lt (List.mem_cons_of_mem _ (List.mem_cons_of_mem _ (List.mem_cons_self ..)))
      have cw := (HR.out.cells (List.mem_cons_self ..) 0).trans (HR2.out 0 _ rfl)
      have cz8 := (HR.out.cells (List.mem_cons_of_mem _ (List.mem_cons_self ..)) (rw + 2)).trans (HR1.out _ _ HX8.out)
      have HAT : Hid (WdsAt wb g2 1 [a, b]) := Lib.hid ⟨HR.out.lt (List.mem_cons_self ..), fun i x hi => (HR.out.cells (List.mem_cons_self ..) (1 + i)).trans (HR2.out (1 + i) x (by rw [Nat.add_comm]; exact hi))⟩
      have hc21 : ¬ c2 = 1 := (by simp at hc2; omega)
      have hc22 : 1 ≤ c2 := (by simp at hc2; omega)
      have hc23 : 2 ≤ c2 - 1 := (by simp at hc2; omega)
      have hc24 : c2 - 1 ≤ maxLen := Nat.le_trans (Nat.sub_le _ _) hm2
      unfold maxLen at hm2
      clear hbb hg2 hr2
      go_wp2_with fail
      go_at_call 83
      refine (HNM.out _ _ _ HAT.out hc23 hc24).mono ?_
      rintro e wc ⟨g3, c3, cur3, rfl, hg3, hr3, hc3, hm3, hbc⟩
      have HR3 := Lib.hid hr3
      have HRq := Lib.hid ((HR.out.below hbc).more hg3)
      clear HR x2 f2 k2 cw cz8
      have HR := HRq
      clear HRq
      have x3 := HR.out.cells (List.mem_cons_of_mem _ (List.mem_cons_of_mem _ (List.mem_cons_of_mem _ (List.mem_cons_self ..))))
      have f3 := HR.out.free (List.mem_cons_of_mem _ (List.mem_cons_of_mem _ (List.mem_cons_of_mem _ (List.mem_cons_self ..))))
      have k3 := HR.out.lt (List.mem_cons_of_mem _ (List.mem_cons_of_mem _ (List.mem_cons_of_mem _ (List.mem_cons_self ..))))
      have ca := (HR.out.cells (List.mem_cons_self ..) 0).trans (HR3.out 0 _ rfl)
      have cb := (HR.out.cells (List.mem_cons_self ..) 1).trans (HR3.out 1 _ rfl)
      have kg3 := HR.out.lt (List.mem_cons_self ..)
      have cz8 := (HR.out.cells (List.mem_cons_of_mem _ (List.mem_cons_of_mem _ (List.mem_cons_self ..))) (rw + 2)).trans (HR1.out _ _ HX8.out)
      unfold maxLen at hm3
      clear hbc hg3 hr3
      go_wp2_with fail
      have HZ9 := Lib.hid (show ∀ wd' rw', ¬ GoodL (l0 :: lr) wd' rw' from fun wd' rw' hg => by
        obtain ⟨hw', hr'⟩ := HGH.out wd' rw' hg
        subst hw' hr'
        have := hg.nil
        exact HLZ.out this)
      have hF9 := Frm.put (Frm.put (Frm.less (bs' := [(w.heap.size, (.cells #[.int .i64 0, .slice none 0 0] 27))]) HR.out (by simp)) (Nat.le_refl _) (by simp) 0 (.int .i64 0)) (Nat.le_refl _) (by simp) 1 (.slice none 0 0)
      have u9 := hF9.cells (List.mem_cons_self ..)
      refine bodyPost_ret (v := .tuple #[.agg #[.int .i64 0, .slice none 0 0], .bool false]) (by simp [results, Tryz.results42, go_sem, u9]) rfl ?_
      exact ⟨hF9.b, .inr ⟨HZ9.out, 0, none, 0, 0, rfl⟩⟩
    subst hz8n
    have HNL : Hid ((l0 :: lr).getD (rw + 2) [] = []) := HZ8
    go_enter Tryz.func42, Tryz.ntmps42
    go_wp2_with fail
    go_at_call 82
    with_reducible refine (rSplit_row (⟨T.toArray⟩ : ByteArray) 10 10 H10.out _ HTL).mono ?_
    rw [show spl 10 (⟨T.toArray⟩ : ByteArray).data.toList = l0 :: lr from HLS.out, HLn.out]
    rintro e wa ⟨g1, c1, cur1, rfl, hc1, hm1, hg1, hr1, hbs1, hba⟩
    have HR1 := Lib.hid hr1
    have HRq := Lib.hid ((HR.out.below hba).more hg1)
    clear HR x0 f0 k0
    have HR := HRq
    clear HRq
    have x1 := HR.out.cells (List.mem_cons_of_mem _ (List.mem_cons_self ..))
    have f1 := HR.out.free (List.mem_cons_of_mem _ (List.mem_cons_self ..))
    have k1 := HR.out.lt (List.mem_cons_of_mem _ (List.mem_cons_self ..))
    have c00 := (HR.out.cells (List.mem_cons_self ..) 0).trans (HR1.out 0 l0 rfl)
    have cz8 := (HR.out.cells (List.mem_cons_self ..) (rw + 2)).trans (HR1.out _ _ HX8.out)
    unfold maxLen at hm1
    clear hba hg1 hr1
    go_wp2_with fail
    go_at_call 82
    with_reducible refine (rSplit_row (⟨l0.toArray⟩ : ByteArray) 32 32 H32.out _ HL0).mono ?_
    rw [show spl 32 (⟨l0.toArray⟩ : ByteArray).data.toList = [[99, 104, 97, 114, 116], a, b] from HW0.out]
    rintro e wb ⟨g2, c2, cur2, rfl, hc2, hm2, hg2, hr2, hbs2, hbb⟩
    have HR2 := Lib.hid hr2
    have HRq := Lib.hid ((HR.out.below hbb).more hg2)
    clear HR x1 f1 k1 c00 cz8
    have HR := HRq
    clear HRq
    have x2 := HR.out.cells (List.mem_cons_of_mem _ (List.mem_cons_of_mem _ (List.mem_cons_self ..)))
    have f2 := HR.out.free (List.mem_cons_of_mem _ (List.mem_cons_of_mem _ (List.mem_cons_self ..)))
    have k2 := HR.out.lt (List.mem_cons_of_mem _ (List.mem_cons_of_mem _ (List.mem_cons_self ..)))
    have cw := (HR.out.cells (List.mem_cons_self ..) 0).trans (HR2.out 0 _ rfl)
    have cz8 := (HR.out.cells (List.mem_cons_of_mem _ (List.mem_cons_self ..)) (rw + 2)).trans (HR1.out _ _ HX8.out)
    have HAT : Hid (WdsAt wb g2 1 [a, b]) := Lib.hid ⟨HR.out.lt (List.mem_cons_self ..), fun i x hi => (HR.out.cells (List.mem_cons_self ..) (1 + i)).trans (HR2.out (1 + i) x (by rw [Nat.add_comm]; exact hi))⟩
    have hc21 : ¬ c2 = 1 := (by simp at hc2; omega)
    have hc22 : 1 ≤ c2 := (by simp at hc2; omega)
    have hc23 : 2 ≤ c2 - 1 := (by simp at hc2; omega)
    have hc24 : c2 - 1 ≤ maxLen := Nat.le_trans (Nat.sub_le _ _) hm2
    unfold maxLen at hm2
    clear hbb hg2 hr2
    go_wp2_with fail
    go_at_call 83
    refine (HNM.out _ _ _ HAT.out hc23 hc24).mono ?_
    rintro e wc ⟨g3, c3, cur3, rfl, hg3, hr3, hc3, hm3, hbc⟩
    have HR3 := Lib.hid hr3
    have HRq := Lib.hid ((HR.out.below hbc).more hg3)
    clear HR x2 f2 k2 cw cz8
    have HR := HRq
    clear HRq
    have x3 := HR.out.cells (List.mem_cons_of_mem _ (List.mem_cons_of_mem _ (List.mem_cons_of_mem _ (List.mem_cons_self ..))))
    have f3 := HR.out.free (List.mem_cons_of_mem _ (List.mem_cons_of_mem _ (List.mem_cons_of_mem _ (List.mem_cons_self ..))))
    have k3 := HR.out.lt (List.mem_cons_of_mem _ (List.mem_cons_of_mem _ (List.mem_cons_of_mem _ (List.mem_cons_self ..))))
    have ca := (HR.out.cells (List.mem_cons_self ..) 0).trans (HR3.out 0 _ rfl)
    have cb := (HR.out.cells (List.mem_cons_self ..) 1).trans (HR3.out 1 _ rfl)
    have kg3 := HR.out.lt (List.mem_cons_self ..)
    have cz8 := (HR.out.cells (List.mem_cons_of_mem _ (List.mem_cons_of_mem _ (List.mem_cons_self ..))) (rw + 2)).trans (HR1.out _ _ HX8.out)
    unfold maxLen at hm3
    clear hbc hg3 hr3
    go_wp2_with fail
    have HRq := Lib.hid (((RW.start (Frm.less (bs' := [(g3, (.cells cur3 3)), (g1, (.cells cur1 9)), (w.heap.size, (.cells #[.int .i64 0, .slice none 0 0] 27))]) HR.out (by simp))).nil 3 1).add (.cells #[.int .i64 (wd : Int), .slice none 0 0] 27) rfl)
    have hF1 : w.heap.size < wc.heap.size := HR.out.lt (List.mem_cons_of_mem _ (List.mem_cons_of_mem _ (List.mem_cons_of_mem _ (List.mem_cons_self ..))))
    have hF3 : g3 < wc.heap.size := HR.out.lt (List.mem_cons_self ..)
    have hF4 : g1 < wc.heap.size := HR.out.lt (List.mem_cons_of_mem _ (List.mem_cons_of_mem _ (List.mem_cons_self ..)))
    have hF5 : w.heap.size < g1 := Nat.lt_of_lt_of_le (by simp) hbs1
    clear HR x3 f3 k3 ca cb kg3 cz8
    have HR := HRq
    clear HRq hw0l SP2
    generalize wc.heap.size = F0 at *
    rcases Nat.eq_zero_or_pos wd with w0 | w1
    · have HWZ := Lib.hid w0
      clear w0
      go_loopw [9, 10] (fun s i wr => ∃ n, n ≤ rw ∧ s = .int .i64 (wd : Int) ∧ i = .int .i64 (n : Int) ∧ (∀ r, r < n → rowOk wd (rowL (l0 :: lr) r)) ∧ RW w F0 [(F0, (.cells #[.int .i64 (wd : Int), .slice none 0 0] 27)), (g3, (.cells cur3 3)), (g1, (.cells cur1 9)), (w.heap.size, (.cells #[.int .i64 0, .slice none 0 0] 27))] [] wr) (fun _ i _ => rw - (intOf i).toNat)
      case atStart => exact ⟨0, Nat.zero_le _, rfl, rfl, fun r h => absurd h (Nat.not_lt_zero _), HR.out.noRows⟩
      case round =>
        obtain ⟨n, hn, rfl, rfl, hall, hF⟩ := hrel
        clear HR
        have HR := Lib.hid hF
        have HA := Lib.hid hall
        clear hF hall
        have x0 := HR.out.frm.cells (List.mem_cons_self ..); have f0 := HR.out.frm.free (List.mem_cons_self ..); have k0 := HR.out.frm.lt (List.mem_cons_self ..); have x3 := HR.out.frm.cells (List.mem_cons_of_mem _ (List.mem_cons_of_mem _ (List.mem_cons_of_mem _ (List.mem_cons_self ..)))); have f3 := HR.out.frm.free (List.mem_cons_of_mem _ (List.mem_cons_of_mem _ (List.mem_cons_of_mem _ (List.mem_cons_self ..)))); have k3 := HR.out.frm.lt (List.mem_cons_of_mem _ (List.mem_cons_of_mem _ (List.mem_cons_of_mem _ (List.mem_cons_self ..)))); have ca := (HR.out.frm.cells (List.mem_cons_of_mem _ (List.mem_cons_self ..)) 0).trans (HR3.out 0 _ rfl); have cb := (HR.out.frm.cells (List.mem_cons_of_mem _ (List.mem_cons_self ..)) 1).trans (HR3.out 1 _ rfl)
        have hwz := HR.out.frm.size
        by_cases hlt : n < rw
        · have hlt2 : (n : Int) < (rw : Int) := by omega
          obtain ⟨x, hrx⟩ : ∃ x, rowL (l0 :: lr) n = x := ⟨_, rfl⟩
          have HRX := Lib.hid hrx
          have hxi : (l0 :: lr)[n + 1]? = some x := by
            have h1 : n + 1 < (l0 :: lr).length := by rw [HLEN.out]; omega
            rw [← hrx, rowL, List.getD_eq_getElem?_getD, List.getElem?_eq_getElem h1]; rfl
          have HXC := Lib.hid (HR1.out _ _ hxi)
          have cx := (HR.out.frm.cells (List.mem_cons_of_mem _ (List.mem_cons_of_mem _ (List.mem_cons_self ..))) (n + 1)).trans HXC.out
          have hxl : x.length ≤ 500 := HXL.out x (List.mem_of_getElem? hxi)
          have wn1 : IntKind.i64.wrap ((n : Int) + 1) = ((n + 1 : Nat) : Int) := by rw [IntWalk.i64_in _ (by omega)]; omega
          clear hrx hxi
          by_cases hxe : x = []
          · subst hxe
            have hwz1 : ((0 : Int) != (wd : Int)) = false := by have := HWZ.out; simp; omega
            go_wp2_with (first | (go_at_call 84; refine (rWords_nil _).mono ?_; rintro e wb ⟨rfl, hbb⟩; have HRq := Lib.hid (HR.out.below hbb); clear HR x0 f0 k0 x3 f3 k3 ca cb cx; have HR := HRq; clear HRq; have x0 := HR.out.frm.cells (List.mem_cons_self ..); have f0 := HR.out.frm.free (List.mem_cons_self ..); have k0 := HR.out.frm.lt (List.mem_cons_self ..); have x3 := HR.out.frm.cells (List.mem_cons_of_mem _ (List.mem_cons_of_mem _ (List.mem_cons_of_mem _ (List.mem_cons_self ..)))); have f3 := HR.out.frm.free (List.mem_cons_of_mem _ (List.mem_cons_of_mem _ (List.mem_cons_of_mem _ (List.mem_cons_self ..)))); have k3 := HR.out.frm.lt (List.mem_cons_of_mem _ (List.mem_cons_of_mem _ (List.mem_cons_of_mem _ (List.mem_cons_self ..)))); have ca := (HR.out.frm.cells (List.mem_cons_of_mem _ (List.mem_cons_self ..)) 0).trans (HR3.out 0 _ rfl); have cb := (HR.out.frm.cells (List.mem_cons_of_mem _ (List.mem_cons_self ..)) 1).trans (HR3.out 1 _ rfl); clear hbb) | (go_at_call 83; refine (rNumbers_nil _).mono ?_; rintro e wc ⟨rfl, hbc⟩; have HRq := Lib.hid (HR.out.below hbc); clear HR x0 f0 k0 x3 f3 k3 ca cb; have HR := HRq; clear HRq; have x0 := HR.out.frm.cells (List.mem_cons_self ..); have f0 := HR.out.frm.free (List.mem_cons_self ..); have k0 := HR.out.frm.lt (List.mem_cons_self ..); have x3 := HR.out.frm.cells (List.mem_cons_of_mem _ (List.mem_cons_of_mem _ (List.mem_cons_of_mem _ (List.mem_cons_self ..)))); have f3 := HR.out.frm.free (List.mem_cons_of_mem _ (List.mem_cons_of_mem _ (List.mem_cons_of_mem _ (List.mem_cons_self ..)))); have k3 := HR.out.frm.lt (List.mem_cons_of_mem _ (List.mem_cons_of_mem _ (List.mem_cons_of_mem _ (List.mem_cons_self ..)))); have ca := (HR.out.frm.cells (List.mem_cons_of_mem _ (List.mem_cons_self ..)) 0).trans (HR3.out 0 _ rfl); have cb := (HR.out.frm.cells (List.mem_cons_of_mem _ (List.mem_cons_self ..)) 1).trans (HR3.out 1 _ rfl); clear hbc))
            go_loopw [9, 13] (fun s i W => s = .int .i64 (wd : Int) ∧ i = .int .i64 0 ∧ RW w F0 [(F0, (.cells #[.int .i64 (wd : Int), .slice none 0 0] 27)), (g3, (.cells cur3 3)), (g1, (.cells cur1 9)), (w.heap.size, (.cells #[.int .i64 0, .slice none 0 0] 27))] [] W) (fun _ _ _ => 0)
            case atStart => exact ⟨rfl, rfl, HR.out⟩
            case round =>
              obtain ⟨rfl, rfl, hF2⟩ := hrel
              clear HR x0 f0 k0 x3 f3 k3 ca cb
              have HR := Lib.hid hF2
              clear hF2
              have x0 := HR.out.frm.cells (List.mem_cons_self ..); have f0 := HR.out.frm.free (List.mem_cons_self ..); have k0 := HR.out.frm.lt (List.mem_cons_self ..); have x3 := HR.out.frm.cells (List.mem_cons_of_mem _ (List.mem_cons_of_mem _ (List.mem_cons_of_mem _ (List.mem_cons_self ..)))); have f3 := HR.out.frm.free (List.mem_cons_of_mem _ (List.mem_cons_of_mem _ (List.mem_cons_of_mem _ (List.mem_cons_self ..)))); have k3 := HR.out.frm.lt (List.mem_cons_of_mem _ (List.mem_cons_of_mem _ (List.mem_cons_of_mem _ (List.mem_cons_self ..)))); have ca := (HR.out.frm.cells (List.mem_cons_of_mem _ (List.mem_cons_self ..)) 0).trans (HR3.out 0 _ rfl); have cb := (HR.out.frm.cells (List.mem_cons_of_mem _ (List.mem_cons_self ..)) 1).trans (HR3.out 1 _ rfl)
              go_wp2_with ((at_builtin; go_must (refine lapp_nil (by rfl) _ _ (by rfl) (by rfl) (by rfl) ?_)))
              go_roundw
              case rel => exact ⟨n + 1, by omega, rfl, by go_num, fun q hq => by
                rcases Nat.lt_or_ge q n with h | h
                · exact HA.out q h
                · obtain rfl : q = n := by omega
                  rw [HRX.out]; exact ⟨HWZ.out.symm, fun x hx => by simp [wdsF] at hx⟩, RW.put HR.out (by omega) (by simp <;> omega) 1 (.slice none 0 0)⟩
              case measure => simp [intOf]; omega
          have hx0 : ¬ x = [] := hxe
          have HNE : Hid (wdsF x ≠ []) := Lib.hid (by unfold wdsF; rw [if_neg hx0]; exact spl_ne 32 x)
          have hwl : (wdsF x).length ≤ 900 := Nat.le_trans (wds_len x) (by omega)
          have HWL : Hid (∀ y ∈ wdsF x, y.length ≤ 3200) := Lib.hid (fun y hy => by
            have := join_ge (b := 32) (wdsF x) y hy
            rw [join_wds] at this
            omega)
          have HWD : Hid (∀ W, Calls Tryz.prog 84 #[str x] W fun e w' => ∃ g4 c4, e = .returned (.slice (some ⟨g4, 0, none⟩) (wdsF x).length c4) ∧ WdsAt w' g4 0 (wdsF x) ∧ (wdsF x).length ≤ c4 ∧ c4 ≤ maxLen ∧ Below W.heap.size W w') := Lib.hid (fun W => (rWords_any x W (by omega)).mono fun e w' ⟨v, he, hO, hb⟩ => by
            obtain ⟨g, cap, cur, hv, h1, h2, h3, h4, h5⟩ := own_str hO HNE.out
            exact ⟨g, cap, by rw [he, hv], ⟨lt_of_blk h3, fun i y hi => by rw [Nat.zero_add, (boxCells h3).1]; exact h4 i y hi⟩, h1, h2, hb⟩)
          by_cases hg : ∀ z ∈ wdsF x, goodN z
          rotate_left
          · have HNM : Hid (∀ W g c, WdsAt W g 0 (wdsF x) → (wdsF x).length ≤ c → c ≤ maxLen → Calls Tryz.prog 83 #[.slice (some ⟨g, 0, none⟩) (wdsF x).length c] W fun e w' => e = .returned (.tuple #[.slice none 0 0, .bool false]) ∧ Below W.heap.size W w') := Lib.hid (fun W g c hat h1 h2 => (rNumbers_any g 0 c (wdsF x) W hat hwl h1 h2 HWL.out).mono fun e w' ⟨hb, h⟩ => by
              rcases h with ⟨hall, _⟩ | ⟨_, he⟩
              · exact absurd hall hg
              · exact ⟨he, hb⟩)
            have HG := Lib.hid hg
            clear hg hx0 hxe
            go_wp2_with (first | (go_at_call 84; refine (HWD.out _).mono ?_; rintro e wb ⟨g4, c4, rfl, hat4, hc4, hm4, hbb⟩; have HAT4 := Lib.hid hat4; have HRq := Lib.hid (HR.out.below hbb); clear HR x0 f0 k0 x3 f3 k3 ca cb cx; have HR := HRq; clear HRq; have x0 := HR.out.frm.cells (List.mem_cons_self ..); have f0 := HR.out.frm.free (List.mem_cons_self ..); have k0 := HR.out.frm.lt (List.mem_cons_self ..); have x3 := HR.out.frm.cells (List.mem_cons_of_mem _ (List.mem_cons_of_mem _ (List.mem_cons_of_mem _ (List.mem_cons_self ..)))); have f3 := HR.out.frm.free (List.mem_cons_of_mem _ (List.mem_cons_of_mem _ (List.mem_cons_of_mem _ (List.mem_cons_self ..)))); have k3 := HR.out.frm.lt (List.mem_cons_of_mem _ (List.mem_cons_of_mem _ (List.mem_cons_of_mem _ (List.mem_cons_self ..)))); have ca := (HR.out.frm.cells (List.mem_cons_of_mem _ (List.mem_cons_self ..)) 0).trans (HR3.out 0 _ rfl); have cb := (HR.out.frm.cells (List.mem_cons_of_mem _ (List.mem_cons_self ..)) 1).trans (HR3.out 1 _ rfl); clear hbb hat4) | (go_at_call 83; refine (HNM.out _ _ _ HAT4.out hc4 hm4).mono ?_; rintro e wc ⟨rfl, hbc⟩; have HRq := Lib.hid (HR.out.below hbc); clear HR x0 f0 k0 x3 f3 k3 ca cb; have HR := HRq; clear HRq; have x0 := HR.out.frm.cells (List.mem_cons_self ..); have f0 := HR.out.frm.free (List.mem_cons_self ..); have k0 := HR.out.frm.lt (List.mem_cons_self ..); have x3 := HR.out.frm.cells (List.mem_cons_of_mem _ (List.mem_cons_of_mem _ (List.mem_cons_of_mem _ (List.mem_cons_self ..)))); have f3 := HR.out.frm.free (List.mem_cons_of_mem _ (List.mem_cons_of_mem _ (List.mem_cons_of_mem _ (List.mem_cons_self ..)))); have k3 := HR.out.frm.lt (List.mem_cons_of_mem _ (List.mem_cons_of_mem _ (List.mem_cons_of_mem _ (List.mem_cons_self ..)))); have ca := (HR.out.frm.cells (List.mem_cons_of_mem _ (List.mem_cons_self ..)) 0).trans (HR3.out 0 _ rfl); have cb := (HR.out.frm.cells (List.mem_cons_of_mem _ (List.mem_cons_self ..)) 1).trans (HR3.out 1 _ rfl); clear hbc))
            have HZ9 := Lib.hid (show ∀ wd' rw', ¬ GoodL (l0 :: lr) wd' rw' from fun wd' rw' hg => by
              obtain ⟨hw', hr'⟩ := HGH.out wd' rw' hg
              subst hw' hr'
              have := (hg.rows n (by omega)).2
              rw [HRX.out] at this
              exact HG.out this)
            have hF9 := Frm.put (Frm.put (Frm.less (bs' := [(w.heap.size, (.cells #[.int .i64 0, .slice none 0 0] 27))]) HR.out.frm (by simp)) (Nat.le_refl _) (by simp) 0 (.int .i64 0)) (Nat.le_refl _) (by simp) 1 (.slice none 0 0)
            have u9 := hF9.cells (List.mem_cons_self ..)
            refine bodyPost_ret (v := .tuple #[.agg #[.int .i64 0, .slice none 0 0], .bool false]) (by simp [results, Tryz.results42, go_sem, u9]) rfl ?_
            exact ⟨hF9.b, .inr ⟨HZ9.out, 0, none, 0, 0, rfl⟩⟩
          have hwp : 1 ≤ (wdsF x).length := List.length_pos_iff.2 HNE.out
          have HNM : Hid (∀ W g c, WdsAt W g 0 (wdsF x) → (wdsF x).length ≤ c → c ≤ maxLen → Calls Tryz.prog 83 #[.slice (some ⟨g, 0, none⟩) (wdsF x).length c] W fun e w' => ∃ E5 ec5, e = .returned (.tuple #[.slice E5 (wdsF x).length ec5, .bool true]) ∧ Below W.heap.size W w') := Lib.hid (fun W g c hat h1 h2 => (rNumbers_any g 0 c (wdsF x) W hat hwl h1 h2 HWL.out).mono fun e w' ⟨hb, h⟩ => by
            rcases h with ⟨_, E, ec, he, _⟩ | ⟨⟨z, hz, hbz⟩, _⟩
            · exact ⟨E, ec, he, hb⟩
            · exact absurd (hg z hz) hbz)
          obtain ⟨wn, hwn⟩ : ∃ wn, (wdsF x).length = wn := ⟨_, rfl⟩
          have HW9 : Hid (¬ (wdsF x).length = wd) := Lib.hid (by have := HWZ.out; omega)
          rw [hwn] at HWD HNM hwl hwp
          have hwn1 : ((wn : Int) != (wd : Int)) = true := by have := HWZ.out; simp; omega
          clear hg hx0 hxe hwn
          go_wp2_with (first | (go_at_call 84; refine (HWD.out _).mono ?_; rintro e wb ⟨g4, c4, rfl, hat4, hc4, hm4, hbb⟩; have HAT4 := Lib.hid hat4; have HRq := Lib.hid (HR.out.below hbb); clear HR x0 f0 k0 x3 f3 k3 ca cb cx; have HR := HRq; clear HRq; have x0 := HR.out.frm.cells (List.mem_cons_self ..); have f0 := HR.out.frm.free (List.mem_cons_self ..); have k0 := HR.out.frm.lt (List.mem_cons_self ..); have x3 := HR.out.frm.cells (List.mem_cons_of_mem _ (List.mem_cons_of_mem _ (List.mem_cons_of_mem _ (List.mem_cons_self ..)))); have f3 := HR.out.frm.free (List.mem_cons_of_mem _ (List.mem_cons_of_mem _ (List.mem_cons_of_mem _ (List.mem_cons_self ..)))); have k3 := HR.out.frm.lt (List.mem_cons_of_mem _ (List.mem_cons_of_mem _ (List.mem_cons_of_mem _ (List.mem_cons_self ..)))); have ca := (HR.out.frm.cells (List.mem_cons_of_mem _ (List.mem_cons_self ..)) 0).trans (HR3.out 0 _ rfl); have cb := (HR.out.frm.cells (List.mem_cons_of_mem _ (List.mem_cons_self ..)) 1).trans (HR3.out 1 _ rfl); clear hbb hat4) | (go_at_call 83; refine (HNM.out _ _ _ HAT4.out hc4 hm4).mono ?_; rintro e wc ⟨E5, ec5, rfl, hbc⟩; have HRq := Lib.hid (HR.out.below hbc); clear HR x0 f0 k0 x3 f3 k3 ca cb; have HR := HRq; clear HRq; have x0 := HR.out.frm.cells (List.mem_cons_self ..); have f0 := HR.out.frm.free (List.mem_cons_self ..); have k0 := HR.out.frm.lt (List.mem_cons_self ..); have x3 := HR.out.frm.cells (List.mem_cons_of_mem _ (List.mem_cons_of_mem _ (List.mem_cons_of_mem _ (List.mem_cons_self ..)))); have f3 := HR.out.frm.free (List.mem_cons_of_mem _ (List.mem_cons_of_mem _ (List.mem_cons_of_mem _ (List.mem_cons_self ..)))); have k3 := HR.out.frm.lt (List.mem_cons_of_mem _ (List.mem_cons_of_mem _ (List.mem_cons_of_mem _ (List.mem_cons_self ..)))); have ca := (HR.out.frm.cells (List.mem_cons_of_mem _ (List.mem_cons_self ..)) 0).trans (HR3.out 0 _ rfl); have cb := (HR.out.frm.cells (List.mem_cons_of_mem _ (List.mem_cons_self ..)) 1).trans (HR3.out 1 _ rfl); clear hbc))
          have HZ9 := Lib.hid (show ∀ wd' rw', ¬ GoodL (l0 :: lr) wd' rw' from fun wd' rw' hg => by
            obtain ⟨hw', hr'⟩ := HGH.out wd' rw' hg
            subst hw' hr'
            have := (hg.rows n (by omega)).1
            rw [HRX.out] at this
            exact HW9.out this)
          have hF9 := Frm.put (Frm.put (Frm.less (bs' := [(w.heap.size, (.cells #[.int .i64 0, .slice none 0 0] 27))]) HR.out.frm (by simp)) (Nat.le_refl _) (by simp) 0 (.int .i64 0)) (Nat.le_refl _) (by simp) 1 (.slice none 0 0)
          have u9 := hF9.cells (List.mem_cons_self ..)
          refine bodyPost_ret (v := .tuple #[.agg #[.int .i64 0, .slice none 0 0], .bool false]) (by simp [results, Tryz.results42, go_sem, u9]) rfl ?_
          exact ⟨hF9.b, .inr ⟨HZ9.out, 0, none, 0, 0, rfl⟩⟩
        · obtain rfl : n = rw := by omega
          have hnn2 : ¬ (n : Int) < (n : Int) := by omega
          have HZS : Hid (valsN (l0 :: lr) n = []) := Lib.hid (List.length_eq_zero_iff.1 ((valsN_ok n HA.out).1.trans (by rw [HWZ.out, Nat.mul_zero])))
          have INTS : Hid (∀ V : World, IntsF w.heap.size V none 0 []) := Lib.hid (fun V => ⟨⟨none, 0, rfl, Nat.le_refl _, by unfold maxLen; omega, .inl rfl⟩, fun _ _ _ h => absurd rfl h⟩)
          obtain ⟨sm, hsm⟩ : ∃ sm, (wd : Int) = sm := ⟨_, rfl⟩
          have HSM : Hid (sumN (wd : Int) [] ([] : List Int).length = sm) := Lib.hid hsm
          have HSB9 : Hid (0 ≤ sm ∧ sm ≤ 1000000000000) := Lib.hid (by omega)
          rw [hsm]
          clear hsm
          have hsb := HSB9.out
          have HE1 : Hid (∀ W, Calls Tryz.prog 81 #[.int .i64 (sm % 97 / 10)] W fun e w' => e = .returned (str (Lib.decDigits (sm % 97 / 10).toNat)) ∧ Below W.heap.size W w') := Lib.hid (fun W => by
            have := rDec_pos (sm % 97 / 10).toNat W (by omega)
            rwa [Int.toNat_of_nonneg (by omega)] at this)
          have HE2 : Hid (∀ W, Calls Tryz.prog 81 #[.int .i64 (sm % 97 % 10)] W fun e w' => e = .returned (str (Lib.decDigits (sm % 97 % 10).toNat)) ∧ Below W.heap.size W w') := Lib.hid (fun W => by
            have := rDec_pos (sm % 97 % 10).toNat W (by omega)
            rwa [Int.toNat_of_nonneg (by omega)] at this)
          have he1 := dec_len (sm % 97 / 10).toNat (by omega)
          have he2 := dec_len (sm % 97 % 10).toNat (by omega)
          have t1 : sm.tmod 97 = sm % 97 := Int.tmod_eq_emod_of_nonneg (by omega)
          have t2 : (sm % 97).tdiv 10 = sm % 97 / 10 := Int.tdiv_eq_ediv_of_nonneg (by omega)
          have t3 : (sm % 97).tmod 10 = sm % 97 % 10 := Int.tmod_eq_emod_of_nonneg (by omega)
          have t4 : IntKind.i64.wrap (sm % 97 / 10) = sm % 97 / 10 := IntWalk.i64_in _ (by omega)
          have t7 : IntKind.i64.wrap (sm % 97) = sm % 97 := IntWalk.i64_in _ (by omega)
          have t8 : IntKind.i64.wrap (sm % 97 % 10) = sm % 97 % 10 := IntWalk.i64_in _ (by omega)
          obtain ⟨d1, hd1⟩ : ∃ d1, Lib.decDigits (sm % 97 / 10).toNat = d1 := ⟨_, rfl⟩
          obtain ⟨d2, hd2⟩ : ∃ d2, Lib.decDigits (sm % 97 % 10).toNat = d2 := ⟨_, rfl⟩
          rw [hd1] at HE1 he1
          rw [hd2] at HE2 he2
          have ht1 : ¬ 9223372036854775807 < 4 + d1.length := by omega
          have ht2 : ¬ 9223372036854775807 < 4 + d1.length + d2.length := by omega
          have HEW : Hid (endW (wd : Int) ([] : List Int) = [101, 110, 100, 32] ++ d1 ++ d2) := Lib.hid (by rw [endW_two, HSM.out, hd1, hd2])
          have hxi : (l0 :: lr)[n + 1]? = some ((l0 :: lr).getD (n + 1) []) := by
            have h1 : n + 1 < (l0 :: lr).length := by rw [HLEN.out]; omega
            rw [List.getD_eq_getElem?_getD, List.getElem?_eq_getElem h1]; rfl
          obtain ⟨z9, hz9⟩ : ∃ z9, (l0 :: lr).getD (n + 1) [] = z9 := ⟨_, rfl⟩
          rw [hz9] at hxi
          have HZ1 := Lib.hid (HR1.out _ _ hxi)
          have HZ9 := Lib.hid hz9
          have cz9 : wr.cell? ⟨g1, n + 1, none⟩ = some (str z9) := (HR.out.frm.cells (List.mem_cons_of_mem _ (List.mem_cons_of_mem _ (List.mem_cons_self ..))) (n + 1)).trans HZ1.out
          have wl2 : IntKind.i64.wrap ((ln : Int) - 2) = ((n + 1 : Nat) : Int) := by rw [IntWalk.i64_in _ (by have := HLN2.out; omega)]; have := HLN2.out; omega
          have hil1 : n + 1 < ln := by have := HLN2.out; omega
          have hil2 : 0 ≤ (n : Int) + 1 := by omega
          have hil3 : (n : Int) + 1 < (ln : Int) := by omega
          clear hxi hz9 hd1 hd2
          have FIN : Hid (∀ W9 : World, Below w.heap.size w W9 → IntsF w.heap.size W9 none 0 ([] : List Int) → RdPost2 w (l0 :: lr) (.returned (.tuple #[.agg #[.int .i64 (wd : Int), .slice none 0 0], .bool (z9 == [101, 110, 100, 32] ++ d1 ++ d2)])) W9) := Lib.hid (fun W9 hb hi => by
            refine ⟨hb, ?_⟩
            cases hq : (z9 == [101, 110, 100, 32] ++ d1 ++ d2)
            · refine .inr ⟨fun wd' rw' hg => ?_, _, _, _, _, rfl⟩
              obtain ⟨hw', hr'⟩ := HGH.out wd' rw' hg
              subst hw' hr'
              have := hg.last
              rw [HZ9.out, HZS.out, HEW.out] at this
              rw [this] at hq
              simp at hq
            · refine .inl ⟨wd, n, ([] : List Int), _, _, ⟨HLEN.out, HHD.out, HA.out, ?_, HNL.out⟩, HZS.out.symm, rfl, hi⟩
              rw [HZ9.out, HZS.out, HEW.out]
              simpa using hq)
          have HRq := Lib.hid (RW.less (bs' := [(F0, (.cells #[.int .i64 (wd : Int), .slice none 0 0] 27)), (g1, (.cells cur1 9)), (w.heap.size, (.cells #[.int .i64 0, .slice none 0 0] 27))]) HR.out (by simp))
          clear HR
          have HR := HRq
          clear HRq
          go_wp2_with fail
          refine hw_start [(0, fun w' : World => ∀ o, w'.cell? ⟨F0, o, none⟩ = #[Value.int .i64 (wd : Int), .slice none 0 0][o]?), (6, fun w' : World => w'.cell? ⟨g1, n + 1, none⟩ = some (str z9))] (by kernel_rfl) (List.forall_mem_cons.2 ⟨HR.out.drew.frm.cells (List.mem_cons_self ..), List.forall_mem_cons.2 ⟨(HR.out.drew.frm.cells (List.mem_cons_of_mem _ (List.mem_cons_self ..)) _).trans HZ1.out, (by simp)⟩⟩) ?_
          refine (fun (W101 : World) (hRn : RW w _ [(F0, (.cells #[.int .i64 (wd : Int), .slice none 0 0] 27)), (g1, (.cells cur1 9)), (w.heap.size, (.cells #[.int .i64 0, .slice none 0 0] 27))] [] W101) (hzW101 : Hid (W101.heap.size = wr.heap.size)) => (?_ : HW _ _ _ _ _ _ _ W101)) _ HR.out.drew (Lib.hid rfl)
          clear HR
          have HR := Lib.hid hRn
          clear hRn
          refine hw_load (i := 0) (oi := ⟨some 112, _, _, _, _, _⟩) (v := ?v102) _ (List.mem_cons_self ..) rfl (by kernel_rfl) (by kernel_rfl) (by kernel_rfl) (by kernel_rfl) (fun _ _ _ h => h) rfl (by kernel_rfl) ?hv102 ?rv102
          case hv102 => (intro w hSw; (try dsimp only at hSw); go_simp) <;> (with_reducible rfl)
          try simp only [Act.put, List.setIfInBounds_toArray, List.set_cons_zero, List.set_cons_succ]
          refine hw_pure (i := 1) (oi := ⟨some 113, _, _, _, _, _⟩) (v := ?v103) rfl (by kernel_rfl) (by kernel_rfl) (by kernel_rfl) (by kernel_rfl) (fun _ _ _ h => h) rfl (by kernel_rfl) ?hv103 ?rv103
          case hv103 => (intro w; go_simp) <;> (with_reducible rfl)
          try simp only [Act.put, List.setIfInBounds_toArray, List.set_cons_zero, List.set_cons_succ]
          refine hw_pure (i := 2) (oi := ⟨some 114, _, _, _, _, _⟩) (v := ?v104) rfl (by kernel_rfl) (by kernel_rfl) (by kernel_rfl) (by kernel_rfl) (fun _ _ _ h => h) rfl (by kernel_rfl) ?hv104 ?rv104
          case hv104 => (intro w; go_simp) <;> (with_reducible rfl)
          try simp only [Act.put, List.setIfInBounds_toArray, List.set_cons_zero, List.set_cons_succ]
          refine hw_pure (i := 3) (oi := ⟨some 115, _, _, _, _, _⟩) (v := ?v105) rfl (by kernel_rfl) (by kernel_rfl) (by kernel_rfl) (by kernel_rfl) (fun _ _ _ h => h) rfl (by kernel_rfl) ?hv105 ?rv105
          case hv105 => (intro w; go_simp) <;> (with_reducible rfl)
          try simp only [Act.put, List.setIfInBounds_toArray, List.set_cons_zero, List.set_cons_succ]
          refine hw_pure (i := 4) (oi := ⟨some 116, _, _, _, _, _⟩) (v := ?v106) rfl (by kernel_rfl) (by kernel_rfl) (by kernel_rfl) (by kernel_rfl) (fun _ _ _ h => h) rfl (by kernel_rfl) ?hv106 ?rv106
          case hv106 => (intro w; go_simp) <;> (with_reducible rfl)
          try simp only [Act.put, List.setIfInBounds_toArray, List.set_cons_zero, List.set_cons_succ]
          refine hw_pure (i := 5) (oi := ⟨some 117, _, _, _, _, _⟩) (v := ?v107) rfl (by kernel_rfl) (by kernel_rfl) (by kernel_rfl) (by kernel_rfl) (fun _ _ _ h => h) rfl (by kernel_rfl) ?hv107 ?rv107
          case hv107 => (intro w; go_simp) <;> (with_reducible rfl)
          try simp only [Act.put, List.setIfInBounds_toArray, List.set_cons_zero, List.set_cons_succ]
          refine hw_load (i := 6) (oi := ⟨some 118, _, _, _, _, _⟩) (v := ?v108) _ (List.mem_cons_of_mem _ (List.mem_cons_self ..)) rfl (by kernel_rfl) (by kernel_rfl) (by kernel_rfl) (by kernel_rfl) (fun _ _ _ h => h) rfl (by kernel_rfl) ?hv108 ?rv108
          case hv108 => (intro w hSw; (try dsimp only at hSw); go_simp) <;> (with_reducible rfl)
          try simp only [Act.put, List.setIfInBounds_toArray, List.set_cons_zero, List.set_cons_succ]
          refine hw_pure (i := 7) (oi := ⟨some 119, _, _, _, _, _⟩) (v := ?v109) rfl (by kernel_rfl) (by kernel_rfl) (by kernel_rfl) (by kernel_rfl) (fun _ _ _ h => h) rfl (by kernel_rfl) ?hv109 ?rv109
          case hv109 => (intro w; go_simp) <;> (with_reducible rfl)
          try simp only [Act.put, List.setIfInBounds_toArray, List.set_cons_zero, List.set_cons_succ]
          refine hw_pure (i := 8) (oi := ⟨some 120, _, _, _, _, _⟩) (v := ?v110) rfl (by kernel_rfl) (by kernel_rfl) (by kernel_rfl) (by kernel_rfl) (fun _ _ _ h => h) rfl (by kernel_rfl) ?hv110 ?rv110
          case hv110 => (intro w; go_simp) <;> (with_reducible rfl)
          try simp only [Act.put, List.setIfInBounds_toArray, List.set_cons_zero, List.set_cons_succ]
          refine hw_pure (i := 9) (oi := ⟨some 121, _, _, _, _, _⟩) (v := ?v111) rfl (by kernel_rfl) (by kernel_rfl) (by kernel_rfl) (by kernel_rfl) (fun _ _ _ h => h) rfl (by kernel_rfl) ?hv111 ?rv111
          case hv111 => (intro w; go_simp) <;> (with_reducible rfl)
          try simp only [Act.put, List.setIfInBounds_toArray, List.set_cons_zero, List.set_cons_succ]
          refine hw_pure (i := 12) (oi := ⟨some 124, _, _, _, _, _⟩) (v := ?v112) rfl (by kernel_rfl) (by kernel_rfl) (by kernel_rfl) (by kernel_rfl) (fun _ _ _ h => h) rfl (by kernel_rfl) ?hv112 ?rv112
          case hv112 => (intro w; go_simp) <;> (with_reducible rfl)
          try simp only [Act.put, List.setIfInBounds_toArray, List.set_cons_zero, List.set_cons_succ]
          refine hw_pure (i := 13) (oi := ⟨some 125, _, _, _, _, _⟩) (v := ?v113) rfl (by kernel_rfl) (by kernel_rfl) (by kernel_rfl) (by kernel_rfl) (fun _ _ _ h => h) rfl (by kernel_rfl) ?hv113 ?rv113
          case hv113 => (intro w; go_simp) <;> (with_reducible rfl)
          try simp only [Act.put, List.setIfInBounds_toArray, List.set_cons_zero, List.set_cons_succ]
          refine hw_pure (i := 14) (oi := ⟨some 126, _, _, _, _, _⟩) (v := ?v114) rfl (by kernel_rfl) (by kernel_rfl) (by kernel_rfl) (by kernel_rfl) (fun _ _ _ h => h) rfl (by kernel_rfl) ?hv114 ?rv114
          case hv114 => (intro w; go_simp) <;> (with_reducible rfl)
          try simp only [Act.put, List.setIfInBounds_toArray, List.set_cons_zero, List.set_cons_succ]
          refine hw_ready (rs := [10]) (by kernel_rfl) (by simp) ?_
          refine AllHW.cons (i := 10) (o := ⟨some 122, _, _, _, _, _⟩) rfl rfl (by kernel_rfl) (fun K hK => ?s115) ?ms115
          case s115 =>
            (try go_simp)
            go_at_call 81
            refine (HE1.out _).mono ?_
            rintro e W116 ⟨rfl, hbd1⟩
            have hRn := HR.out.below hbd1
            clear HR hbd1
            have HR := Lib.hid hRn
            clear hRn
            (try dsimp only)
            refine hK.out _ _ (List.forall_mem_cons.2 ⟨.inr (HR.out.frm.cells (List.mem_cons_self ..)), List.forall_mem_cons.2 ⟨.inr ((HR.out.frm.cells (List.mem_cons_of_mem _ (List.mem_cons_self ..)) _).trans HZ1.out), (by simp)⟩⟩) ?_
            refine hw_pure (i := 11) (oi := ⟨some 123, _, _, _, _, _⟩) (v := ?v117) rfl (by kernel_rfl) (by kernel_rfl) (by kernel_rfl) (by kernel_rfl) (fun _ _ _ h => h) rfl (by kernel_rfl) ?hv117 ?rv117
            case hv117 => (intro w; go_simp) <;> (with_reducible rfl)
            try simp only [Act.put, List.setIfInBounds_toArray, List.set_cons_zero, List.set_cons_succ]
            refine hw_ready (rs := [15]) (by kernel_rfl) (by simp) ?_
            refine AllHW.cons (i := 15) (o := ⟨some 127, _, _, _, _, _⟩) rfl rfl (by kernel_rfl) (fun K hK => ?s118) ?ms118
            case s118 =>
              (try go_simp)
              go_at_call 81
              refine (HE2.out _).mono ?_
              rintro e W119 ⟨rfl, hbd1⟩
              have hRn := HR.out.below hbd1
              clear HR hbd1
              have HR := Lib.hid hRn
              clear hRn
              (try dsimp only)
              refine hK.out _ _ (List.forall_mem_cons.2 ⟨.inr (HR.out.frm.cells (List.mem_cons_self ..)), List.forall_mem_cons.2 ⟨.inr ((HR.out.frm.cells (List.mem_cons_of_mem _ (List.mem_cons_self ..)) _).trans HZ1.out), (by simp)⟩⟩) ?_
              refine hw_pure (i := 16) (oi := ⟨some 128, _, _, _, _, _⟩) (v := ?v120) rfl (by kernel_rfl) (by kernel_rfl) (by kernel_rfl) (by kernel_rfl) (fun _ _ _ h => h) rfl (by kernel_rfl) ?hv120 ?rv120
              case hv120 => (intro w; go_simp) <;> (with_reducible rfl)
              try simp only [Act.put, List.setIfInBounds_toArray, List.set_cons_zero, List.set_cons_succ]
              (try simp only [ba_app])
              refine hw_pure (i := 17) (oi := ⟨some 129, _, _, _, _, _⟩) (v := ?v121) rfl (by kernel_rfl) (by kernel_rfl) (by kernel_rfl) (by kernel_rfl) (fun _ _ _ h => h) rfl (by kernel_rfl) ?hv121 ?rv121
              case hv121 => (intro w; go_simp) <;> (with_reducible rfl)
              try simp only [Act.put, List.setIfInBounds_toArray, List.set_cons_zero, List.set_cons_succ]
              refine hw_ready (rs := [18]) (by kernel_rfl) (by simp) ?_
              refine AllHW.cons (i := 18) (o := ⟨none, _, _, _, _, _⟩) rfl rfl (by kernel_rfl) (fun K hK => ?s122) ?ms122
              case s122 =>
                have u0 := (boxCells (HR.out.frm.h _ (List.mem_cons_of_mem _ (List.mem_cons_of_mem _ (List.mem_cons_self ..))))).1
                have f0 := (boxCells (HR.out.frm.h _ (List.mem_cons_of_mem _ (List.mem_cons_of_mem _ (List.mem_cons_self ..))))).2
                have l0 := lt_of_blk (HR.out.frm.h _ (List.mem_cons_of_mem _ (List.mem_cons_of_mem _ (List.mem_cons_self ..))))
                (try go_simp)
                clear u0 f0 l0
                refine (fun (W123 : World) (hRn : RW w _ [(w.heap.size, (.cells #[.int .i64 (wd : Int), .slice none 0 0] 27)), (F0, (.cells #[.int .i64 (wd : Int), .slice none 0 0] 27)), (g1, (.cells cur1 9))] [] W123) (hzW123 : Hid (W123.heap.size = W119.heap.size)) => hK.out _ W123 (List.forall_mem_cons.2 ⟨.inl (by kernel_rfl), List.forall_mem_cons.2 ⟨.inr ((hRn.frm.cells (List.mem_cons_of_mem _ (List.mem_cons_of_mem _ (List.mem_cons_self ..))) _).trans HZ1.out), (by simp)⟩⟩) ?_) _ ((RW.put (RW.put (RW.less (bs' := [(w.heap.size, (.cells #[.int .i64 0, .slice none 0 0] 27)), (F0, (.cells #[.int .i64 (wd : Int), .slice none 0 0] 27)), (g1, (.cells cur1 9))]) HR.out (by simp only [List.forall_mem_cons, List.forall_mem_nil, and_true]; exact ⟨(List.mem_cons_of_mem _ (List.mem_cons_of_mem _ (List.mem_cons_self ..))), (List.mem_cons_self ..), (List.mem_cons_of_mem _ (List.mem_cons_self ..)), by simp⟩)) (by omega) (by simp <;> omega) 0 (.int .i64 (wd : Int))) (by omega) (by simp <;> omega) 1 (.slice none 0 0))) (Lib.hid (by simp))
                clear HR
                have HR := Lib.hid hRn
                clear hRn
                refine hw_pure (i := 19) (oi := ⟨some 3, _, _, _, _, _⟩) (v := ?v124) rfl (by kernel_rfl) (by kernel_rfl) (by kernel_rfl) (by kernel_rfl) (fun _ _ _ h => h) rfl (by kernel_rfl) ?hv124 ?rv124
                case hv124 => (intro w; go_simp) <;> (with_reducible rfl)
                try simp only [Act.put, List.setIfInBounds_toArray, List.set_cons_zero, List.set_cons_succ]
                refine hw_done (by kernel_rfl) ?_
                go_wp2_with fail
                have u9 := HR.out.frm.cells (List.mem_cons_self ..)
                refine bodyPost_ret (v := .tuple #[.agg #[Value.int .i64 (wd : Int), .slice none 0 0], .bool (z9 == [101, 110, 100, 32] ++ d1 ++ d2)]) (by simp [results, Tryz.results42, go_sem, u9]; try rfl) rfl ?_
                exact FIN.out _ HR.out.frm.b (INTS.out _)
              exact AllHW.nil
            exact AllHW.nil
          exact AllHW.nil
    · go_loopw [9, 10] (fun s i wr => ∃ n E ec, n ≤ rw ∧ s = .int .i64 (sumN (wd : Int) (valsN (l0 :: lr) n) (n * wd)) ∧ i = .int .i64 (n : Int) ∧ (∀ r, r < n → rowOk wd (rowL (l0 :: lr) r)) ∧ RW w F0 [(F0, (.cells #[.int .i64 (wd : Int), .slice E (n * wd) ec] 27)), (g3, (.cells cur3 3)), (g1, (.cells cur1 9)), (w.heap.size, (.cells #[.int .i64 0, .slice none 0 0] 27))] [rwI (.slice E (n * wd) ec) (n * wd) (valsN (l0 :: lr) n)] wr) (fun _ i _ => rw - (intOf i).toNat)
      case atStart => exact ⟨0, none, 0, Nat.zero_le _, by simp only [Nat.zero_mul, valsN, sumN], rfl, fun r h => absurd h (Nat.not_lt_zero _), by simp only [Nat.zero_mul, valsN]; exact HR.out⟩
      case round =>
        obtain ⟨n, E, ec, hn, rfl, rfl, hall, hF⟩ := hrel
        clear HR
        have HR := Lib.hid hF
        have HA := Lib.hid hall
        clear hF hall
        have x0 := HR.out.frm.cells (List.mem_cons_self ..); have f0 := HR.out.frm.free (List.mem_cons_self ..); have k0 := HR.out.frm.lt (List.mem_cons_self ..); have x3 := HR.out.frm.cells (List.mem_cons_of_mem _ (List.mem_cons_of_mem _ (List.mem_cons_of_mem _ (List.mem_cons_self ..)))); have f3 := HR.out.frm.free (List.mem_cons_of_mem _ (List.mem_cons_of_mem _ (List.mem_cons_of_mem _ (List.mem_cons_self ..)))); have k3 := HR.out.frm.lt (List.mem_cons_of_mem _ (List.mem_cons_of_mem _ (List.mem_cons_of_mem _ (List.mem_cons_self ..)))); have ca := (HR.out.frm.cells (List.mem_cons_of_mem _ (List.mem_cons_self ..)) 0).trans (HR3.out 0 _ rfl); have cb := (HR.out.frm.cells (List.mem_cons_of_mem _ (List.mem_cons_self ..)) 1).trans (HR3.out 1 _ rfl)
        have hwz := HR.out.frm.size
        by_cases hlt : n < rw
        · have hlt2 : (n : Int) < (rw : Int) := by omega
          obtain ⟨x, hrx⟩ : ∃ x, rowL (l0 :: lr) n = x := ⟨_, rfl⟩
          have HRX := Lib.hid hrx
          have hxi : (l0 :: lr)[n + 1]? = some x := by
            have h1 : n + 1 < (l0 :: lr).length := by rw [HLEN.out]; omega
            rw [← hrx, rowL, List.getD_eq_getElem?_getD, List.getElem?_eq_getElem h1]; rfl
          have HXC := Lib.hid (HR1.out _ _ hxi)
          have cx := (HR.out.frm.cells (List.mem_cons_of_mem _ (List.mem_cons_of_mem _ (List.mem_cons_self ..))) (n + 1)).trans HXC.out
          have hxl : x.length ≤ 500 := HXL.out x (List.mem_of_getElem? hxi)
          have wn1 : IntKind.i64.wrap ((n : Int) + 1) = ((n + 1 : Nat) : Int) := by rw [IntWalk.i64_in _ (by omega)]; omega
          clear hrx hxi
          by_cases hxe : x = []
          · subst hxe
            have HW9 : Hid (¬ (wdsF ([] : List UInt8)).length = wd) := Lib.hid (by simp [wdsF]; omega)
            have hwz1 : ((0 : Int) != (wd : Int)) = true := by simp; omega
            go_wp2_with (first | (go_at_call 84; refine (rWords_nil _).mono ?_; rintro e wb ⟨rfl, hbb⟩; have HRq := Lib.hid (HR.out.below hbb); clear HR x0 f0 k0 x3 f3 k3 ca cb cx; have HR := HRq; clear HRq; have x0 := HR.out.frm.cells (List.mem_cons_self ..); have f0 := HR.out.frm.free (List.mem_cons_self ..); have k0 := HR.out.frm.lt (List.mem_cons_self ..); have x3 := HR.out.frm.cells (List.mem_cons_of_mem _ (List.mem_cons_of_mem _ (List.mem_cons_of_mem _ (List.mem_cons_self ..)))); have f3 := HR.out.frm.free (List.mem_cons_of_mem _ (List.mem_cons_of_mem _ (List.mem_cons_of_mem _ (List.mem_cons_self ..)))); have k3 := HR.out.frm.lt (List.mem_cons_of_mem _ (List.mem_cons_of_mem _ (List.mem_cons_of_mem _ (List.mem_cons_self ..)))); have ca := (HR.out.frm.cells (List.mem_cons_of_mem _ (List.mem_cons_self ..)) 0).trans (HR3.out 0 _ rfl); have cb := (HR.out.frm.cells (List.mem_cons_of_mem _ (List.mem_cons_self ..)) 1).trans (HR3.out 1 _ rfl); clear hbb) | (go_at_call 83; refine (rNumbers_nil _).mono ?_; rintro e wc ⟨rfl, hbc⟩; have HRq := Lib.hid (HR.out.below hbc); clear HR x0 f0 k0 x3 f3 k3 ca cb; have HR := HRq; clear HRq; have x0 := HR.out.frm.cells (List.mem_cons_self ..); have f0 := HR.out.frm.free (List.mem_cons_self ..); have k0 := HR.out.frm.lt (List.mem_cons_self ..); have x3 := HR.out.frm.cells (List.mem_cons_of_mem _ (List.mem_cons_of_mem _ (List.mem_cons_of_mem _ (List.mem_cons_self ..)))); have f3 := HR.out.frm.free (List.mem_cons_of_mem _ (List.mem_cons_of_mem _ (List.mem_cons_of_mem _ (List.mem_cons_self ..)))); have k3 := HR.out.frm.lt (List.mem_cons_of_mem _ (List.mem_cons_of_mem _ (List.mem_cons_of_mem _ (List.mem_cons_self ..)))); have ca := (HR.out.frm.cells (List.mem_cons_of_mem _ (List.mem_cons_self ..)) 0).trans (HR3.out 0 _ rfl); have cb := (HR.out.frm.cells (List.mem_cons_of_mem _ (List.mem_cons_self ..)) 1).trans (HR3.out 1 _ rfl); clear hbc))
            have HZ9 := Lib.hid (show ∀ wd' rw', ¬ GoodL (l0 :: lr) wd' rw' from fun wd' rw' hg => by
              obtain ⟨hw', hr'⟩ := HGH.out wd' rw' hg
              subst hw' hr'
              have := (hg.rows n (by omega)).1
              rw [HRX.out] at this
              exact HW9.out this)
            have hF9 := Frm.put (Frm.put (Frm.less (bs' := [(w.heap.size, (.cells #[.int .i64 0, .slice none 0 0] 27))]) HR.out.frm (by simp)) (Nat.le_refl _) (by simp) 0 (.int .i64 0)) (Nat.le_refl _) (by simp) 1 (.slice none 0 0)
            have u9 := hF9.cells (List.mem_cons_self ..)
            refine bodyPost_ret (v := .tuple #[.agg #[.int .i64 0, .slice none 0 0], .bool false]) (by simp [results, Tryz.results42, go_sem, u9]) rfl ?_
            exact ⟨hF9.b, .inr ⟨HZ9.out, 0, none, 0, 0, rfl⟩⟩
          have hx0 : ¬ x = [] := hxe
          have HNE : Hid (wdsF x ≠ []) := Lib.hid (by unfold wdsF; rw [if_neg hx0]; exact spl_ne 32 x)
          have hwl : (wdsF x).length ≤ 900 := Nat.le_trans (wds_len x) (by omega)
          have HWL : Hid (∀ y ∈ wdsF x, y.length ≤ 3200) := Lib.hid (fun y hy => by
            have := join_ge (b := 32) (wdsF x) y hy
            rw [join_wds] at this
            omega)
          have HWD : Hid (∀ W, Calls Tryz.prog 84 #[str x] W fun e w' => ∃ g4 c4, e = .returned (.slice (some ⟨g4, 0, none⟩) (wdsF x).length c4) ∧ WdsAt w' g4 0 (wdsF x) ∧ (wdsF x).length ≤ c4 ∧ c4 ≤ maxLen ∧ Below W.heap.size W w') := Lib.hid (fun W => (rWords_any x W (by omega)).mono fun e w' ⟨v, he, hO, hb⟩ => by
            obtain ⟨g, cap, cur, hv, h1, h2, h3, h4, h5⟩ := own_str hO HNE.out
            exact ⟨g, cap, by rw [he, hv], ⟨lt_of_blk h3, fun i y hi => by rw [Nat.zero_add, (boxCells h3).1]; exact h4 i y hi⟩, h1, h2, hb⟩)
          by_cases hg : ∀ z ∈ wdsF x, goodN z
          rotate_left
          · have HNM : Hid (∀ W g c, WdsAt W g 0 (wdsF x) → (wdsF x).length ≤ c → c ≤ maxLen → Calls Tryz.prog 83 #[.slice (some ⟨g, 0, none⟩) (wdsF x).length c] W fun e w' => e = .returned (.tuple #[.slice none 0 0, .bool false]) ∧ Below W.heap.size W w') := Lib.hid (fun W g c hat h1 h2 => (rNumbers_any g 0 c (wdsF x) W hat hwl h1 h2 HWL.out).mono fun e w' ⟨hb, h⟩ => by
              rcases h with ⟨hall, _⟩ | ⟨_, he⟩
              · exact absurd hall hg
              · exact ⟨he, hb⟩)
            have HG := Lib.hid hg
            clear hg hx0 hxe
            go_wp2_with (first | (go_at_call 84; refine (HWD.out _).mono ?_; rintro e wb ⟨g4, c4, rfl, hat4, hc4, hm4, hbb⟩; have HAT4 := Lib.hid hat4; have HRq := Lib.hid (HR.out.below hbb); clear HR x0 f0 k0 x3 f3 k3 ca cb cx; have HR := HRq; clear HRq; have x0 := HR.out.frm.cells (List.mem_cons_self ..); have f0 := HR.out.frm.free (List.mem_cons_self ..); have k0 := HR.out.frm.lt (List.mem_cons_self ..); have x3 := HR.out.frm.cells (List.mem_cons_of_mem _ (List.mem_cons_of_mem _ (List.mem_cons_of_mem _ (List.mem_cons_self ..)))); have f3 := HR.out.frm.free (List.mem_cons_of_mem _ (List.mem_cons_of_mem _ (List.mem_cons_of_mem _ (List.mem_cons_self ..)))); have k3 := HR.out.frm.lt (List.mem_cons_of_mem _ (List.mem_cons_of_mem _ (List.mem_cons_of_mem _ (List.mem_cons_self ..)))); have ca := (HR.out.frm.cells (List.mem_cons_of_mem _ (List.mem_cons_self ..)) 0).trans (HR3.out 0 _ rfl); have cb := (HR.out.frm.cells (List.mem_cons_of_mem _ (List.mem_cons_self ..)) 1).trans (HR3.out 1 _ rfl); clear hbb hat4) | (go_at_call 83; refine (HNM.out _ _ _ HAT4.out hc4 hm4).mono ?_; rintro e wc ⟨rfl, hbc⟩; have HRq := Lib.hid (HR.out.below hbc); clear HR x0 f0 k0 x3 f3 k3 ca cb; have HR := HRq; clear HRq; have x0 := HR.out.frm.cells (List.mem_cons_self ..); have f0 := HR.out.frm.free (List.mem_cons_self ..); have k0 := HR.out.frm.lt (List.mem_cons_self ..); have x3 := HR.out.frm.cells (List.mem_cons_of_mem _ (List.mem_cons_of_mem _ (List.mem_cons_of_mem _ (List.mem_cons_self ..)))); have f3 := HR.out.frm.free (List.mem_cons_of_mem _ (List.mem_cons_of_mem _ (List.mem_cons_of_mem _ (List.mem_cons_self ..)))); have k3 := HR.out.frm.lt (List.mem_cons_of_mem _ (List.mem_cons_of_mem _ (List.mem_cons_of_mem _ (List.mem_cons_self ..)))); have ca := (HR.out.frm.cells (List.mem_cons_of_mem _ (List.mem_cons_self ..)) 0).trans (HR3.out 0 _ rfl); have cb := (HR.out.frm.cells (List.mem_cons_of_mem _ (List.mem_cons_self ..)) 1).trans (HR3.out 1 _ rfl); clear hbc))
            have HZ9 := Lib.hid (show ∀ wd' rw', ¬ GoodL (l0 :: lr) wd' rw' from fun wd' rw' hg => by
              obtain ⟨hw', hr'⟩ := HGH.out wd' rw' hg
              subst hw' hr'
              have := (hg.rows n (by omega)).2
              rw [HRX.out] at this
              exact HG.out this)
            have hF9 := Frm.put (Frm.put (Frm.less (bs' := [(w.heap.size, (.cells #[.int .i64 0, .slice none 0 0] 27))]) HR.out.frm (by simp)) (Nat.le_refl _) (by simp) 0 (.int .i64 0)) (Nat.le_refl _) (by simp) 1 (.slice none 0 0)
            have u9 := hF9.cells (List.mem_cons_self ..)
            refine bodyPost_ret (v := .tuple #[.agg #[.int .i64 0, .slice none 0 0], .bool false]) (by simp [results, Tryz.results42, go_sem, u9]) rfl ?_
            exact ⟨hF9.b, .inr ⟨HZ9.out, 0, none, 0, 0, rfl⟩⟩
          by_cases hw : (wdsF x).length = wd
          rotate_left
          · have HNM : Hid (∀ W g c, WdsAt W g 0 (wdsF x) → (wdsF x).length ≤ c → c ≤ maxLen → Calls Tryz.prog 83 #[.slice (some ⟨g, 0, none⟩) (wdsF x).length c] W fun e w' => ∃ E5 ec5, e = .returned (.tuple #[.slice E5 (wdsF x).length ec5, .bool true]) ∧ Below W.heap.size W w') := Lib.hid (fun W g c hat h1 h2 => (rNumbers_any g 0 c (wdsF x) W hat hwl h1 h2 HWL.out).mono fun e w' ⟨hb, h⟩ => by
              rcases h with ⟨_, E, ec, he, _⟩ | ⟨⟨z, hz, hbz⟩, _⟩
              · exact ⟨E, ec, he, hb⟩
              · exact absurd (hg z hz) hbz)
            have HW9 := Lib.hid hw
            obtain ⟨wn, hwn⟩ : ∃ wn, (wdsF x).length = wn := ⟨_, rfl⟩
            rw [hwn] at HWD HNM hwl hw
            have hwn1 : ((wn : Int) != (wd : Int)) = true := by simp; omega
            clear hg hx0 hxe hwn hw
            go_wp2_with (first | (go_at_call 84; refine (HWD.out _).mono ?_; rintro e wb ⟨g4, c4, rfl, hat4, hc4, hm4, hbb⟩; have HAT4 := Lib.hid hat4; have HRq := Lib.hid (HR.out.below hbb); clear HR x0 f0 k0 x3 f3 k3 ca cb cx; have HR := HRq; clear HRq; have x0 := HR.out.frm.cells (List.mem_cons_self ..); have f0 := HR.out.frm.free (List.mem_cons_self ..); have k0 := HR.out.frm.lt (List.mem_cons_self ..); have x3 := HR.out.frm.cells (List.mem_cons_of_mem _ (List.mem_cons_of_mem _ (List.mem_cons_of_mem _ (List.mem_cons_self ..)))); have f3 := HR.out.frm.free (List.mem_cons_of_mem _ (List.mem_cons_of_mem _ (List.mem_cons_of_mem _ (List.mem_cons_self ..)))); have k3 := HR.out.frm.lt (List.mem_cons_of_mem _ (List.mem_cons_of_mem _ (List.mem_cons_of_mem _ (List.mem_cons_self ..)))); have ca := (HR.out.frm.cells (List.mem_cons_of_mem _ (List.mem_cons_self ..)) 0).trans (HR3.out 0 _ rfl); have cb := (HR.out.frm.cells (List.mem_cons_of_mem _ (List.mem_cons_self ..)) 1).trans (HR3.out 1 _ rfl); clear hbb hat4) | (go_at_call 83; refine (HNM.out _ _ _ HAT4.out hc4 hm4).mono ?_; rintro e wc ⟨E5, ec5, rfl, hbc⟩; have HRq := Lib.hid (HR.out.below hbc); clear HR x0 f0 k0 x3 f3 k3 ca cb; have HR := HRq; clear HRq; have x0 := HR.out.frm.cells (List.mem_cons_self ..); have f0 := HR.out.frm.free (List.mem_cons_self ..); have k0 := HR.out.frm.lt (List.mem_cons_self ..); have x3 := HR.out.frm.cells (List.mem_cons_of_mem _ (List.mem_cons_of_mem _ (List.mem_cons_of_mem _ (List.mem_cons_self ..)))); have f3 := HR.out.frm.free (List.mem_cons_of_mem _ (List.mem_cons_of_mem _ (List.mem_cons_of_mem _ (List.mem_cons_self ..)))); have k3 := HR.out.frm.lt (List.mem_cons_of_mem _ (List.mem_cons_of_mem _ (List.mem_cons_of_mem _ (List.mem_cons_self ..)))); have ca := (HR.out.frm.cells (List.mem_cons_of_mem _ (List.mem_cons_self ..)) 0).trans (HR3.out 0 _ rfl); have cb := (HR.out.frm.cells (List.mem_cons_of_mem _ (List.mem_cons_self ..)) 1).trans (HR3.out 1 _ rfl); clear hbc))
            have HZ9 := Lib.hid (show ∀ wd' rw', ¬ GoodL (l0 :: lr) wd' rw' from fun wd' rw' hg => by
              obtain ⟨hw', hr'⟩ := HGH.out wd' rw' hg
              subst hw' hr'
              have := (hg.rows n (by omega)).1
              rw [HRX.out] at this
              exact HW9.out this)
            have hF9 := Frm.put (Frm.put (Frm.less (bs' := [(w.heap.size, (.cells #[.int .i64 0, .slice none 0 0] 27))]) HR.out.frm (by simp)) (Nat.le_refl _) (by simp) 0 (.int .i64 0)) (Nat.le_refl _) (by simp) 1 (.slice none 0 0)
            have u9 := hF9.cells (List.mem_cons_self ..)
            refine bodyPost_ret (v := .tuple #[.agg #[.int .i64 0, .slice none 0 0], .bool false]) (by simp [results, Tryz.results42, go_sem, u9]) rfl ?_
            exact ⟨hF9.b, .inr ⟨HZ9.out, 0, none, 0, 0, rfl⟩⟩
          have HNM : Hid (∀ W g c, WdsAt W g 0 (wdsF x) → wd ≤ c → c ≤ maxLen → Calls Tryz.prog 83 #[.slice (some ⟨g, 0, none⟩) wd c] W fun e w' => ∃ g5 ec5 cur5, e = .returned (.tuple #[.slice (some ⟨g5, 0, none⟩) wd ec5, .bool true]) ∧ w'.heap[g5]? = some (.cells cur5 3) ∧ RowI (valsF (wdsF x)) cur5 ∧ W.heap.size ≤ g5 ∧ wd ≤ ec5 ∧ ec5 ≤ maxLen ∧ Below W.heap.size W w') := Lib.hid (fun W g c hat h1 h2 => by
            rw [← hw] at h1 ⊢
            refine (rNumbers_any g 0 c (wdsF x) W hat hwl h1 h2 HWL.out).mono fun e w' ⟨hb, h⟩ => ?_
            rcases h with ⟨_, E, ec, he, ho⟩ | ⟨⟨z, hz, hbz⟩, _⟩
            · obtain ⟨g5, cur, rfl, hgc, hr, q1, q2, q3⟩ := int_row ho (by rw [valsF_len]) (by omega)
              exact ⟨g5, ec, cur, he, hgc, hr, q1, q2, q3, hb⟩
            · exact absurd (hg z hz) hbz)
          rw [hw] at HWD hwl
          have HOK : Hid (rowOk wd (rowL (l0 :: lr) n)) := Lib.hid (by rw [HRX.out]; exact ⟨hw, hg⟩)
          have HVN : Hid (valsN (l0 :: lr) (n + 1) = valsN (l0 :: lr) n ++ valsF (wdsF x)) := Lib.hid (by rw [valsN, HRX.out])
          have hTl : (valsF (wdsF x)).length = wd := by rw [valsF_len, hw]
          have HVB : Hid (∀ z ∈ valsF (wdsF x), 0 ≤ z ∧ z ≤ 99999) := Lib.hid (vals_bd hg)
          have hvl : (valsN (l0 :: lr) n).length = n * wd := (valsN_ok n HA.out).1
          have HVA : Hid (∀ z ∈ valsN (l0 :: lr) n, 0 ≤ z ∧ z ≤ 99999) := Lib.hid (valsN_ok n HA.out).2.1
          have hb2 : n * wd + wd ≤ 501 := by
            have h1 := HSZ.out (n + 1) (by rw [HLEN.out]; omega)
            rw [HVN.out, List.length_append, hTl, hvl] at h1
            exact h1
          have HHL := Lib.hid hTl
          have HVL := Lib.hid hvl
          have hwz1 : ((wd : Int) != (wd : Int)) = false := by simp
          clear hg hw hTl hvl hx0 hxe
          obtain ⟨tv, htv⟩ : ∃ tv, valsF (wdsF x) = tv := ⟨_, rfl⟩
          obtain ⟨vs, hvs⟩ : ∃ vs, valsN (l0 :: lr) n = vs := ⟨_, rfl⟩
          obtain ⟨nw, hnw⟩ : ∃ nw, n * wd = nw := ⟨_, rfl⟩
          have HNW := Lib.hid hnw
          rw [htv] at HNM HVN HHL HVB
          rw [hvs] at HR HVN HVL HVA
          rw [hnw] at HR HVL hb2
          rw [hvs, hnw]
          have HS0 : Hid (sumN (wd : Int) vs nw = sumN (wd : Int) (vs ++ tv) nw) := Lib.hid (sum_app _ _ _ _ (by rw [HVL.out]; exact Nat.le_refl _)).symm
          have HSB : Hid (∀ q, q ≤ nw + wd → 0 ≤ sumN (wd : Int) (vs ++ tv) q ∧ sumN (wd : Int) (vs ++ tv) q ≤ 99999 + q * 100098999) := Lib.hid (fun q hq => sumN_bd ⟨by omega, by omega⟩ (fun z hz => by
            rcases List.mem_append.1 hz with h | h
            · exact HVA.out z h
            · exact HVB.out z h) (by rw [List.length_append, HVL.out, HHL.out]; omega) q (by rw [List.length_append, HVL.out, HHL.out]; omega))
          have HEV : Hid (∀ q z, tv[q]? = some z → ev (vs ++ tv) (nw + q) = z) := Lib.hid (fun q z hz => by
            unfold ev
            rw [List.getD_eq_getElem?_getD, List.getElem?_append_right (by rw [HVL.out]; omega), HVL.out, Nat.add_sub_cancel_left, hz]; rfl)
          have HDV : Hid (∀ q, q < wd → ((nw + q : Nat) : Int) / (wd : Int) = (n : Int)) := Lib.hid (fun q hq => by
            have e : (nw + q) / wd = n := by
              rw [← HNW.out, Nat.mul_comm, Nat.mul_add_div (by omega), Nat.div_eq_of_lt hq]; omega
            have e2 := congrArg (fun m : Nat => (m : Int)) e
            rwa [Int.natCast_ediv] at e2)
          clear x0 f0 k0 x3 f3 k3 ca cb cx
          have x0 := HR.out.frm.cells (List.mem_cons_self ..); have f0 := HR.out.frm.free (List.mem_cons_self ..); have k0 := HR.out.frm.lt (List.mem_cons_self ..); have x3 := HR.out.frm.cells (List.mem_cons_of_mem _ (List.mem_cons_of_mem _ (List.mem_cons_of_mem _ (List.mem_cons_self ..)))); have f3 := HR.out.frm.free (List.mem_cons_of_mem _ (List.mem_cons_of_mem _ (List.mem_cons_of_mem _ (List.mem_cons_self ..)))); have k3 := HR.out.frm.lt (List.mem_cons_of_mem _ (List.mem_cons_of_mem _ (List.mem_cons_of_mem _ (List.mem_cons_self ..)))); have ca := (HR.out.frm.cells (List.mem_cons_of_mem _ (List.mem_cons_self ..)) 0).trans (HR3.out 0 _ rfl); have cb := (HR.out.frm.cells (List.mem_cons_of_mem _ (List.mem_cons_self ..)) 1).trans (HR3.out 1 _ rfl); have cx := (HR.out.frm.cells (List.mem_cons_of_mem _ (List.mem_cons_of_mem _ (List.mem_cons_self ..))) (n + 1)).trans HXC.out
          have hnl : n ≤ 500 := by have := HLEN.out; have := HLL.out; omega
          clear hvs htv hnw
          rw [HS0.out]
          go_wp2_with (first | (go_at_call 84; refine (HWD.out _).mono ?_; rintro e wb ⟨g4, c4, rfl, hat4, hc4, hm4, hbb⟩; have HAT4 := Lib.hid hat4; have HRq := Lib.hid (HR.out.below hbb); clear HR x0 f0 k0 x3 f3 k3 ca cb cx; have HR := HRq; clear HRq; have x0 := HR.out.frm.cells (List.mem_cons_self ..); have f0 := HR.out.frm.free (List.mem_cons_self ..); have k0 := HR.out.frm.lt (List.mem_cons_self ..); have x3 := HR.out.frm.cells (List.mem_cons_of_mem _ (List.mem_cons_of_mem _ (List.mem_cons_of_mem _ (List.mem_cons_self ..)))); have f3 := HR.out.frm.free (List.mem_cons_of_mem _ (List.mem_cons_of_mem _ (List.mem_cons_of_mem _ (List.mem_cons_self ..)))); have k3 := HR.out.frm.lt (List.mem_cons_of_mem _ (List.mem_cons_of_mem _ (List.mem_cons_of_mem _ (List.mem_cons_self ..)))); have ca := (HR.out.frm.cells (List.mem_cons_of_mem _ (List.mem_cons_self ..)) 0).trans (HR3.out 0 _ rfl); have cb := (HR.out.frm.cells (List.mem_cons_of_mem _ (List.mem_cons_self ..)) 1).trans (HR3.out 1 _ rfl); clear hbb hat4) | (go_at_call 83; refine (HNM.out _ _ _ HAT4.out hc4 hm4).mono ?_; rintro e wc ⟨g5, ec5, cur5, rfl, hg5, hr5, hb5, he5, hm5, hbc⟩; have HR5 := Lib.hid hr5; have HRq := Lib.hid (HR.out.fresh hbc hg5 hb5); clear HR x0 f0 k0 x3 f3 k3 ca cb; have HR := HRq; clear HRq; have x1 := HR.out.frm.cells (List.mem_cons_of_mem _ (List.mem_cons_self ..)); have f1 := HR.out.frm.free (List.mem_cons_of_mem _ (List.mem_cons_self ..)); have k1 := HR.out.frm.lt (List.mem_cons_of_mem _ (List.mem_cons_self ..)); have x4 := HR.out.frm.cells (List.mem_cons_of_mem _ (List.mem_cons_of_mem _ (List.mem_cons_of_mem _ (List.mem_cons_of_mem _ (List.mem_cons_self ..))))); have f4 := HR.out.frm.free (List.mem_cons_of_mem _ (List.mem_cons_of_mem _ (List.mem_cons_of_mem _ (List.mem_cons_of_mem _ (List.mem_cons_self ..))))); have k4 := HR.out.frm.lt (List.mem_cons_of_mem _ (List.mem_cons_of_mem _ (List.mem_cons_of_mem _ (List.mem_cons_of_mem _ (List.mem_cons_self ..))))); have ca := (HR.out.frm.cells (List.mem_cons_of_mem _ (List.mem_cons_of_mem _ (List.mem_cons_self ..))) 0).trans (HR3.out 0 _ rfl); have cb := (HR.out.frm.cells (List.mem_cons_of_mem _ (List.mem_cons_of_mem _ (List.mem_cons_self ..))) 1).trans (HR3.out 1 _ rfl); clear hbc hg5 hr5))
          go_loopw [9, 13] (fun s i W => ∃ q : Nat, q ≤ wd ∧ i = .int .i64 (q : Int) ∧ s = .int .i64 (sumN (wd : Int) (vs ++ tv) (nw + q)) ∧ RW w F0 [(g5, (.cells cur5 3)), (F0, (.cells #[.int .i64 (wd : Int), .slice E nw ec] 27)), (g3, (.cells cur3 3)), (g1, (.cells cur1 9)), (w.heap.size, (.cells #[.int .i64 0, .slice none 0 0] 27))] [rwI (.slice E nw ec) nw vs] W) (fun _ i _ => wd - (intOf i).toNat)
          case atStart => exact ⟨0, Nat.zero_le _, rfl, rfl, HR.out⟩
          case round =>
            obtain ⟨q, hq, rfl, rfl, hF2⟩ := hrel
            clear HR x1 f1 k1 x4 f4 k4 ca cb
            have HR := Lib.hid hF2
            clear hF2
            have x1 := HR.out.frm.cells (List.mem_cons_of_mem _ (List.mem_cons_self ..)); have f1 := HR.out.frm.free (List.mem_cons_of_mem _ (List.mem_cons_self ..)); have k1 := HR.out.frm.lt (List.mem_cons_of_mem _ (List.mem_cons_self ..)); have x4 := HR.out.frm.cells (List.mem_cons_of_mem _ (List.mem_cons_of_mem _ (List.mem_cons_of_mem _ (List.mem_cons_of_mem _ (List.mem_cons_self ..))))); have f4 := HR.out.frm.free (List.mem_cons_of_mem _ (List.mem_cons_of_mem _ (List.mem_cons_of_mem _ (List.mem_cons_of_mem _ (List.mem_cons_self ..))))); have k4 := HR.out.frm.lt (List.mem_cons_of_mem _ (List.mem_cons_of_mem _ (List.mem_cons_of_mem _ (List.mem_cons_of_mem _ (List.mem_cons_self ..))))); have ca := (HR.out.frm.cells (List.mem_cons_of_mem _ (List.mem_cons_of_mem _ (List.mem_cons_self ..))) 0).trans (HR3.out 0 _ rfl); have cb := (HR.out.frm.cells (List.mem_cons_of_mem _ (List.mem_cons_of_mem _ (List.mem_cons_self ..))) 1).trans (HR3.out 1 _ rfl)
            have hsb := HSB.out (nw + q) (by omega)
            by_cases hqw : q < wd
            · have hqw2 : (q : Int) < (wd : Int) := by omega
              obtain ⟨z, hz⟩ : ∃ z, tv[q]? = some z := ⟨_, List.getElem?_eq_getElem (by rw [HHL.out]; exact hqw)⟩
              have cz := (HR.out.frm.cells (List.mem_cons_self ..) q).trans (HR5.out q z hz)
              have hzb := HVB.out z (List.mem_of_getElem? hz)
              have HE : Hid (sumN (wd : Int) (vs ++ tv) (nw + (q + 1)) = sumN (wd : Int) (vs ++ tv) (nw + q) + z * (1 + (n : Int))) := Lib.hid (by
                show sumN (wd : Int) (vs ++ tv) (nw + q) + ev (vs ++ tv) (nw + q) * (1 + ((nw + q : Nat) : Int) / (wd : Int)) = _
                rw [HEV.out q z hz, HDV.out q hqw])
              have m1 : 0 ≤ z * (1 + (n : Int)) := Int.mul_nonneg hzb.1 (by omega)
              have m2 : z * (1 + (n : Int)) ≤ 99999 * 501 := Int.mul_le_mul hzb.2 (by omega) (by omega) (by omega)
              generalize sumN (wd : Int) (vs ++ tv) (nw + q) = sm at *
              have t4 : IntKind.i64.wrap ((n : Int) + 1) = 1 + (n : Int) := by rw [show (n : Int) + 1 = 1 + n by omega]; exact IntWalk.i64_in _ (by omega)
              have t7 : IntKind.i64.wrap (z * (1 + (n : Int))) = z * (1 + (n : Int)) := IntWalk.i64_in _ (by omega)
              have t8 : IntKind.i64.wrap (sm + z * (1 + (n : Int))) = sm + z * (1 + (n : Int)) := IntWalk.i64_in _ (by omega)
              clear hz wn1
              go_wp2_with fail
              go_roundw
              case rel => exact ⟨q + 1, by omega, by go_num, by rw [HE.out], HR.out⟩
              case measure => simp [intOf]; omega
            · obtain rfl : q = wd := by omega
              have hqq : ¬ (q : Int) < (q : Int) := by omega
              have HCS : Hid (∀ (j : Nat) z, tv[j]? = some z → wr.cell? ⟨g5, 0 + j, none⟩ = some (.int .i64 z)) := Lib.hid (fun j z hj => by rw [Nat.zero_add]; exact (HR.out.frm.cells (List.mem_cons_self ..) j).trans (HR5.out j z hj))
              go_wp2_with ((at_builtin; go_must (refine RW.lapp_ints (T := tv) (by rfl) _ _ (by rfl) HR.out HVL.out (by rfl) (by rfl) HHL.out w1 HCS.out (by omega) ?_); intro g7 cap7 wz hRn; have HRq := Lib.hid (RW.less (bs' := [(F0, (.cells #[.int .i64 (q : Int), .slice E nw ec] 27)), (g3, (.cells cur3 3)), (g1, (.cells cur1 9)), (w.heap.size, (.cells #[.int .i64 0, .slice none 0 0] 27))]) hRn (by simp)); clear HR x1 f1 k1 x4 f4 k4 ca cb hRn; have HR := HRq; clear HRq; have x0 := HR.out.frm.cells (List.mem_cons_self ..); have f0 := HR.out.frm.free (List.mem_cons_self ..); have k0 := HR.out.frm.lt (List.mem_cons_self ..); have x3 := HR.out.frm.cells (List.mem_cons_of_mem _ (List.mem_cons_of_mem _ (List.mem_cons_of_mem _ (List.mem_cons_self ..)))); have f3 := HR.out.frm.free (List.mem_cons_of_mem _ (List.mem_cons_of_mem _ (List.mem_cons_of_mem _ (List.mem_cons_self ..)))); have k3 := HR.out.frm.lt (List.mem_cons_of_mem _ (List.mem_cons_of_mem _ (List.mem_cons_of_mem _ (List.mem_cons_self ..)))); have ca := (HR.out.frm.cells (List.mem_cons_of_mem _ (List.mem_cons_self ..)) 0).trans (HR3.out 0 _ rfl); have cb := (HR.out.frm.cells (List.mem_cons_of_mem _ (List.mem_cons_self ..)) 1).trans (HR3.out 1 _ rfl)))
              go_roundw
              case rel => exact ⟨n + 1, some ⟨g7, 0, none⟩, cap7, by omega, by rw [HVN.out, Nat.add_mul, Nat.one_mul, HNW.out], by go_num, fun r hr => by
                rcases Nat.lt_or_ge r n with h | h
                · exact HA.out r h
                · obtain rfl : r = n := by omega
                  exact HOK.out, by
                rw [Nat.add_mul, Nat.one_mul, HNW.out, HVN.out]
                exact RW.put HR.out (by omega) (by simp <;> omega) 1 (.slice (some ⟨g7, 0, none⟩) (nw + q) cap7)⟩
              case measure => simp [intOf]; omega
        · obtain rfl : n = rw := by omega
          have hnn2 : ¬ (n : Int) < (n : Int) := by omega
          obtain ⟨zs, hzs⟩ : ∃ zs, valsN (l0 :: lr) n = zs := ⟨_, rfl⟩
          have HZS := Lib.hid hzs
          obtain ⟨hvl, hvb, -⟩ := valsN_ok n HA.out
          have hv9 := HSZ.out n (by rw [HLEN.out]; omega)
          rw [hzs] at hvl hvb hv9 HR
          rw [hzs, ← hvl]
          rw [← hvl] at HR
          have HVB := Lib.hid hvb
          obtain ⟨sm, hsm⟩ : ∃ sm, sumN (wd : Int) zs zs.length = sm := ⟨_, rfl⟩
          have HSM := Lib.hid hsm
          have HSB9 : Hid (0 ≤ sm ∧ sm ≤ 1000000000000) := Lib.hid (by
            have := sumN_bd (wd := (wd : Int)) ⟨by omega, by omega⟩ hvb (by omega) zs.length (Nat.le_refl _)
            rw [hsm] at this
            omega)
          rw [hsm]
          clear hzs hvb hvl hsm
          have hsb := HSB9.out
          have HE1 : Hid (∀ W, Calls Tryz.prog 81 #[.int .i64 (sm % 97 / 10)] W fun e w' => e = .returned (str (Lib.decDigits (sm % 97 / 10).toNat)) ∧ Below W.heap.size W w') := Lib.hid (fun W => by
            have := rDec_pos (sm % 97 / 10).toNat W (by omega)
            rwa [Int.toNat_of_nonneg (by omega)] at this)
          have HE2 : Hid (∀ W, Calls Tryz.prog 81 #[.int .i64 (sm % 97 % 10)] W fun e w' => e = .returned (str (Lib.decDigits (sm % 97 % 10).toNat)) ∧ Below W.heap.size W w') := Lib.hid (fun W => by
            have := rDec_pos (sm % 97 % 10).toNat W (by omega)
            rwa [Int.toNat_of_nonneg (by omega)] at this)
          have he1 := dec_len (sm % 97 / 10).toNat (by omega)
          have he2 := dec_len (sm % 97 % 10).toNat (by omega)
          have t1 : sm.tmod 97 = sm % 97 := Int.tmod_eq_emod_of_nonneg (by omega)
          have t2 : (sm % 97).tdiv 10 = sm % 97 / 10 := Int.tdiv_eq_ediv_of_nonneg (by omega)
          have t3 : (sm % 97).tmod 10 = sm % 97 % 10 := Int.tmod_eq_emod_of_nonneg (by omega)
          have t4 : IntKind.i64.wrap (sm % 97 / 10) = sm % 97 / 10 := IntWalk.i64_in _ (by omega)
          have t7 : IntKind.i64.wrap (sm % 97) = sm % 97 := IntWalk.i64_in _ (by omega)
          have t8 : IntKind.i64.wrap (sm % 97 % 10) = sm % 97 % 10 := IntWalk.i64_in _ (by omega)
          obtain ⟨d1, hd1⟩ : ∃ d1, Lib.decDigits (sm % 97 / 10).toNat = d1 := ⟨_, rfl⟩
          obtain ⟨d2, hd2⟩ : ∃ d2, Lib.decDigits (sm % 97 % 10).toNat = d2 := ⟨_, rfl⟩
          rw [hd1] at HE1 he1
          rw [hd2] at HE2 he2
          have ht1 : ¬ 9223372036854775807 < 4 + d1.length := by omega
          have ht2 : ¬ 9223372036854775807 < 4 + d1.length + d2.length := by omega
          have HEW : Hid (endW (wd : Int) zs = [101, 110, 100, 32] ++ d1 ++ d2) := Lib.hid (by rw [endW_two, HSM.out, hd1, hd2])
          have hxi : (l0 :: lr)[n + 1]? = some ((l0 :: lr).getD (n + 1) []) := by
            have h1 : n + 1 < (l0 :: lr).length := by rw [HLEN.out]; omega
            rw [List.getD_eq_getElem?_getD, List.getElem?_eq_getElem h1]; rfl
          obtain ⟨z9, hz9⟩ : ∃ z9, (l0 :: lr).getD (n + 1) [] = z9 := ⟨_, rfl⟩
          rw [hz9] at hxi
          have HZ1 := Lib.hid (HR1.out _ _ hxi)
          have HZ9 := Lib.hid hz9
          have cz9 : wr.cell? ⟨g1, n + 1, none⟩ = some (str z9) := (HR.out.frm.cells (List.mem_cons_of_mem _ (List.mem_cons_of_mem _ (List.mem_cons_self ..))) (n + 1)).trans HZ1.out
          have wl2 : IntKind.i64.wrap ((ln : Int) - 2) = ((n + 1 : Nat) : Int) := by rw [IntWalk.i64_in _ (by have := HLN2.out; omega)]; have := HLN2.out; omega
          have hil1 : n + 1 < ln := by have := HLN2.out; omega
          have hil2 : 0 ≤ (n : Int) + 1 := by omega
          have hil3 : (n : Int) + 1 < (ln : Int) := by omega
          clear hxi hz9 hd1 hd2
          have FIN : Hid (∀ W9 : World, Below w.heap.size w W9 → IntsF w.heap.size W9 E ec zs → RdPost2 w (l0 :: lr) (.returned (.tuple #[.agg #[.int .i64 (wd : Int), .slice E zs.length ec], .bool (z9 == [101, 110, 100, 32] ++ d1 ++ d2)])) W9) := Lib.hid (fun W9 hb hi => by
            refine ⟨hb, ?_⟩
            cases hq : (z9 == [101, 110, 100, 32] ++ d1 ++ d2)
            · refine .inr ⟨fun wd' rw' hg => ?_, _, _, _, _, rfl⟩
              obtain ⟨hw', hr'⟩ := HGH.out wd' rw' hg
              subst hw' hr'
              have := hg.last
              rw [HZ9.out, HZS.out, HEW.out] at this
              rw [this] at hq
              simp at hq
            · refine .inl ⟨wd, n, zs, _, _, ⟨HLEN.out, HHD.out, HA.out, ?_, HNL.out⟩, HZS.out.symm, rfl, hi⟩
              rw [HZ9.out, HZS.out, HEW.out]
              simpa using hq)
          rcases Nat.eq_zero_or_pos zs.length with hz0 | hz0
          · have hzn : zs = [] := List.length_eq_zero_iff.1 hz0
            have hec : ec ≤ maxLen := own_cap (HR.out.own _ (List.mem_cons_self ..))
            have INTS : Hid (∀ V : World, IntsF w.heap.size V E ec zs) := Lib.hid (fun V => ⟨⟨E, ec, rfl, by omega, hec, .inl hzn⟩, fun _ _ _ h => absurd hzn h⟩)
            have HRq := Lib.hid (RW.less (bs' := [(F0, (.cells #[.int .i64 (wd : Int), .slice E zs.length ec] 27)), (g1, (.cells cur1 9)), (w.heap.size, (.cells #[.int .i64 0, .slice none 0 0] 27))]) HR.out.noRows (by simp))
            clear HR hzn hz0
            have HR := HRq
            clear HRq
            go_wp2_with fail
            refine hw_start [(0, fun w' : World => ∀ o, w'.cell? ⟨F0, o, none⟩ = #[Value.int .i64 (wd : Int), .slice E zs.length ec][o]?), (6, fun w' : World => w'.cell? ⟨g1, n + 1, none⟩ = some (str z9))] (by kernel_rfl) (List.forall_mem_cons.2 ⟨HR.out.drew.frm.cells (List.mem_cons_self ..), List.forall_mem_cons.2 ⟨(HR.out.drew.frm.cells (List.mem_cons_of_mem _ (List.mem_cons_self ..)) _).trans HZ1.out, (by simp)⟩⟩) ?_
            refine (fun (W225 : World) (hRn : RW w _ [(F0, (.cells #[.int .i64 (wd : Int), .slice E zs.length ec] 27)), (g1, (.cells cur1 9)), (w.heap.size, (.cells #[.int .i64 0, .slice none 0 0] 27))] [] W225) (hzW225 : Hid (W225.heap.size = wr.heap.size)) => (?_ : HW _ _ _ _ _ _ _ W225)) _ HR.out.drew (Lib.hid rfl)
            clear HR
            have HR := Lib.hid hRn
            clear hRn
            refine hw_load (i := 0) (oi := ⟨some 112, _, _, _, _, _⟩) (v := ?v226) _ (List.mem_cons_self ..) rfl (by kernel_rfl) (by kernel_rfl) (by kernel_rfl) (by kernel_rfl) (fun _ _ _ h => h) rfl (by kernel_rfl) ?hv226 ?rv226
            case hv226 => (intro w hSw; (try dsimp only at hSw); go_simp) <;> (with_reducible rfl)
            try simp only [Act.put, List.setIfInBounds_toArray, List.set_cons_zero, List.set_cons_succ]
            refine hw_pure (i := 1) (oi := ⟨some 113, _, _, _, _, _⟩) (v := ?v227) rfl (by kernel_rfl) (by kernel_rfl) (by kernel_rfl) (by kernel_rfl) (fun _ _ _ h => h) rfl (by kernel_rfl) ?hv227 ?rv227
            case hv227 => (intro w; go_simp) <;> (with_reducible rfl)
            try simp only [Act.put, List.setIfInBounds_toArray, List.set_cons_zero, List.set_cons_succ]
            refine hw_pure (i := 2) (oi := ⟨some 114, _, _, _, _, _⟩) (v := ?v228) rfl (by kernel_rfl) (by kernel_rfl) (by kernel_rfl) (by kernel_rfl) (fun _ _ _ h => h) rfl (by kernel_rfl) ?hv228 ?rv228
            case hv228 => (intro w; go_simp) <;> (with_reducible rfl)
            try simp only [Act.put, List.setIfInBounds_toArray, List.set_cons_zero, List.set_cons_succ]
            refine hw_pure (i := 3) (oi := ⟨some 115, _, _, _, _, _⟩) (v := ?v229) rfl (by kernel_rfl) (by kernel_rfl) (by kernel_rfl) (by kernel_rfl) (fun _ _ _ h => h) rfl (by kernel_rfl) ?hv229 ?rv229
            case hv229 => (intro w; go_simp) <;> (with_reducible rfl)
            try simp only [Act.put, List.setIfInBounds_toArray, List.set_cons_zero, List.set_cons_succ]
            refine hw_pure (i := 4) (oi := ⟨some 116, _, _, _, _, _⟩) (v := ?v230) rfl (by kernel_rfl) (by kernel_rfl) (by kernel_rfl) (by kernel_rfl) (fun _ _ _ h => h) rfl (by kernel_rfl) ?hv230 ?rv230
            case hv230 => (intro w; go_simp) <;> (with_reducible rfl)
            try simp only [Act.put, List.setIfInBounds_toArray, List.set_cons_zero, List.set_cons_succ]
            refine hw_pure (i := 5) (oi := ⟨some 117, _, _, _, _, _⟩) (v := ?v231) rfl (by kernel_rfl) (by kernel_rfl) (by kernel_rfl) (by kernel_rfl) (fun _ _ _ h => h) rfl (by kernel_rfl) ?hv231 ?rv231
            case hv231 => (intro w; go_simp) <;> (with_reducible rfl)
            try simp only [Act.put, List.setIfInBounds_toArray, List.set_cons_zero, List.set_cons_succ]
            refine hw_load (i := 6) (oi := ⟨some 118, _, _, _, _, _⟩) (v := ?v232) _ (List.mem_cons_of_mem _ (List.mem_cons_self ..)) rfl (by kernel_rfl) (by kernel_rfl) (by kernel_rfl) (by kernel_rfl) (fun _ _ _ h => h) rfl (by kernel_rfl) ?hv232 ?rv232
            case hv232 => (intro w hSw; (try dsimp only at hSw); go_simp) <;> (with_reducible rfl)
            try simp only [Act.put, List.setIfInBounds_toArray, List.set_cons_zero, List.set_cons_succ]
            refine hw_pure (i := 7) (oi := ⟨some 119, _, _, _, _, _⟩) (v := ?v233) rfl (by kernel_rfl) (by kernel_rfl) (by kernel_rfl) (by kernel_rfl) (fun _ _ _ h => h) rfl (by kernel_rfl) ?hv233 ?rv233
            case hv233 => (intro w; go_simp) <;> (with_reducible rfl)
            try simp only [Act.put, List.setIfInBounds_toArray, List.set_cons_zero, List.set_cons_succ]
            refine hw_pure (i := 8) (oi := ⟨some 120, _, _, _, _, _⟩) (v := ?v234) rfl (by kernel_rfl) (by kernel_rfl) (by kernel_rfl) (by kernel_rfl) (fun _ _ _ h => h) rfl (by kernel_rfl) ?hv234 ?rv234
            case hv234 => (intro w; go_simp) <;> (with_reducible rfl)
            try simp only [Act.put, List.setIfInBounds_toArray, List.set_cons_zero, List.set_cons_succ]
            refine hw_pure (i := 9) (oi := ⟨some 121, _, _, _, _, _⟩) (v := ?v235) rfl (by kernel_rfl) (by kernel_rfl) (by kernel_rfl) (by kernel_rfl) (fun _ _ _ h => h) rfl (by kernel_rfl) ?hv235 ?rv235
            case hv235 => (intro w; go_simp) <;> (with_reducible rfl)
            try simp only [Act.put, List.setIfInBounds_toArray, List.set_cons_zero, List.set_cons_succ]
            refine hw_pure (i := 12) (oi := ⟨some 124, _, _, _, _, _⟩) (v := ?v236) rfl (by kernel_rfl) (by kernel_rfl) (by kernel_rfl) (by kernel_rfl) (fun _ _ _ h => h) rfl (by kernel_rfl) ?hv236 ?rv236
            case hv236 => (intro w; go_simp) <;> (with_reducible rfl)
            try simp only [Act.put, List.setIfInBounds_toArray, List.set_cons_zero, List.set_cons_succ]
            refine hw_pure (i := 13) (oi := ⟨some 125, _, _, _, _, _⟩) (v := ?v237) rfl (by kernel_rfl) (by kernel_rfl) (by kernel_rfl) (by kernel_rfl) (fun _ _ _ h => h) rfl (by kernel_rfl) ?hv237 ?rv237
            case hv237 => (intro w; go_simp) <;> (with_reducible rfl)
            try simp only [Act.put, List.setIfInBounds_toArray, List.set_cons_zero, List.set_cons_succ]
            refine hw_pure (i := 14) (oi := ⟨some 126, _, _, _, _, _⟩) (v := ?v238) rfl (by kernel_rfl) (by kernel_rfl) (by kernel_rfl) (by kernel_rfl) (fun _ _ _ h => h) rfl (by kernel_rfl) ?hv238 ?rv238
            case hv238 => (intro w; go_simp) <;> (with_reducible rfl)
            try simp only [Act.put, List.setIfInBounds_toArray, List.set_cons_zero, List.set_cons_succ]
            refine hw_ready (rs := [10]) (by kernel_rfl) (by simp) ?_
            refine AllHW.cons (i := 10) (o := ⟨some 122, _, _, _, _, _⟩) rfl rfl (by kernel_rfl) (fun K hK => ?s239) ?ms239
            case s239 =>
              (try go_simp)
              go_at_call 81
              refine (HE1.out _).mono ?_
              rintro e W240 ⟨rfl, hbd1⟩
              have hRn := HR.out.below hbd1
              clear HR hbd1
              have HR := Lib.hid hRn
              clear hRn
              (try dsimp only)
              refine hK.out _ _ (List.forall_mem_cons.2 ⟨.inr (HR.out.frm.cells (List.mem_cons_self ..)), List.forall_mem_cons.2 ⟨.inr ((HR.out.frm.cells (List.mem_cons_of_mem _ (List.mem_cons_self ..)) _).trans HZ1.out), (by simp)⟩⟩) ?_
              refine hw_pure (i := 11) (oi := ⟨some 123, _, _, _, _, _⟩) (v := ?v241) rfl (by kernel_rfl) (by kernel_rfl) (by kernel_rfl) (by kernel_rfl) (fun _ _ _ h => h) rfl (by kernel_rfl) ?hv241 ?rv241
              case hv241 => (intro w; go_simp) <;> (with_reducible rfl)
              try simp only [Act.put, List.setIfInBounds_toArray, List.set_cons_zero, List.set_cons_succ]
              refine hw_ready (rs := [15]) (by kernel_rfl) (by simp) ?_
              refine AllHW.cons (i := 15) (o := ⟨some 127, _, _, _, _, _⟩) rfl rfl (by kernel_rfl) (fun K hK => ?s242) ?ms242
              case s242 =>
                (try go_simp)
                go_at_call 81
                refine (HE2.out _).mono ?_
                rintro e W243 ⟨rfl, hbd1⟩
                have hRn := HR.out.below hbd1
                clear HR hbd1
                have HR := Lib.hid hRn
                clear hRn
                (try dsimp only)
                refine hK.out _ _ (List.forall_mem_cons.2 ⟨.inr (HR.out.frm.cells (List.mem_cons_self ..)), List.forall_mem_cons.2 ⟨.inr ((HR.out.frm.cells (List.mem_cons_of_mem _ (List.mem_cons_self ..)) _).trans HZ1.out), (by simp)⟩⟩) ?_
                refine hw_pure (i := 16) (oi := ⟨some 128, _, _, _, _, _⟩) (v := ?v244) rfl (by kernel_rfl) (by kernel_rfl) (by kernel_rfl) (by kernel_rfl) (fun _ _ _ h => h) rfl (by kernel_rfl) ?hv244 ?rv244
                case hv244 => (intro w; go_simp) <;> (with_reducible rfl)
                try simp only [Act.put, List.setIfInBounds_toArray, List.set_cons_zero, List.set_cons_succ]
                (try simp only [ba_app])
                refine hw_pure (i := 17) (oi := ⟨some 129, _, _, _, _, _⟩) (v := ?v245) rfl (by kernel_rfl) (by kernel_rfl) (by kernel_rfl) (by kernel_rfl) (fun _ _ _ h => h) rfl (by kernel_rfl) ?hv245 ?rv245
                case hv245 => (intro w; go_simp) <;> (with_reducible rfl)
                try simp only [Act.put, List.setIfInBounds_toArray, List.set_cons_zero, List.set_cons_succ]
                refine hw_ready (rs := [18]) (by kernel_rfl) (by simp) ?_
                refine AllHW.cons (i := 18) (o := ⟨none, _, _, _, _, _⟩) rfl rfl (by kernel_rfl) (fun K hK => ?s246) ?ms246
                case s246 =>
                  have u0 := (boxCells (HR.out.frm.h _ (List.mem_cons_of_mem _ (List.mem_cons_of_mem _ (List.mem_cons_self ..))))).1
                  have f0 := (boxCells (HR.out.frm.h _ (List.mem_cons_of_mem _ (List.mem_cons_of_mem _ (List.mem_cons_self ..))))).2
                  have l0 := lt_of_blk (HR.out.frm.h _ (List.mem_cons_of_mem _ (List.mem_cons_of_mem _ (List.mem_cons_self ..))))
                  (try go_simp)
                  clear u0 f0 l0
                  refine (fun (W247 : World) (hRn : RW w _ [(w.heap.size, (.cells #[.int .i64 (wd : Int), .slice E zs.length ec] 27)), (F0, (.cells #[.int .i64 (wd : Int), .slice E zs.length ec] 27)), (g1, (.cells cur1 9))] [] W247) (hzW247 : Hid (W247.heap.size = W243.heap.size)) => hK.out _ W247 (List.forall_mem_cons.2 ⟨.inl (by kernel_rfl), List.forall_mem_cons.2 ⟨.inr ((hRn.frm.cells (List.mem_cons_of_mem _ (List.mem_cons_of_mem _ (List.mem_cons_self ..))) _).trans HZ1.out), (by simp)⟩⟩) ?_) _ ((RW.put (RW.put (RW.less (bs' := [(w.heap.size, (.cells #[.int .i64 0, .slice none 0 0] 27)), (F0, (.cells #[.int .i64 (wd : Int), .slice E zs.length ec] 27)), (g1, (.cells cur1 9))]) HR.out (by simp only [List.forall_mem_cons, List.forall_mem_nil, and_true]; exact ⟨(List.mem_cons_of_mem _ (List.mem_cons_of_mem _ (List.mem_cons_self ..))), (List.mem_cons_self ..), (List.mem_cons_of_mem _ (List.mem_cons_self ..)), by simp⟩)) (by omega) (by simp <;> omega) 0 (.int .i64 (wd : Int))) (by omega) (by simp <;> omega) 1 (.slice E zs.length ec))) (Lib.hid (by simp))
                  clear HR
                  have HR := Lib.hid hRn
                  clear hRn
                  refine hw_pure (i := 19) (oi := ⟨some 3, _, _, _, _, _⟩) (v := ?v248) rfl (by kernel_rfl) (by kernel_rfl) (by kernel_rfl) (by kernel_rfl) (fun _ _ _ h => h) rfl (by kernel_rfl) ?hv248 ?rv248
                  case hv248 => (intro w; go_simp) <;> (with_reducible rfl)
                  try simp only [Act.put, List.setIfInBounds_toArray, List.set_cons_zero, List.set_cons_succ]
                  refine hw_done (by kernel_rfl) ?_
                  go_wp2_with fail
                  have u9 := HR.out.frm.cells (List.mem_cons_self ..)
                  refine bodyPost_ret (v := .tuple #[.agg #[Value.int .i64 (wd : Int), .slice E zs.length ec], .bool (z9 == [101, 110, 100, 32] ++ d1 ++ d2)]) (by simp [results, Tryz.results42, go_sem, u9]; try rfl) rfl ?_
                  exact FIN.out _ HR.out.frm.b (INTS.out _)
                exact AllHW.nil
              exact AllHW.nil
            exact AllHW.nil
          · obtain ⟨g8, cur8, rfl, hri, hg8, hc8, hm8, hRn⟩ := RW.row_int HR.out rfl hz0
            have INTS : Hid (∀ V : World, V.heap[g8]? = some (.cells cur8 3) → IntsF w.heap.size V (some ⟨g8, 0, none⟩) ec zs) := Lib.hid (fun V h => ⟨row_ints h hri rfl hc8 hm8, fun b o e _ => by cases e; omega⟩)
            have hgw : g8 ≠ w.heap.size ∧ g8 ≠ F0 := ⟨fun e => by
              have q1 := hRn.frm.h (g8, _) (List.mem_cons_self ..)
              have q2 := hRn.frm.h (w.heap.size, _) (List.mem_cons_of_mem _ (List.mem_cons_of_mem _ (List.mem_cons_of_mem _ (List.mem_cons_of_mem _ (List.mem_cons_self ..)))))
              rw [e] at q1
              have := q1.symm.trans q2
              simp at this, fun e => by
              have q1 := hRn.frm.h (g8, _) (List.mem_cons_self ..)
              have q2 := hRn.frm.h (F0, _) (List.mem_cons_of_mem _ (List.mem_cons_self ..))
              rw [e] at q1
              have := q1.symm.trans q2
              simp at this⟩
            have HRq := Lib.hid (RW.less (bs' := [(F0, (.cells #[.int .i64 (wd : Int), .slice (some ⟨g8, 0, none⟩) zs.length ec] 27)), (g1, (.cells cur1 9)), (w.heap.size, (.cells #[.int .i64 0, .slice none 0 0] 27)), (g8, (.cells cur8 3))]) hRn (by simp))
            clear HR hRn hz0
            have HR := HRq
            clear HRq
            go_wp2_with fail
            refine hw_start [(0, fun w' : World => ∀ o, w'.cell? ⟨F0, o, none⟩ = #[Value.int .i64 (wd : Int), .slice (some ⟨g8, 0, none⟩) zs.length ec][o]?), (6, fun w' : World => w'.cell? ⟨g1, n + 1, none⟩ = some (str z9))] (by kernel_rfl) (List.forall_mem_cons.2 ⟨HR.out.drew.frm.cells (List.mem_cons_self ..), List.forall_mem_cons.2 ⟨(HR.out.drew.frm.cells (List.mem_cons_of_mem _ (List.mem_cons_self ..)) _).trans HZ1.out, (by simp)⟩⟩) ?_
            refine (fun (W349 : World) (hRn : RW w _ [(F0, (.cells #[.int .i64 (wd : Int), .slice (some ⟨g8, 0, none⟩) zs.length ec] 27)), (g1, (.cells cur1 9)), (w.heap.size, (.cells #[.int .i64 0, .slice none 0 0] 27)), (g8, (.cells cur8 3))] [] W349) (hzW349 : Hid (W349.heap.size = wr.heap.size)) => (?_ : HW _ _ _ _ _ _ _ W349)) _ HR.out.drew (Lib.hid rfl)
            clear HR
            have HR := Lib.hid hRn
            clear hRn
            refine hw_load (i := 0) (oi := ⟨some 112, _, _, _, _, _⟩) (v := ?v350) _ (List.mem_cons_self ..) rfl (by kernel_rfl) (by kernel_rfl) (by kernel_rfl) (by kernel_rfl) (fun _ _ _ h => h) rfl (by kernel_rfl) ?hv350 ?rv350
            case hv350 => (intro w hSw; (try dsimp only at hSw); go_simp) <;> (with_reducible rfl)
            try simp only [Act.put, List.setIfInBounds_toArray, List.set_cons_zero, List.set_cons_succ]
            refine hw_pure (i := 1) (oi := ⟨some 113, _, _, _, _, _⟩) (v := ?v351) rfl (by kernel_rfl) (by kernel_rfl) (by kernel_rfl) (by kernel_rfl) (fun _ _ _ h => h) rfl (by kernel_rfl) ?hv351 ?rv351
            case hv351 => (intro w; go_simp) <;> (with_reducible rfl)
            try simp only [Act.put, List.setIfInBounds_toArray, List.set_cons_zero, List.set_cons_succ]
            refine hw_pure (i := 2) (oi := ⟨some 114, _, _, _, _, _⟩) (v := ?v352) rfl (by kernel_rfl) (by kernel_rfl) (by kernel_rfl) (by kernel_rfl) (fun _ _ _ h => h) rfl (by kernel_rfl) ?hv352 ?rv352
            case hv352 => (intro w; go_simp) <;> (with_reducible rfl)
            try simp only [Act.put, List.setIfInBounds_toArray, List.set_cons_zero, List.set_cons_succ]
            refine hw_pure (i := 3) (oi := ⟨some 115, _, _, _, _, _⟩) (v := ?v353) rfl (by kernel_rfl) (by kernel_rfl) (by kernel_rfl) (by kernel_rfl) (fun _ _ _ h => h) rfl (by kernel_rfl) ?hv353 ?rv353
            case hv353 => (intro w; go_simp) <;> (with_reducible rfl)
            try simp only [Act.put, List.setIfInBounds_toArray, List.set_cons_zero, List.set_cons_succ]
            refine hw_pure (i := 4) (oi := ⟨some 116, _, _, _, _, _⟩) (v := ?v354) rfl (by kernel_rfl) (by kernel_rfl) (by kernel_rfl) (by kernel_rfl) (fun _ _ _ h => h) rfl (by kernel_rfl) ?hv354 ?rv354
            case hv354 => (intro w; go_simp) <;> (with_reducible rfl)
            try simp only [Act.put, List.setIfInBounds_toArray, List.set_cons_zero, List.set_cons_succ]
            refine hw_pure (i := 5) (oi := ⟨some 117, _, _, _, _, _⟩) (v := ?v355) rfl (by kernel_rfl) (by kernel_rfl) (by kernel_rfl) (by kernel_rfl) (fun _ _ _ h => h) rfl (by kernel_rfl) ?hv355 ?rv355
            case hv355 => (intro w; go_simp) <;> (with_reducible rfl)
            try simp only [Act.put, List.setIfInBounds_toArray, List.set_cons_zero, List.set_cons_succ]
            refine hw_load (i := 6) (oi := ⟨some 118, _, _, _, _, _⟩) (v := ?v356) _ (List.mem_cons_of_mem _ (List.mem_cons_self ..)) rfl (by kernel_rfl) (by kernel_rfl) (by kernel_rfl) (by kernel_rfl) (fun _ _ _ h => h) rfl (by kernel_rfl) ?hv356 ?rv356
            case hv356 => (intro w hSw; (try dsimp only at hSw); go_simp) <;> (with_reducible rfl)
            try simp only [Act.put, List.setIfInBounds_toArray, List.set_cons_zero, List.set_cons_succ]
            refine hw_pure (i := 7) (oi := ⟨some 119, _, _, _, _, _⟩) (v := ?v357) rfl (by kernel_rfl) (by kernel_rfl) (by kernel_rfl) (by kernel_rfl) (fun _ _ _ h => h) rfl (by kernel_rfl) ?hv357 ?rv357
            case hv357 => (intro w; go_simp) <;> (with_reducible rfl)
            try simp only [Act.put, List.setIfInBounds_toArray, List.set_cons_zero, List.set_cons_succ]
            refine hw_pure (i := 8) (oi := ⟨some 120, _, _, _, _, _⟩) (v := ?v358) rfl (by kernel_rfl) (by kernel_rfl) (by kernel_rfl) (by kernel_rfl) (fun _ _ _ h => h) rfl (by kernel_rfl) ?hv358 ?rv358
            case hv358 => (intro w; go_simp) <;> (with_reducible rfl)
            try simp only [Act.put, List.setIfInBounds_toArray, List.set_cons_zero, List.set_cons_succ]
            refine hw_pure (i := 9) (oi := ⟨some 121, _, _, _, _, _⟩) (v := ?v359) rfl (by kernel_rfl) (by kernel_rfl) (by kernel_rfl) (by kernel_rfl) (fun _ _ _ h => h) rfl (by kernel_rfl) ?hv359 ?rv359
            case hv359 => (intro w; go_simp) <;> (with_reducible rfl)
            try simp only [Act.put, List.setIfInBounds_toArray, List.set_cons_zero, List.set_cons_succ]
            refine hw_pure (i := 12) (oi := ⟨some 124, _, _, _, _, _⟩) (v := ?v360) rfl (by kernel_rfl) (by kernel_rfl) (by kernel_rfl) (by kernel_rfl) (fun _ _ _ h => h) rfl (by kernel_rfl) ?hv360 ?rv360
            case hv360 => (intro w; go_simp) <;> (with_reducible rfl)
            try simp only [Act.put, List.setIfInBounds_toArray, List.set_cons_zero, List.set_cons_succ]
            refine hw_pure (i := 13) (oi := ⟨some 125, _, _, _, _, _⟩) (v := ?v361) rfl (by kernel_rfl) (by kernel_rfl) (by kernel_rfl) (by kernel_rfl) (fun _ _ _ h => h) rfl (by kernel_rfl) ?hv361 ?rv361
            case hv361 => (intro w; go_simp) <;> (with_reducible rfl)
            try simp only [Act.put, List.setIfInBounds_toArray, List.set_cons_zero, List.set_cons_succ]
            refine hw_pure (i := 14) (oi := ⟨some 126, _, _, _, _, _⟩) (v := ?v362) rfl (by kernel_rfl) (by kernel_rfl) (by kernel_rfl) (by kernel_rfl) (fun _ _ _ h => h) rfl (by kernel_rfl) ?hv362 ?rv362
            case hv362 => (intro w; go_simp) <;> (with_reducible rfl)
            try simp only [Act.put, List.setIfInBounds_toArray, List.set_cons_zero, List.set_cons_succ]
            refine hw_ready (rs := [10]) (by kernel_rfl) (by simp) ?_
            refine AllHW.cons (i := 10) (o := ⟨some 122, _, _, _, _, _⟩) rfl rfl (by kernel_rfl) (fun K hK => ?s363) ?ms363
            case s363 =>
              (try go_simp)
              go_at_call 81
              refine (HE1.out _).mono ?_
              rintro e W364 ⟨rfl, hbd1⟩
              have hRn := HR.out.below hbd1
              clear HR hbd1
              have HR := Lib.hid hRn
              clear hRn
              (try dsimp only)
              refine hK.out _ _ (List.forall_mem_cons.2 ⟨.inr (HR.out.frm.cells (List.mem_cons_self ..)), List.forall_mem_cons.2 ⟨.inr ((HR.out.frm.cells (List.mem_cons_of_mem _ (List.mem_cons_self ..)) _).trans HZ1.out), (by simp)⟩⟩) ?_
              refine hw_pure (i := 11) (oi := ⟨some 123, _, _, _, _, _⟩) (v := ?v365) rfl (by kernel_rfl) (by kernel_rfl) (by kernel_rfl) (by kernel_rfl) (fun _ _ _ h => h) rfl (by kernel_rfl) ?hv365 ?rv365
              case hv365 => (intro w; go_simp) <;> (with_reducible rfl)
              try simp only [Act.put, List.setIfInBounds_toArray, List.set_cons_zero, List.set_cons_succ]
              refine hw_ready (rs := [15]) (by kernel_rfl) (by simp) ?_
              refine AllHW.cons (i := 15) (o := ⟨some 127, _, _, _, _, _⟩) rfl rfl (by kernel_rfl) (fun K hK => ?s366) ?ms366
              case s366 =>
                (try go_simp)
                go_at_call 81
                refine (HE2.out _).mono ?_
                rintro e W367 ⟨rfl, hbd1⟩
                have hRn := HR.out.below hbd1
                clear HR hbd1
                have HR := Lib.hid hRn
                clear hRn
                (try dsimp only)
                refine hK.out _ _ (List.forall_mem_cons.2 ⟨.inr (HR.out.frm.cells (List.mem_cons_self ..)), List.forall_mem_cons.2 ⟨.inr ((HR.out.frm.cells (List.mem_cons_of_mem _ (List.mem_cons_self ..)) _).trans HZ1.out), (by simp)⟩⟩) ?_
                refine hw_pure (i := 16) (oi := ⟨some 128, _, _, _, _, _⟩) (v := ?v368) rfl (by kernel_rfl) (by kernel_rfl) (by kernel_rfl) (by kernel_rfl) (fun _ _ _ h => h) rfl (by kernel_rfl) ?hv368 ?rv368
                case hv368 => (intro w; go_simp) <;> (with_reducible rfl)
                try simp only [Act.put, List.setIfInBounds_toArray, List.set_cons_zero, List.set_cons_succ]
                (try simp only [ba_app])
                refine hw_pure (i := 17) (oi := ⟨some 129, _, _, _, _, _⟩) (v := ?v369) rfl (by kernel_rfl) (by kernel_rfl) (by kernel_rfl) (by kernel_rfl) (fun _ _ _ h => h) rfl (by kernel_rfl) ?hv369 ?rv369
                case hv369 => (intro w; go_simp) <;> (with_reducible rfl)
                try simp only [Act.put, List.setIfInBounds_toArray, List.set_cons_zero, List.set_cons_succ]
                refine hw_ready (rs := [18]) (by kernel_rfl) (by simp) ?_
                refine AllHW.cons (i := 18) (o := ⟨none, _, _, _, _, _⟩) rfl rfl (by kernel_rfl) (fun K hK => ?s370) ?ms370
                case s370 =>
                  have u0 := (boxCells (HR.out.frm.h _ (List.mem_cons_of_mem _ (List.mem_cons_of_mem _ (List.mem_cons_self ..))))).1
                  have f0 := (boxCells (HR.out.frm.h _ (List.mem_cons_of_mem _ (List.mem_cons_of_mem _ (List.mem_cons_self ..))))).2
                  have l0 := lt_of_blk (HR.out.frm.h _ (List.mem_cons_of_mem _ (List.mem_cons_of_mem _ (List.mem_cons_self ..))))
                  (try go_simp)
                  clear u0 f0 l0
                  refine (fun (W371 : World) (hRn : RW w _ [(w.heap.size, (.cells #[.int .i64 (wd : Int), .slice (some ⟨g8, 0, none⟩) zs.length ec] 27)), (F0, (.cells #[.int .i64 (wd : Int), .slice (some ⟨g8, 0, none⟩) zs.length ec] 27)), (g1, (.cells cur1 9)), (g8, (.cells cur8 3))] [] W371) (hzW371 : Hid (W371.heap.size = W367.heap.size)) => hK.out _ W371 (List.forall_mem_cons.2 ⟨.inl (by kernel_rfl), List.forall_mem_cons.2 ⟨.inr ((hRn.frm.cells (List.mem_cons_of_mem _ (List.mem_cons_of_mem _ (List.mem_cons_self ..))) _).trans HZ1.out), (by simp)⟩⟩) ?_) _ ((RW.put (RW.put (RW.less (bs' := [(w.heap.size, (.cells #[.int .i64 0, .slice none 0 0] 27)), (F0, (.cells #[.int .i64 (wd : Int), .slice (some ⟨g8, 0, none⟩) zs.length ec] 27)), (g1, (.cells cur1 9)), (g8, (.cells cur8 3))]) HR.out (by simp only [List.forall_mem_cons, List.forall_mem_nil, and_true]; exact ⟨(List.mem_cons_of_mem _ (List.mem_cons_of_mem _ (List.mem_cons_self ..))), (List.mem_cons_self ..), (List.mem_cons_of_mem _ (List.mem_cons_self ..)), (List.mem_cons_of_mem _ (List.mem_cons_of_mem _ (List.mem_cons_of_mem _ (List.mem_cons_self ..)))), by simp⟩)) (by omega) (by simp <;> omega) 0 (.int .i64 (wd : Int))) (by omega) (by simp <;> omega) 1 (.slice (some ⟨g8, 0, none⟩) zs.length ec))) (Lib.hid (by simp))
                  clear HR
                  have HR := Lib.hid hRn
                  clear hRn
                  refine hw_pure (i := 19) (oi := ⟨some 3, _, _, _, _, _⟩) (v := ?v372) rfl (by kernel_rfl) (by kernel_rfl) (by kernel_rfl) (by kernel_rfl) (fun _ _ _ h => h) rfl (by kernel_rfl) ?hv372 ?rv372
                  case hv372 => (intro w; go_simp) <;> (with_reducible rfl)
                  try simp only [Act.put, List.setIfInBounds_toArray, List.set_cons_zero, List.set_cons_succ]
                  refine hw_done (by kernel_rfl) ?_
                  go_wp2_with fail
                  have u9 := HR.out.frm.cells (List.mem_cons_self ..)
                  refine bodyPost_ret (v := .tuple #[.agg #[Value.int .i64 (wd : Int), .slice (some ⟨g8, 0, none⟩) zs.length ec], .bool (z9 == [101, 110, 100, 32] ++ d1 ++ d2)]) (by simp [results, Tryz.results42, go_sem, u9]; try rfl) rfl ?_
                  exact FIN.out _ HR.out.frm.b (INTS.out _ (HR.out.frm.h _ (List.mem_cons_of_mem _ (List.mem_cons_of_mem _ (List.mem_cons_of_mem _ (List.mem_cons_self ..))))))
                exact AllHW.nil
              exact AllHW.nil
            exact AllHW.nil
set_option maxHeartbeats 8000000 in
set_option maxRecDepth 100000 in
theorem lawChartReads {T : List UInt8} {m : Int} {w : World} (ht : Tab w) (hm : MxL w m) :
    Calls Tryz.prog 10 #[str T] w fun e w' => e = .returned (.bool true) ∧ Below w.heap.size w w' := by
  have HT := Lib.hid ht
  have HM := Lib.hid hm
  clear ht hm
  by_cases h5 : 500 < T.length
  · have h5' : (500 : Int) < T.length := by omega
    go_enter Tryz.func10, Tryz.ntmps10
    go_wp2_with fail
    refine (GX.known_true _ HT.out).mono ?_
    rintro e w1 ⟨rfl, hb1⟩
    go_wp2_with fail
    go_ret
    exact ⟨rfl, hb1⟩
  have h5' : ¬ (500 : Int) < T.length := by omega
  have HRR : Hid (∀ W, Calls Tryz.prog 42 #[str T] W fun e w' => RdPost2 W (spl 10 T) e w') := Lib.hid (fun W => rRead_any T W (by omega))
  have HSM : Hid (∀ W, Calls Tryz.prog 33 #[.agg #[.int .i64 0, .slice none 0 0], .agg #[.int .i64 0, .slice none 0 0]] W fun e w' => e = .returned (.bool true) ∧ Below W.heap.size W w') := Lib.hid (fun W => rSameField_yes 0 none none 0 0 0 [] W rfl (by omega) (Ints.nil W) (Ints.nil W))
  by_cases h4 : 400 < T.length
  · have h4' : (400 : Int) < T.length := by omega
    have HRE : Hid (∀ W, Below w.heap.size w W → Calls Tryz.prog 40 #[str T] W fun e w' => e = .returned (.tuple #[.agg #[.int .i64 0, .slice none 0 0], .int .i64 3]) ∧ Below W.heap.size W w') := Lib.hid (fun W hW => cRead_long T W m (HM.out.below hW) (HT.out.below hW) h4 (by omega))
    have HRA : Hid (∀ W, Below w.heap.size w W → Calls Tryz.prog 42 #[str T] W fun e w' => ∃ (a : Int) (E : Option Addr) (n ec : Nat) (b : Bool), e = .returned (.tuple #[.agg #[.int .i64 a, .slice E n ec], .bool b]) ∧ Below W.heap.size W w') := Lib.hid (fun W hW => (HRR.out W).mono fun e w' ⟨hb, h⟩ => by
      rcases h with ⟨wd, rw, zs, E, ec, _, _, he, _⟩ | ⟨_, a, E, n, ec, he⟩
      · exact ⟨_, _, _, _, _, he, hb⟩
      · exact ⟨_, _, _, _, _, he, hb⟩)
    clear h4 h5
    have HR := Lib.hid (Frm.nil w)
    go_enter Tryz.func10, Tryz.ntmps10
    go_wp2_with fail
    refine (HRE.out _ (Below.refl _ _)).mono ?_
    rintro e w1 ⟨rfl, hb1⟩
    have HRq := Lib.hid ((HR.out.below hb1).add (.cells #[.int .i64 0, .slice none 0 0] 27) rfl)
    clear HR
    have HR := HRq
    clear HRq
    have x0 := HR.out.cells (List.mem_cons_self ..)
    go_wp2_with fail
    refine (HRA.out _ HR.out.b).mono ?_
    rintro e w2 ⟨a, E, n, ec, b, rfl, hb2⟩
    have HRq := Lib.hid ((HR.out.below hb2).add (.cells #[.int .i64 a, .slice E n ec] 27) rfl)
    clear HR x0 hb1 hb2
    have HR := HRq
    clear HRq
    have x0 := HR.out.cells (List.mem_cons_self ..)
    have f0 := HR.out.free (List.mem_cons_self ..)
    have k0 := HR.out.lt (List.mem_cons_self ..)
    have x1 := HR.out.cells (List.mem_cons_of_mem _ (List.mem_cons_self ..))
    have f1 := HR.out.free (List.mem_cons_of_mem _ (List.mem_cons_self ..))
    have k1 := HR.out.lt (List.mem_cons_of_mem _ (List.mem_cons_self ..))
    go_wp2_with (first | (go_at_call 33; refine (HSM.out _).mono ?_; rintro e wa ⟨rfl, hba⟩; have HRq := Lib.hid (HR.out.below hba); clear HR  x0 f0 k0 x1 f1 k1 hba; have HR := HRq; clear HRq ; have x0 := HR.out.cells (List.mem_cons_self ..); have f0 := HR.out.free (List.mem_cons_self ..); have k0 := HR.out.lt (List.mem_cons_self ..); have x1 := HR.out.cells (List.mem_cons_of_mem _ (List.mem_cons_self ..)); have f1 := HR.out.free (List.mem_cons_of_mem _ (List.mem_cons_self ..)); have k1 := HR.out.lt (List.mem_cons_of_mem _ (List.mem_cons_self ..))) | (go_at_call 17; refine (GX.known_true _ (HT.out.below HR.out.b)).mono ?_; rintro e wa ⟨rfl, hba⟩; have HRq := Lib.hid (HR.out.below hba); clear HR  x0 f0 k0 x1 f1 k1 hba; have HR := HRq; clear HRq ; have x0 := HR.out.cells (List.mem_cons_self ..); have f0 := HR.out.free (List.mem_cons_self ..); have k0 := HR.out.lt (List.mem_cons_self ..); have x1 := HR.out.cells (List.mem_cons_of_mem _ (List.mem_cons_self ..)); have f1 := HR.out.free (List.mem_cons_of_mem _ (List.mem_cons_self ..)); have k1 := HR.out.lt (List.mem_cons_of_mem _ (List.mem_cons_self ..))))
    go_ret
    exact ⟨rfl, HR.out.b⟩
  have h4' : ¬ (400 : Int) < T.length := by omega
  by_cases hgd : ∃ wd rw, GoodL (spl 10 T) wd rw
  rotate_left
  · have hno : ∀ wd rw, ¬ GoodL (spl 10 T) wd rw := fun wd rw h => hgd ⟨wd, rw, h⟩
    have HRE : Hid (∀ W, Below w.heap.size w W → Calls Tryz.prog 40 #[str T] W fun e w' => e = .returned (.tuple #[.agg #[.int .i64 0, .slice none 0 0], .int .i64 4]) ∧ Below W.heap.size W w') := Lib.hid (fun W hW => cRead_none T W m (HM.out.below hW) (HT.out.below hW) (by omega) hno)
    have HRA : Hid (∀ W, Below w.heap.size w W → Calls Tryz.prog 42 #[str T] W fun e w' => ∃ (a : Int) (E : Option Addr) (n ec : Nat), e = .returned (.tuple #[.agg #[.int .i64 a, .slice E n ec], .bool false]) ∧ Below W.heap.size W w') := Lib.hid (fun W hW => (HRR.out W).mono fun e w' ⟨hb, h⟩ => by
      rcases h with ⟨wd, rw, zs, E, ec, hg, _⟩ | ⟨_, a, E, n, ec, he⟩
      · exact absurd hg (hno _ _)
      · exact ⟨_, _, _, _, he, hb⟩)
    clear h4 h5 hgd hno
    have HR := Lib.hid (Frm.nil w)
    go_enter Tryz.func10, Tryz.ntmps10
    go_wp2_with fail
    refine (HRE.out _ (Below.refl _ _)).mono ?_
    rintro e w1 ⟨rfl, hb1⟩
    have HRq := Lib.hid ((HR.out.below hb1).add (.cells #[.int .i64 0, .slice none 0 0] 27) rfl)
    clear HR
    have HR := HRq
    clear HRq
    have x0 := HR.out.cells (List.mem_cons_self ..)
    go_wp2_with fail
    refine (HRA.out _ HR.out.b).mono ?_
    rintro e w2 ⟨a, E, n, ec, rfl, hb2⟩
    have HRq := Lib.hid ((HR.out.below hb2).add (.cells #[.int .i64 a, .slice E n ec] 27) rfl)
    clear HR x0 hb1 hb2
    have HR := HRq
    clear HRq
    have x0 := HR.out.cells (List.mem_cons_self ..)
    have f0 := HR.out.free (List.mem_cons_self ..)
    have k0 := HR.out.lt (List.mem_cons_self ..)
    have x1 := HR.out.cells (List.mem_cons_of_mem _ (List.mem_cons_self ..))
    have f1 := HR.out.free (List.mem_cons_of_mem _ (List.mem_cons_self ..))
    have k1 := HR.out.lt (List.mem_cons_of_mem _ (List.mem_cons_self ..))
    go_wp2_with (first | (go_at_call 33; refine (HSM.out _).mono ?_; rintro e wa ⟨rfl, hba⟩; have HRq := Lib.hid (HR.out.below hba); clear HR  x0 f0 k0 x1 f1 k1 hba; have HR := HRq; clear HRq ; have x0 := HR.out.cells (List.mem_cons_self ..); have f0 := HR.out.free (List.mem_cons_self ..); have k0 := HR.out.lt (List.mem_cons_self ..); have x1 := HR.out.cells (List.mem_cons_of_mem _ (List.mem_cons_self ..)); have f1 := HR.out.free (List.mem_cons_of_mem _ (List.mem_cons_self ..)); have k1 := HR.out.lt (List.mem_cons_of_mem _ (List.mem_cons_self ..))) | (go_at_call 17; refine (GX.known_true _ (HT.out.below HR.out.b)).mono ?_; rintro e wa ⟨rfl, hba⟩; have HRq := Lib.hid (HR.out.below hba); clear HR  x0 f0 k0 x1 f1 k1 hba; have HR := HRq; clear HRq ; have x0 := HR.out.cells (List.mem_cons_self ..); have f0 := HR.out.free (List.mem_cons_self ..); have k0 := HR.out.lt (List.mem_cons_self ..); have x1 := HR.out.cells (List.mem_cons_of_mem _ (List.mem_cons_self ..)); have f1 := HR.out.free (List.mem_cons_of_mem _ (List.mem_cons_self ..)); have k1 := HR.out.lt (List.mem_cons_of_mem _ (List.mem_cons_self ..))))
    go_ret
    exact ⟨rfl, HR.out.b⟩
  obtain ⟨wd, rw, hg⟩ := hgd
  obtain ⟨zs, hzs⟩ : ∃ zs, valsN (spl 10 T) rw = zs := ⟨_, rfl⟩
  have HRA : Hid (∀ W, Below w.heap.size w W → Calls Tryz.prog 42 #[str T] W fun e w' => ∃ E2 ec2, e = .returned (.tuple #[.agg #[.int .i64 (wd : Int), .slice E2 zs.length ec2], .bool true]) ∧ Ints w' (.slice E2 zs.length ec2) zs ∧ Below W.heap.size W w') := Lib.hid (fun W hW => (HRR.out W).mono fun e w' ⟨hb, h⟩ => by
    rcases h with ⟨wd', rw', zs', E, ec, hg', hz', he, hi⟩ | ⟨hno, _⟩
    · obtain ⟨rfl, rfl⟩ := good_uniq hg hg'
      obtain rfl : zs = zs' := hzs.symm.trans hz'.symm
      exact ⟨E, ec, he, hi.1, hb⟩
    · exact absurd hg (hno _ _))
  cases hf : fieldB (wd : Int) zs
  · have HRE : Hid (∀ W, Below w.heap.size w W → Calls Tryz.prog 40 #[str T] W fun e w' => e = .returned (.tuple #[.agg #[.int .i64 0, .slice none 0 0], .int .i64 2]) ∧ Below W.heap.size W w') := Lib.hid (fun W hW => cRead_arg T W m (HM.out.below hW) (HT.out.below hW) (by omega) hg hzs.symm hf)
    clear h4 h5 hg hzs
    have HR := Lib.hid (Frm.nil w)
    go_enter Tryz.func10, Tryz.ntmps10
    go_wp2_with fail
    refine (HRE.out _ (Below.refl _ _)).mono ?_
    rintro e w1 ⟨rfl, hb1⟩
    have HRq := Lib.hid ((HR.out.below hb1).add (.cells #[.int .i64 0, .slice none 0 0] 27) rfl)
    clear HR
    have HR := HRq
    clear HRq
    have x0 := HR.out.cells (List.mem_cons_self ..)
    go_wp2_with fail
    refine (HRA.out _ HR.out.b).mono ?_
    rintro e w2 ⟨E2, ec2, rfl, hi2, hb2⟩
    have HRq := Lib.hid ((HR.out.below hb2).add (.cells #[.int .i64 (wd : Int), .slice E2 zs.length ec2] 27) rfl)
    have HX := Lib.hid (Ints.below hi2 ((Below.refl _ _).alloc (Nat.le_refl _) (.cells #[.int .i64 (wd : Int), .slice E2 zs.length ec2] 27)))
    clear HR x0 hb1 hb2 hi2
    have HR := HRq
    clear HRq
    have x0 := HR.out.cells (List.mem_cons_self ..)
    have f0 := HR.out.free (List.mem_cons_self ..)
    have k0 := HR.out.lt (List.mem_cons_self ..)
    have x1 := HR.out.cells (List.mem_cons_of_mem _ (List.mem_cons_self ..))
    have f1 := HR.out.free (List.mem_cons_of_mem _ (List.mem_cons_self ..))
    have k1 := HR.out.lt (List.mem_cons_of_mem _ (List.mem_cons_self ..))
    go_wp2_with (first | (go_at_call 15; refine (rField_is HX.out hf).mono ?_; rintro e wa ⟨rfl, hba⟩; have HRq := Lib.hid (HR.out.below hba); have HXq := Lib.hid (HX.out.below hba); clear HR HX x0 f0 k0 x1 f1 k1 hba; have HR := HRq; have HX := HXq; clear HRq HXq; have x0 := HR.out.cells (List.mem_cons_self ..); have f0 := HR.out.free (List.mem_cons_self ..); have k0 := HR.out.lt (List.mem_cons_self ..); have x1 := HR.out.cells (List.mem_cons_of_mem _ (List.mem_cons_self ..)); have f1 := HR.out.free (List.mem_cons_of_mem _ (List.mem_cons_self ..)); have k1 := HR.out.lt (List.mem_cons_of_mem _ (List.mem_cons_self ..))) | (go_at_call 33; refine (HSM.out _).mono ?_; rintro e wa ⟨rfl, hba⟩; have HRq := Lib.hid (HR.out.below hba); have HXq := Lib.hid (HX.out.below hba); clear HR HX x0 f0 k0 x1 f1 k1 hba; have HR := HRq; have HX := HXq; clear HRq HXq; have x0 := HR.out.cells (List.mem_cons_self ..); have f0 := HR.out.free (List.mem_cons_self ..); have k0 := HR.out.lt (List.mem_cons_self ..); have x1 := HR.out.cells (List.mem_cons_of_mem _ (List.mem_cons_self ..)); have f1 := HR.out.free (List.mem_cons_of_mem _ (List.mem_cons_self ..)); have k1 := HR.out.lt (List.mem_cons_of_mem _ (List.mem_cons_self ..))) | (go_at_call 17; refine (GX.known_true _ (HT.out.below HR.out.b)).mono ?_; rintro e wa ⟨rfl, hba⟩; have HRq := Lib.hid (HR.out.below hba); have HXq := Lib.hid (HX.out.below hba); clear HR HX x0 f0 k0 x1 f1 k1 hba; have HR := HRq; have HX := HXq; clear HRq HXq; have x0 := HR.out.cells (List.mem_cons_self ..); have f0 := HR.out.free (List.mem_cons_self ..); have k0 := HR.out.lt (List.mem_cons_self ..); have x1 := HR.out.cells (List.mem_cons_of_mem _ (List.mem_cons_self ..)); have f1 := HR.out.free (List.mem_cons_of_mem _ (List.mem_cons_self ..)); have k1 := HR.out.lt (List.mem_cons_of_mem _ (List.mem_cons_self ..))))
    go_ret
    exact ⟨rfl, HR.out.b⟩
  have HRE : Hid (∀ W, Below w.heap.size w W → Calls Tryz.prog 40 #[str T] W fun e w' => ∃ E1 ec1, e = .returned (.tuple #[.agg #[.int .i64 (wd : Int), .slice E1 zs.length ec1], .int .i64 0]) ∧ Ints w' (.slice E1 zs.length ec1) zs ∧ Below W.heap.size W w') := Lib.hid (fun W hW => cRead_good T W m (HM.out.below hW) (HT.out.below hW) (by omega) hg hzs.symm hf)
  obtain ⟨-, hlen, hvb, -, -⟩ := good_lines hg
  have htx := good_text hg
  rw [hzs] at hlen hvb htx
  obtain ⟨wn, rn, hwd, hl, v1, v2, r1, r2, hv⟩ := fieldB_rows hf
  have hwn : wd = wn := by omega
  subst hwn
  have hrn : rw = rn := Nat.eq_of_mul_eq_mul_right (by omega) (hlen.symm.trans hl)
  subst hrn
  have HPR : Hid (∀ W E ec, Ints W (.slice E zs.length ec) zs → Tab W → Calls Tryz.prog 39 #[.agg #[.int .i64 (wd : Int), .slice E zs.length ec]] W fun e w' => e = .returned (.tuple #[str T, .int .i64 0]) ∧ Below W.heap.size W w') := Lib.hid (fun W E ec hi ht => by
    have := cPrint_ok wd rw E ec zs W hi hf hl r1 r2 ht
    rwa [← htx] at this)
  have hN : zs.length ≤ 1000 := by
    have : rw * wd ≤ 5 * 6 := Nat.mul_le_mul r2 v2
    omega
  have htt : (T == T) = true := by simp
  clear h4 h5 hg hzs hwd hv hvb hlen hl htx
  have HR := Lib.hid (Frm.nil w)
  go_enter Tryz.func10, Tryz.ntmps10
  go_wp2_with fail
  refine (HRE.out _ (Below.refl _ _)).mono ?_
  rintro e w1 ⟨E1, ec1, rfl, hi1, hb1⟩
  have HRq := Lib.hid ((HR.out.below hb1).add (.cells #[.int .i64 (wd : Int), .slice E1 zs.length ec1] 27) rfl)
  clear HR
  have HR := HRq
  clear HRq
  have x0 := HR.out.cells (List.mem_cons_self ..)
  go_wp2_with fail
  refine (HRA.out _ HR.out.b).mono ?_
  rintro e w2 ⟨E2, ec2, rfl, hi2, hb2⟩
  have HRq := Lib.hid ((HR.out.below hb2).add (.cells #[.int .i64 (wd : Int), .slice E2 zs.length ec2] 27) rfl)
  have HF := Lib.hid ((Ints.below (Ints.below hi1 ((Below.refl _ _).alloc (Nat.le_refl _) (.cells #[.int .i64 (wd : Int), .slice E1 zs.length ec1] 27))) hb2).below ((Below.refl _ _).alloc (Nat.le_refl _) (.cells #[.int .i64 (wd : Int), .slice E2 zs.length ec2] 27)))
  have HX := Lib.hid (Ints.below hi2 ((Below.refl _ _).alloc (Nat.le_refl _) (.cells #[.int .i64 (wd : Int), .slice E2 zs.length ec2] 27)))
  clear HR x0 hb1 hb2 hi1 hi2
  have HR := HRq
  clear HRq
  have x0 := HR.out.cells (List.mem_cons_self ..)
  have f0 := HR.out.free (List.mem_cons_self ..)
  have k0 := HR.out.lt (List.mem_cons_self ..)
  have x1 := HR.out.cells (List.mem_cons_of_mem _ (List.mem_cons_self ..))
  have f1 := HR.out.free (List.mem_cons_of_mem _ (List.mem_cons_self ..))
  have k1 := HR.out.lt (List.mem_cons_of_mem _ (List.mem_cons_self ..))
  go_wp2_with (first | (go_at_call 15; refine (rField_is HX.out hf).mono ?_; rintro e wa ⟨rfl, hba⟩; have HRq := Lib.hid (HR.out.below hba); have HFq := Lib.hid (HF.out.below hba); have HXq := Lib.hid (HX.out.below hba); clear HR HF HX x0 f0 k0 x1 f1 k1 hba; have HR := HRq; have HF := HFq; have HX := HXq; clear HRq HFq HXq; have x0 := HR.out.cells (List.mem_cons_self ..); have f0 := HR.out.free (List.mem_cons_self ..); have k0 := HR.out.lt (List.mem_cons_self ..); have x1 := HR.out.cells (List.mem_cons_of_mem _ (List.mem_cons_self ..)); have f1 := HR.out.free (List.mem_cons_of_mem _ (List.mem_cons_self ..)); have k1 := HR.out.lt (List.mem_cons_of_mem _ (List.mem_cons_self ..))) | (go_at_call 39; refine (HPR.out _ _ _ HF.out (HT.out.below HR.out.b)).mono ?_; rintro e wa ⟨rfl, hba⟩; have HRq := Lib.hid (HR.out.below hba); have HFq := Lib.hid (HF.out.below hba); have HXq := Lib.hid (HX.out.below hba); clear HR HF HX x0 f0 k0 x1 f1 k1 hba; have HR := HRq; have HF := HFq; have HX := HXq; clear HRq HFq HXq; have x0 := HR.out.cells (List.mem_cons_self ..); have f0 := HR.out.free (List.mem_cons_self ..); have k0 := HR.out.lt (List.mem_cons_self ..); have x1 := HR.out.cells (List.mem_cons_of_mem _ (List.mem_cons_self ..)); have f1 := HR.out.free (List.mem_cons_of_mem _ (List.mem_cons_self ..)); have k1 := HR.out.lt (List.mem_cons_of_mem _ (List.mem_cons_self ..))) | (go_at_call 33; refine (rSameField_yes (wd : Int) E1 E2 ec1 ec2 zs.length zs _ rfl hN HF.out HX.out).mono ?_; rintro e wa ⟨rfl, hba⟩; have HRq := Lib.hid (HR.out.below hba); have HFq := Lib.hid (HF.out.below hba); have HXq := Lib.hid (HX.out.below hba); clear HR HF HX x0 f0 k0 x1 f1 k1 hba; have HR := HRq; have HF := HFq; have HX := HXq; clear HRq HFq HXq; have x0 := HR.out.cells (List.mem_cons_self ..); have f0 := HR.out.free (List.mem_cons_self ..); have k0 := HR.out.lt (List.mem_cons_self ..); have x1 := HR.out.cells (List.mem_cons_of_mem _ (List.mem_cons_self ..)); have f1 := HR.out.free (List.mem_cons_of_mem _ (List.mem_cons_self ..)); have k1 := HR.out.lt (List.mem_cons_of_mem _ (List.mem_cons_self ..))) | (go_at_call 17; refine (GX.known_true _ (HT.out.below HR.out.b)).mono ?_; rintro e wa ⟨rfl, hba⟩; have HRq := Lib.hid (HR.out.below hba); have HFq := Lib.hid (HF.out.below hba); have HXq := Lib.hid (HX.out.below hba); clear HR HF HX x0 f0 k0 x1 f1 k1 hba; have HR := HRq; have HF := HFq; have HX := HXq; clear HRq HFq HXq; have x0 := HR.out.cells (List.mem_cons_self ..); have f0 := HR.out.free (List.mem_cons_self ..); have k0 := HR.out.lt (List.mem_cons_self ..); have x1 := HR.out.cells (List.mem_cons_of_mem _ (List.mem_cons_self ..)); have f1 := HR.out.free (List.mem_cons_of_mem _ (List.mem_cons_self ..)); have k1 := HR.out.lt (List.mem_cons_of_mem _ (List.mem_cons_self ..))))
  go_ret
  exact ⟨rfl, HR.out.b⟩
end Go.Proofs.YtpkmojcppdogkaaGreatDoor
