/- The law GlassSheets, walked. -/
import Derived.Test.YtiindlbllhbofaaGreatDoorRsm
import Derived.Test.YtiindlbllhbofaaGreatDoorRra
import Derived.Test.YtiindlbllhbofaaGreatDoorKno
set_option linter.unusedVariables false
set_option linter.unusedSimpArgs false
namespace Go.Proofs.YtiindlbllhbofaaGreatDoor
open Go.RowKit Go.Maps
theorem sheet_all {rs : List Rdg} (h : sheetF rs = 0) : rs.all readB = true := by
  unfold sheetF at h
  split at h
  · cases h
  · split at h
    · assumption
    · cases h
theorem join_len7 (ws : List (List UInt8)) (h : ∀ x ∈ ws, x.length ≤ 6) : (Lib.join ws [32]).length ≤ ws.length * 7 := by
  induction ws with
  | nil => simp [Lib.join, List.intercalate]
  | cons a l ih =>
    have ha := h a (by simp)
    have hl := ih fun x hx => h x (List.mem_cons_of_mem _ hx)
    cases l with
    | nil =>
      have e : Lib.join [a] [32] = a := by simp [Lib.join, List.intercalate]
      rw [e]; simp; omega
    | cons b l =>
      have e : Lib.join (a :: b :: l) [32] = a ++ 32 :: Lib.join (b :: l) [32] := by simp [Lib.join, List.intercalate, List.intersperse]
      rw [e]
      simp only [List.length_append, List.length_cons] at *
      omega
theorem itoa_len6 {n : Int} (h0 : -99999 ≤ n) (h1 : n ≤ 99999) : (Lib.itoa n).length ≤ 6 := by
  unfold Lib.itoa
  split
  · have := dec_small (u := n.natAbs) (by omega)
    simp; omega
  · have := dec_small (u := n.toNat) (by omega)
    omega
theorem lines_len70 {rs : List Rdg} (h : AllPr rs) : (linesF rs).length ≤ 71 * rs.length := by
  induction rs with
  | nil => simp [linesF]
  | cons r rs ih =>
    have q := ih fun x hx => h x (List.mem_cons_of_mem _ hx)
    have hr := h r (by simp)
    have hn : ∀ x ∈ [r.day, r.mi, r.me, r.al, r.ah, r.dl, r.dh, r.wl, r.wh], (Lib.itoa x).length ≤ 6 := fun x hx => itoa_len6 (hr.n x hx).1 (hr.n x hx).2
    have hw : ∀ x ∈ wordsF r, x.length ≤ 6 := fun x hx => by
      simp only [wordsF, List.mem_cons, List.not_mem_nil, or_false] at hx
      rcases hx with rfl | rfl | rfl | rfl | rfl | rfl | rfl | rfl | rfl | rfl
      case inr.inr.inl => rcases letF_cases r.cl with e | e | e <;> rw [e] <;> simp
      all_goals exact hn _ (by simp)
    have p := join_len7 (wordsF r) hw
    rw [lines_cons, List.length_append, lineF_row, List.length_append, List.length_singleton, List.length_cons]
    unfold rowF
    have e : (wordsF r).length = 10 := rfl
    omega
theorem known_b {w W : World} (hh : Holds w) (ht : Tab w) (hb : Below w.heap.size w W) :
    Calls Tryz.prog 5 #[] W fun e w' => e = .returned (.bool true) ∧ Below w.heap.size w w' := by
  refine (known_ex W (hh.below hb) (ht.below hb)).mono ?_
  rintro e w' ⟨rfl, h⟩
  exact ⟨rfl, below_step hb h⟩
theorem sheet_long {rs : List Rdg} (h : 20 < rs.length) : sheetF rs = 3 := by simp [sheetF, h]
theorem sheet_bad {rs : List Rdg} (h : ¬ 20 < rs.length) (hs : rs.all readB = false) : sheetF rs = 2 := by simp [sheetF, h, hs]
theorem sheet_fine {rs : List Rdg} (h : ¬ 20 < rs.length) (hs : rs.all readB = true) : sheetF rs = 0 := by simp [sheetF, h, hs]
set_option maxHeartbeats 8000000 in
set_option maxRecDepth 100000 in
theorem lawGlassSheets {v : Value} {rs : List Rdg} {m : Int} {w : World} (hc : Rdgs w v rs) (hh : Holds w) (ht : Tab w) (hm : MxL w m) :
    Calls Tryz.prog 3 #[v] w fun e w' => e = .returned (.bool true) ∧ Below w.heap.size w w' := by
  have HC := Lib.hid hc
  have HH := Lib.hid hh
  have HT := Lib.hid ht
  have HM := Lib.hid hm
  obtain ⟨A, cap, rfl, hl, hcap, -⟩ := hc
  clear hh ht hm
  have hcap' : (cap : Int) ≤ 9223372036854775807 := by unfold maxLen at hcap; omega
  go_enter Tryz.func3, Tryz.ntmps3
  by_cases n24 : 24 < rs.length
  · have n24' : (24 : Int) < rs.length := by omega
    go_wp2_with fail
    refine (known_b HH.out HT.out (Below.refl _ _)).mono ?_
    rintro e wk ⟨rfl, hbk⟩
    have HBK := Lib.hid hbk
    clear hbk
    go_wp2_with fail
    go_ret
    exact ⟨rfl, HBK.out⟩
  have n24' : (rs.length : Int) ≤ 24 := by omega
  by_cases n20 : 20 < rs.length
  · have n20' : (20 : Int) < rs.length := by omega
    have HP : Hid (Calls Tryz.prog 6 #[.slice A rs.length cap] w fun e w' => e = .returned (.tuple #[.string ⟨#[]⟩, .int .i64 3]) ∧ Below w.heap.size w w') := Lib.hid (by
      rw [← sheet_long n20]
      exact print_bad HC.out (by rw [sheet_long n20]; decide))
    go_wp2_with fail
    refine HP.out.mono ?_
    rintro e w1 ⟨rfl, hb1⟩
    have HB1 := Lib.hid hb1
    clear hb1
    go_wp2_with fail
    refine (known_b HH.out HT.out HB1.out).mono ?_
    rintro e wk ⟨rfl, hbk⟩
    have HBK := Lib.hid hbk
    clear hbk
    go_wp2_with fail
    go_ret
    exact ⟨rfl, HBK.out⟩
  have n20' : (rs.length : Int) ≤ 20 := by omega
  cases hs : rs.all readB
  · have HP : Hid (Calls Tryz.prog 6 #[.slice A rs.length cap] w fun e w' => e = .returned (.tuple #[.string ⟨#[]⟩, .int .i64 2]) ∧ Below w.heap.size w w') := Lib.hid (by
      rw [← sheet_bad n20 hs]
      exact print_bad HC.out (by rw [sheet_bad n20 hs]; decide))
    have HSH : Hid (∀ W, Below w.heap.size w W → Calls Tryz.prog 7 #[.slice A rs.length cap] W fun e w' => e = .returned (.bool false) ∧ Below W.heap.size W w') := Lib.hid (fun W hb => by
      rw [← hs]
      exact rSheet_any (HC.out.below hb))
    clear hs
    go_wp2_with fail
    refine HP.out.mono ?_
    rintro e w1 ⟨rfl, hb1⟩
    have HB1 := Lib.hid hb1
    clear hb1
    go_wp2_with fail
    refine (HSH.out _ HB1.out).mono ?_
    rintro e w2 ⟨rfl, hb2⟩
    have HB2 := Lib.hid (below_step HB1.out hb2)
    clear hb2
    go_wp2_with fail
    refine (known_b HH.out HT.out HB2.out).mono ?_
    rintro e wk ⟨rfl, hbk⟩
    have HBK := Lib.hid hbk
    clear hbk
    go_wp2_with fail
    go_ret
    exact ⟨rfl, HBK.out⟩
  have HSF := Lib.hid (sheet_fine n20 hs)
  have HPR : Hid (AllPr rs) := Lib.hid (fun r hr => PrR.of_good (good_of_readB (List.all_eq_true.1 hs r hr)))
  have HSH : Hid (∀ W, Below w.heap.size w W → Calls Tryz.prog 7 #[.slice A rs.length cap] W fun e w' => e = .returned (.bool true) ∧ Below W.heap.size W w') := Lib.hid (fun W hb => by
    rw [← hs]
    exact rSheet_any (HC.out.below hb))
  obtain ⟨T, hT⟩ : ∃ T, textF rs = T := ⟨_, rfl⟩
  have HX := Lib.hid hT
  have HP : Hid (Calls Tryz.prog 6 #[.slice A rs.length cap] w fun e w' => e = .returned (.tuple #[str T, .int .i64 0]) ∧ Below w.heap.size w w') := Lib.hid (by
    rw [← hT]
    exact print_ok HC.out HSF.out HT.out)
  have HRP : Hid (∀ W, Below w.heap.size w W → Calls Tryz.prog 9 #[.slice A rs.length cap] W fun e w' => e = .returned (str T) ∧ Below W.heap.size W w') := Lib.hid (fun W hb => by
    rw [← hT]
    exact rPrint_any (HC.out.below hb) HPR.out (by omega))
  have hl3 : T.length ≤ 3000 := by
    rw [← hT]
    unfold textF
    have q := lines_len70 (rs := rs) HPR.out
    rw [List.length_append, end_len]
    omega
  clear hs hT
  go_wp2_with fail
  refine HP.out.mono ?_
  rintro e w1 ⟨rfl, hb1⟩
  have HB1 := Lib.hid hb1
  clear hb1
  go_wp2_with fail
  refine (HSH.out _ HB1.out).mono ?_
  rintro e w2 ⟨rfl, hb2⟩
  have HB2 := Lib.hid (below_step HB1.out hb2)
  clear hb2
  go_wp2_with fail
  refine (read_any (text := T) (HM.out.below HB2.out) (HT.out.below HB2.out) (by omega)).mono ?_
  rintro e w3 ⟨hb3, ⟨h3, -⟩ | ⟨-, hno, -⟩ | ⟨l, -, hal, htx, h⟩⟩
  · exact absurd h3 (by omega)
  · exact absurd ⟨rs, HPR.out, HX.out.symm⟩ hno
  obtain rfl : rs = l := text_inj HPR.out hal (HX.out.trans htx)
  rcases h with ⟨hs, -⟩ | ⟨-, v', rfl, hR⟩
  · exact absurd HSF.out hs
  have HB3 := Lib.hid (below_step HB2.out hb3)
  have HR := Lib.hid hR
  clear hb3 hal htx hR
  go_wp2_with fail
  refine (HRP.out _ HB3.out).mono ?_
  rintro e w4 ⟨rfl, hb4⟩
  have HB4 := Lib.hid (below_step HB3.out hb4)
  have HR4 := Lib.hid (HR.out.below hb4)
  clear hb4
  go_wp2_with fail
  refine (rSame_any HR4.out (HC.out.below HB4.out)).mono ?_
  rintro e w5 ⟨rfl, hb5⟩
  have HB5 := Lib.hid (below_step HB4.out hb5)
  clear hb5
  go_wp2_with fail
  refine (known_b HH.out HT.out HB5.out).mono ?_
  rintro e wk ⟨rfl, hbk⟩
  have HBK := Lib.hid hbk
  clear hbk
  go_wp2_with fail
  go_ret
  exact ⟨rfl, HBK.out⟩
end Go.Proofs.YtiindlbllhbofaaGreatDoor
