/- The law GlassReads, walked. -/
import Derived.Test.YtiindlbllhbofaaGreatDoorLss
set_option linter.unusedVariables false
set_option linter.unusedSimpArgs false
namespace Go.Proofs.YtiindlbllhbofaaGreatDoor
open Go.RowKit Go.Maps
set_option maxHeartbeats 8000000 in
set_option maxRecDepth 100000 in
theorem lawGlassReads_l (x : List UInt8) {m : Int} {w : World} (hh : Holds w) (ht : Tab w) (hm : MxL w m) :
    Calls Tryz.prog 4 #[str x] w fun e w' => e = .returned (.bool true) ∧ Below w.heap.size w w' := by
  have HH := Lib.hid hh
  have HT := Lib.hid ht
  have HM := Lib.hid hm
  clear hh ht hm
  go_enter Tryz.func4, Tryz.ntmps4
  by_cases c1 : 1200 < x.length ∧ x.length ≤ 3000
  · obtain ⟨a1, a2⟩ := c1
    have a1' : (1200 : Int) < x.length := by omega
    have a2' : (x.length : Int) ≤ 3000 := by omega
    go_wp2_with fail
    refine (known_b HH.out HT.out (Below.refl _ _)).mono ?_
    rintro e wk ⟨rfl, hbk⟩
    have HBK := Lib.hid hbk
    clear hbk
    go_wp2_with fail
    go_ret
    exact ⟨rfl, HBK.out⟩
  by_cases c2 : 3100 < x.length
  · have a1' : (1200 : Int) < x.length := by omega
    have a2' : ¬ (x.length : Int) ≤ 3000 := by omega
    have a3' : (3100 : Int) < x.length := by omega
    go_wp2_with fail
    refine (known_b HH.out HT.out (Below.refl _ _)).mono ?_
    rintro e wk ⟨rfl, hbk⟩
    have HBK := Lib.hid hbk
    clear hbk
    go_wp2_with fail
    go_ret
    exact ⟨rfl, HBK.out⟩
  have c2' : (x.length : Int) ≤ 3100 := by omega
  by_cases c3 : 3000 < x.length
  · have a1' : (1200 : Int) < x.length := by omega
    have a2' : ¬ (x.length : Int) ≤ 3000 := by omega
    have a3' : (3000 : Int) < x.length := by omega
    clear c1
    go_wp2_with fail
    refine (read_any (text := x) HM.out HT.out (by omega)).mono ?_
    rintro e w1 ⟨hb1, ⟨-, rfl⟩ | ⟨h3, -⟩ | ⟨l, h3, -⟩⟩
    · have HB1 := Lib.hid hb1
      clear hb1
      go_wp2_with fail
      refine (rRead_any x _ (by omega)).mono ?_
      rintro e w2 ⟨hb2, ⟨rs, v2, -, -, rfl, hR⟩ | ⟨-, v2, rfl⟩⟩
      · have HB2 := Lib.hid (below_step HB1.out hb2)
        clear hb2 hR
        go_wp2_with fail
        refine (known_b HH.out HT.out HB2.out).mono ?_
        rintro e wk ⟨rfl, hbk⟩
        have HBK := Lib.hid hbk
        clear hbk
        go_wp2_with fail
        go_ret
        exact ⟨rfl, HBK.out⟩
      · have HB2 := Lib.hid (below_step HB1.out hb2)
        clear hb2
        go_wp2_with fail
        refine (known_b HH.out HT.out HB2.out).mono ?_
        rintro e wk ⟨rfl, hbk⟩
        have HBK := Lib.hid hbk
        clear hbk
        go_wp2_with fail
        go_ret
        exact ⟨rfl, HBK.out⟩
    · exact absurd h3 (by omega)
    · exact absurd h3 (by omega)
  have b0 : x.length ≤ 1200 := by omega
  have b1 : (x.length : Int) ≤ 1200 := by omega
  have b2 : (x.length : Int) ≤ 3000 := by omega
  clear c1 c2 c3
  by_cases hT : IsText x
  · obtain ⟨rs, har, hx⟩ := hT
    have HAR := Lib.hid har
    have HX := Lib.hid hx
    clear har hx
    by_cases n20 : 20 < rs.length
    · have n20' : (20 : Int) < rs.length := by omega
      go_wp2_with fail
      refine (read_any (text := x) HM.out HT.out (by omega)).mono ?_
      rintro e w1 ⟨hb1, ⟨h3, -⟩ | ⟨-, hno, -⟩ | ⟨l, -, hal, htx, h⟩⟩
      · exact absurd h3 (by omega)
      · exact absurd ⟨rs, HAR.out, HX.out⟩ hno
      obtain rfl : rs = l := text_inj HAR.out hal (HX.out.symm.trans htx)
      rw [sheet_long n20] at h
      obtain rfl : e = nilErr _ := by
        rcases h with ⟨-, h⟩ | ⟨h0, -⟩
        · exact h
        · exact absurd h0 (by decide)
      clear h
      have HB1 := Lib.hid hb1
      clear hb1 hal htx
      go_wp2_with fail
      refine (rRead_any x _ (by omega)).mono ?_
      rintro e w2 ⟨hb2, ⟨l, v2, hal, htx, rfl, hR⟩ | ⟨hno, -⟩⟩
      · obtain rfl : rs = l := text_inj HAR.out hal (HX.out.symm.trans htx)
        obtain ⟨A2, cap2, rfl, hl2, hcap2, -⟩ := hR
        have hcap2' : (cap2 : Int) ≤ 9223372036854775807 := by unfold maxLen at hcap2; omega
        have HB2 := Lib.hid (below_step HB1.out hb2)
        clear hb2 hal htx
        go_wp2_with fail
        refine (known_b HH.out HT.out HB2.out).mono ?_
        rintro e wk ⟨rfl, hbk⟩
        have HBK := Lib.hid hbk
        clear hbk
        go_wp2_with fail
        go_ret
        exact ⟨rfl, HBK.out⟩
      · exact absurd ⟨rs, HAR.out, HX.out⟩ hno
    have n20' : (rs.length : Int) ≤ 20 := by omega
    cases hs : rs.all readB
    · go_wp2_with fail
      refine (read_any (text := x) HM.out HT.out (by omega)).mono ?_
      rintro e w1 ⟨hb1, ⟨h3, -⟩ | ⟨-, hno, -⟩ | ⟨l, -, hal, htx, h⟩⟩
      · exact absurd h3 (by omega)
      · exact absurd ⟨rs, HAR.out, HX.out⟩ hno
      obtain rfl : rs = l := text_inj HAR.out hal (HX.out.symm.trans htx)
      rw [sheet_bad n20 hs] at h
      obtain rfl : e = nilErr _ := by
        rcases h with ⟨-, h⟩ | ⟨h0, -⟩
        · exact h
        · exact absurd h0 (by decide)
      clear h
      have HB1 := Lib.hid hb1
      have HS := Lib.hid hs
      clear hb1 hal htx hs
      go_wp2_with fail
      refine (rRead_any x _ (by omega)).mono ?_
      rintro e w2 ⟨hb2, ⟨l, v2, hal, htx, rfl, hR⟩ | ⟨hno, -⟩⟩
      · obtain rfl : rs = l := text_inj HAR.out hal (HX.out.symm.trans htx)
        have HR := Lib.hid hR
        obtain ⟨A2, cap2, rfl, hl2, hcap2, -⟩ := hR
        have hcap2' : (cap2 : Int) ≤ 9223372036854775807 := by unfold maxLen at hcap2; omega
        have HB2 := Lib.hid (below_step HB1.out hb2)
        have HSH : Hid (Calls Tryz.prog 7 #[.slice A2 rs.length cap2] w2 fun e w' => e = .returned (.bool false) ∧ Below w2.heap.size w2 w') := Lib.hid (by rw [← HS.out]; exact rSheet_any HR.out)
        clear hb2 hal htx
        go_wp2_with fail
        refine HSH.out.mono ?_
        rintro e w3 ⟨rfl, hb3⟩
        have HB3 := Lib.hid (below_step HB2.out hb3)
        clear hb3
        go_wp2_with fail
        refine (known_b HH.out HT.out HB3.out).mono ?_
        rintro e wk ⟨rfl, hbk⟩
        have HBK := Lib.hid hbk
        clear hbk
        go_wp2_with fail
        go_ret
        exact ⟨rfl, HBK.out⟩
      · exact absurd ⟨rs, HAR.out, HX.out⟩ hno
    · go_wp2_with fail
      refine (read_any (text := x) HM.out HT.out (by omega)).mono ?_
      rintro e w1 ⟨hb1, ⟨h3, -⟩ | ⟨-, hno, -⟩ | ⟨l, -, hal, htx, h⟩⟩
      · exact absurd h3 (by omega)
      · exact absurd ⟨rs, HAR.out, HX.out⟩ hno
      obtain rfl : rs = l := text_inj HAR.out hal (HX.out.symm.trans htx)
      rw [sheet_fine n20 hs] at h
      rcases h with ⟨h0, -⟩ | ⟨-, v1, rfl, hR1⟩
      · exact absurd rfl h0
      have HB1 := Lib.hid hb1
      have HS := Lib.hid hs
      have HR1 := Lib.hid hR1
      clear hb1 hal htx hs hR1
      go_wp2_with fail
      refine (rRead_any x _ (by omega)).mono ?_
      rintro e w2 ⟨hb2, ⟨l, v2, hal, htx, rfl, hR⟩ | ⟨hno, -⟩⟩
      · obtain rfl : rs = l := text_inj HAR.out hal (HX.out.symm.trans htx)
        have HR := Lib.hid hR
        obtain ⟨A2, cap2, rfl, hl2, hcap2, -⟩ := hR
        have hcap2' : (cap2 : Int) ≤ 9223372036854775807 := by unfold maxLen at hcap2; omega
        have HB2 := Lib.hid (below_step HB1.out hb2)
        have HR12 := Lib.hid (HR1.out.below hb2)
        have HSH : Hid (Calls Tryz.prog 7 #[.slice A2 rs.length cap2] w2 fun e w' => e = .returned (.bool true) ∧ Below w2.heap.size w2 w') := Lib.hid (by rw [← HS.out]; exact rSheet_any HR.out)
        have HSF := Lib.hid (sheet_fine n20 HS.out)
        clear hb2 hal htx HR1
        go_wp2_with fail
        refine HSH.out.mono ?_
        rintro e w3 ⟨rfl, hb3⟩
        have HB3 := Lib.hid (below_step HB2.out hb3)
        have HR13 := Lib.hid (HR12.out.below hb3)
        have HR3 := Lib.hid (HR.out.below hb3)
        have HPR : Hid (Calls Tryz.prog 6 #[v1] w3 fun e w' => e = .returned (.tuple #[str x, .int .i64 0]) ∧ Below w3.heap.size w3 w') := Lib.hid (by rw [HX.out]; exact print_ok HR13.out HSF.out (HT.out.below HB3.out))
        clear hb3 HR12 HR
        go_wp2_with fail
        refine HPR.out.mono ?_
        rintro e w4 ⟨rfl, hb4⟩
        have HB4 := Lib.hid (below_step HB3.out hb4)
        have HR14 := Lib.hid (HR13.out.below hb4)
        have HR4 := Lib.hid (HR3.out.below hb4)
        clear hb4
        go_wp2_with fail
        refine (rSame_any HR14.out HR4.out).mono ?_
        rintro e w5 ⟨rfl, hb5⟩
        have HB5 := Lib.hid (below_step HB4.out hb5)
        clear hb5
        go_wp2_with fail
        refine (known_b HH.out HT.out HB5.out).mono ?_
        rintro e wk ⟨rfl, hbk⟩
        have HBK := Lib.hid hbk
        clear hbk
        go_wp2_with fail
        go_ret
        exact ⟨rfl, HBK.out⟩
      · exact absurd ⟨rs, HAR.out, HX.out⟩ hno
  · have HNO := Lib.hid hT
    clear hT
    go_wp2_with fail
    refine (read_any (text := x) HM.out HT.out (by omega)).mono ?_
    rintro e w1 ⟨hb1, ⟨h3, -⟩ | ⟨-, -, rfl⟩ | ⟨l, -, hal, htx, -⟩⟩
    · exact absurd h3 (by omega)
    · have HB1 := Lib.hid hb1
      clear hb1
      go_wp2_with fail
      refine (rRead_any x _ (by omega)).mono ?_
      rintro e w2 ⟨hb2, ⟨l, v2, hal, htx, rfl, hR⟩ | ⟨-, v2, rfl⟩⟩
      · exact absurd ⟨l, hal, htx⟩ HNO.out
      · have HB2 := Lib.hid (below_step HB1.out hb2)
        clear hb2
        go_wp2_with fail
        refine (known_b HH.out HT.out HB2.out).mono ?_
        rintro e wk ⟨rfl, hbk⟩
        have HBK := Lib.hid hbk
        clear hbk
        go_wp2_with fail
        go_ret
        exact ⟨rfl, HBK.out⟩
    · exact absurd ⟨l, hal, htx⟩ HNO.out
theorem lawGlassReads (S : ByteArray) {m : Int} {w : World} (hh : Holds w) (ht : Tab w) (hm : MxL w m) :
    Calls Tryz.prog 4 #[.string S] w fun e w' => e = .returned (.bool true) ∧ Below w.heap.size w w' := by
  have e : (⟨S.data.toList.toArray⟩ : ByteArray) = S := by simp
  rw [← e]
  exact lawGlassReads_l S.data.toList hh ht hm
end Go.Proofs.YtiindlbllhbofaaGreatDoor
