/- The law GlassClashes, walked. -/
import Derived.Test.YtipckgojoanokaaDoorRag
set_option linter.unusedVariables false
set_option linter.unusedSimpArgs false
namespace Go.Proofs.YtipckgojoanokaaDoor
open Go.RowKit Go.Maps

theorem First.uniq {s : Stn} {cs : List Chk} {i j i' j' : Nat} (h : First s cs i j) (h' : First s cs i' j') : i = i' ∧ j = j' := by
  have h1 := h.2.2 i' j' h'.1 h'.2.1
  have h2 := h'.2.2 i j h.1 h.2.1
  omega
set_option maxHeartbeats 1000000 in
set_option maxRecDepth 100000 in
theorem lawGlassClashes {s : Stn} {v : Value} {cs : List Chk}  {w : World} (hc : Chks w v cs) (hh : Holds w) (ht : Tab w) :
    Calls Tryd.prog 6 #[stV s v] w fun e w' => e = .returned (.bool true) ∧ Below w.heap.size w w' := by
  obtain ⟨A, k, c, rfl⟩ := hc.shape
  have HR : Hid (Frm w [(w.heap.size, (stBox s (.slice A k c)))] (w.alloc (stBox s (.slice A k c)))) := Lib.hid ((Frm.nil w).add _ rfl)
  have HC := Lib.hid (hc.below HR.out.b)
  have HH := Lib.hid hh
  have HT := Lib.hid ht
  clear hc hh ht
  have x0 := HR.out.cells (List.mem_cons_self ..)
  go_enter Tryd.func6, Tryd.ntmps6
  go_wp2_with fail
  refine (short_any HC.out).mono ?_
  rintro e w1 ⟨rfl, hb⟩
  have HR1 := Lib.hid (HR.out.below hb)
  have HC1 := Lib.hid (HC.out.below hb)
  have x1 := HR1.out.cells (List.mem_cons_self ..)
  clear hb x0
  by_cases h16 : cs.length ≤ 16
  · cases hs : soundB s cs
    · have HS := Lib.hid hs
      clear hs
      go_wp2_with fail
      refine (glassClash_bad HC1.out HS.out).mono ?_
      rintro e w2 ⟨rfl, hb⟩
      have HR2 := Lib.hid (HR1.out.below hb)
      have HC2 := Lib.hid (HC1.out.below hb)
      have x2 := HR2.out.cells (List.mem_cons_self ..)
      clear hb x1
      go_wp2_with fail
      refine (rStation_is HC2.out HS.out).mono ?_
      rintro e w3 ⟨rfl, hb⟩
      have HR3 := Lib.hid (HR2.out.below hb)
      have HC3 := Lib.hid (HC2.out.below hb)
      have x3 := HR3.out.cells (List.mem_cons_self ..)
      clear hb x2
      go_wp2_with fail
      refine (known_ex _ (HH.out.below HR3.out.b) (HT.out.below HR3.out.b)).mono ?_
      rintro e wz ⟨rfl, hbz⟩
      go_wp2_with fail
      go_ret
      exact ⟨rfl, (HR3.out.below hbz).b⟩
    · have hg := good_of_soundB hs
      have HS := Lib.hid hs
      clear hs
      rcases agreed_or s cs with hag | ⟨i, j, hf⟩
      · have HA := Lib.hid hag
        clear hag
        go_wp2_with fail
        refine (glassClash_none HC1.out HS.out HA.out).mono ?_
        rintro e w2 ⟨rfl, hb⟩
        have HR2 := Lib.hid (HR1.out.below hb)
        have HC2 := Lib.hid (HC1.out.below hb)
        have x2 := HR2.out.cells (List.mem_cons_self ..)
        clear hb x1
        go_wp2_with fail
        refine (rStation_is HC2.out HS.out).mono ?_
        rintro e w3 ⟨rfl, hb⟩
        have HR3 := Lib.hid (HR2.out.below hb)
        have HC3 := Lib.hid (HC2.out.below hb)
        have x3 := HR3.out.cells (List.mem_cons_self ..)
        clear hb x2
        go_wp2_with fail
        refine (rClash_any HC3.out hg.sane).mono ?_
        rintro e w4 ⟨hb, h⟩
        have HR4 := Lib.hid (HR3.out.below hb)
        have HC4 := Lib.hid (HC3.out.below hb)
        have x4 := HR4.out.cells (List.mem_cons_self ..)
        clear hb x3
        rcases h with ⟨_, rfl⟩ | ⟨i, j, hf, _, rfl⟩
        rotate_left
        · exact absurd HA.out hf.not
        go_wp2_with fail
        refine (known_ex _ (HH.out.below HR4.out.b) (HT.out.below HR4.out.b)).mono ?_
        rintro e wz ⟨rfl, hbz⟩
        go_wp2_with fail
        go_ret
        exact ⟨rfl, (HR4.out.below hbz).b⟩
      · have HF := Lib.hid hf
        clear hf
        go_wp2_with fail
        refine (glassClash_first HC1.out HS.out HF.out).mono ?_
        rintro e w2 ⟨rfl, hb⟩
        have HR2 := Lib.hid (HR1.out.below hb)
        have HC2 := Lib.hid (HC1.out.below hb)
        have x2 := HR2.out.cells (List.mem_cons_self ..)
        clear hb x1
        go_wp2_with fail
        refine (rStation_is HC2.out HS.out).mono ?_
        rintro e w3 ⟨rfl, hb⟩
        have HR3 := Lib.hid (HR2.out.below hb)
        have HC3 := Lib.hid (HC2.out.below hb)
        have x3 := HR3.out.cells (List.mem_cons_self ..)
        clear hb x2
        go_wp2_with fail
        refine (rClash_any HC3.out hg.sane).mono ?_
        rintro e w4 ⟨hb, h⟩
        have HR4 := Lib.hid (HR3.out.below hb)
        have HC4 := Lib.hid (HC3.out.below hb)
        have x4 := HR4.out.cells (List.mem_cons_self ..)
        clear hb x3
        rcases h with ⟨ha, rfl⟩ | ⟨i', j', hf, _, rfl⟩
        · exact absurd ha HF.out.not
        obtain ⟨rfl, rfl⟩ := HF.out.uniq hf
        clear hf
        go_wp2_with fail
        refine (known_ex _ (HH.out.below HR4.out.b) (HT.out.below HR4.out.b)).mono ?_
        rintro e wz ⟨rfl, hbz⟩
        go_wp2_with fail
        go_ret
        exact ⟨rfl, (HR4.out.below hbz).b⟩
  · go_wp2_with fail
    refine (known_ex _ (HH.out.below HR1.out.b) (HT.out.below HR1.out.b)).mono ?_
    rintro e wz ⟨rfl, hbz⟩
    go_wp2_with fail
    go_ret
    exact ⟨rfl, (HR1.out.below hbz).b⟩
end Go.Proofs.YtipckgojoanokaaDoor
