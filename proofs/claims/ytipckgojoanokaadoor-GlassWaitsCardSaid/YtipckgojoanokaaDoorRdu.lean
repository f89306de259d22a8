/- The reference's first day on which the bounds are wider. -/
import Derived.Test.YtipckgojoanokaaDoorRag
set_option linter.unusedVariables false
set_option linter.unusedSimpArgs false
namespace Go.Proofs.YtipckgojoanokaaDoor
open Go.RowKit Go.Maps

/-- What the reference's search returns: the day, or -1. -/
def DuRet (s : Stn) (cs : List Chk) (f width : Int) (w : World) (e : Ending) (w' : World) : Prop :=
  Below w.heap.size w w' ∧ (((∀ d, f ≤ d → d ≤ 400 → wideF s cs d ≤ width) ∧ e = .returned (.int .i64 (-1))) ∨ ∃ d, DueAt s cs f width d ∧ e = .returned (.int .i64 d))
set_option maxHeartbeats 1000000 in
set_option maxRecDepth 100000 in
theorem rDue_any {s : Stn} {v : Value} {cs : List Chk} {f width : Int} {w : World} (hc : Chks w v cs) (hs : Sane s cs) (hf0 : 0 ≤ f) (hf1 : f ≤ 400) :
    Calls Tryd.prog 30 #[stV s v, .int .i64 f, .int .i64 width] w (DuRet s cs f width w) := by
  obtain ⟨A, k, c, rfl⟩ := hc.shape
  have HR : Hid (Frm w [(w.heap.size, (stBox s (.slice A k c)))] (w.alloc (stBox s (.slice A k c)))) := Lib.hid ((Frm.nil w).add _ rfl)
  have HC := Lib.hid hc
  clear hc
  go_enter Tryd.func30, Tryd.ntmps30
  go_wp2_with fail
  go_loopw [7, 8] (fun d _ wr => ∃ x : Int, f ≤ x ∧ x ≤ 401 ∧ d = .int .i64 x ∧ (∀ y, f ≤ y → y < x → wideF s cs y ≤ width) ∧ Frm w [(w.heap.size, (stBox s (.slice A k c)))] wr) (fun d _ _ => (401 - intOf d).toNat)
  case atStart => exact ⟨f, by omega, by omega, rfl, fun y h1 h2 => absurd h1 (by omega), HR.out⟩
  case round =>
    obtain ⟨x, hx0, hx1, rfl, hw, hF⟩ := hrel
    have HW := Lib.hid hw
    have HF := Lib.hid hF
    have y0 := hF.cells (List.mem_cons_self ..)
    clear hw hF
    by_cases hx : x ≤ 400
    · obtain ⟨l0, l1⟩ := lowF_bd hs (day := x) (by omega) hx
      obtain ⟨u0, u1⟩ := highF_bd hs (day := x) (by omega) hx
      have HX := Lib.hid (rIndex_any (HC.out.below HF.out.b) hs (show 0 ≤ x by omega) hx)
      have HV := Lib.hid (show wideF s cs x = highF s x cs - lowF s x cs from rfl)
      generalize lowF s x cs = lo at *
      generalize highF s x cs = hi at *
      by_cases hq : width < hi - lo
      · go_wp2_with (go_at_call 22; refine HX.out.mono ?_; rintro e w1 ⟨rfl, hb1⟩)
        go_ret
        exact ⟨below_al (HF.out.below hb1).b _, .inr ⟨x, ⟨by omega, by omega, by rw [HV.out]; exact hq, HW.out⟩, rfl⟩⟩
      · go_wp2_with (go_at_call 22; refine HX.out.mono ?_; rintro e w1 ⟨rfl, hb1⟩)
        go_roundw
        case rel => exact ⟨x + 1, by omega, by omega, by go_num, fun y h1 h2 => by
          rcases Int.lt_or_le y x with h3 | h3
          · exact HW.out y h1 h3
          · obtain rfl : y = x := by omega
            rw [HV.out]; omega, (HF.out.below hb1).alloc _⟩
        case measure => simp [intOf]; omega
    · go_wp2_with fail
      go_ret
      exact ⟨HF.out.b, .inl ⟨fun d h1 h2 => HW.out d h1 (by omega), rfl⟩⟩
end Go.Proofs.YtipckgojoanokaaDoor
