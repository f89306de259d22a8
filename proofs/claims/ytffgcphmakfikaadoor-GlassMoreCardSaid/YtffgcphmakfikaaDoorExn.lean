/- What the program answers at the document's examples. -/
import Derived.Test.YtffgcphmakfikaaDoorExa
set_option linter.unusedVariables false
set_option linter.unusedSimpArgs false
namespace Go.Proofs.YtffgcphmakfikaaDoor
open Go.RowKit Go.Maps

theorem exSound : soundB exS exC = true := by decide +kernel
theorem exReadR : readB exR = true := by decide +kernel
theorem exReadQ : readB exQ = true := by decide +kernel
theorem exAgreed : Agreed exS exC := by
  intro i j hij
  rintro ⟨a, b, ha, hb, hc⟩
  match i, j, hij, ha, hb with
  | 0, 1, _, ha, hb => cases ha; cases hb; exact absurd hc (by decide +kernel)
  | 0, j + 2, _, ha, hb => simp [exC] at hb
  | 1, j + 2, _, ha, hb => simp [exC] at hb
  | i + 2, j, _, ha, hb => simp [exC] at ha
def exT : Tru := ⟨20, 1, 0, 105, 205, 151, 120⟩
theorem exAllow : allowB exS exC exR exT = true := by decide +kernel
theorem exIndex : (lowF exS 20 exC, highF exS 20 exC) = (15, 40) := by decide +kernel
theorem exWide : ∀ k : Nat, k < 33 → wideF exS exC (0 + k) ≤ 30 := by decide +kernel
theorem exDue : DueAt exS exC 0 30 33 := by
  refine ⟨by omega, by omega, by decide +kernel, fun k h0 h1 => ?_⟩
  have := exWide k.toNat (by omega)
  rwa [show (0 : Int) + (k.toNat : Int) = k by omega] at this
theorem exPlay : (hereF 75050 exT, loweredF (hereF 75050 exT) exT, humidF (hereF 75050 exT) exT) = (74779, 75710, 68) := by decide +kernel
theorem exKnow : (hereF exR.me (extF exS exC exR 0 1 0), hereF exR.me (extF exS exC exR 1 0 1), loweredF (hereF exR.me (extF exS exC exR 0 1 0)) (extF exS exC exR 0 1 0), loweredF (hereF exR.me (extF exS exC exR 1 0 1)) (extF exS exC exR 1 0 1), humidF (hereF exR.me (extF exS exC exR 1 1 0)) (extF exS exC exR 1 1 0), humidF (hereF exR.me (extF exS exC exR 0 0 1)) (extF exS exC exR 0 0 1)) = (74741, 74803, 75627, 75779, 67, 70) := by decide +kernel
theorem exRise : (riseF exR exQ (fallLo exS exC exR.day exQ.day) (fallHi exS exC exR.day exQ.day) (-2 * exS.rd) (2 * exS.rd) 0, riseF exR exQ (fallLo exS exC exR.day exQ.day) (fallHi exS exC exR.day exQ.day) (-2 * exS.rd) (2 * exS.rd) 1) = (-115, -85) := by decide +kernel
theorem exWhen : whenL exS exQ = [(36448, 36452), (36478, 36482)] := by decide +kernel
theorem exSheet : sheetF [exR] = 0 := by decide +kernel
theorem dec_at (u k : Nat) (h1 : 10 ^ k ≤ u) (h2 : u < 10 ^ (k + 1)) : Lib.decDigits u = (List.range (k + 1)).map fun t => Lib.dg u (k - t) := by
  rw [Lib.decDigits_eq, Lib.nDigits_unique k u h1 h2]
  exact List.map_congr_left fun t _ => by rw [show k + 1 - 1 - t = k - t by omega]
theorem itoa_at (n : Int) (k : Nat) (h0 : 0 ≤ n) (h1 : 10 ^ k ≤ n.toNat) (h2 : n.toNat < 10 ^ (k + 1)) : Lib.itoa n = (List.range (k + 1)).map fun t => Lib.dg n.toNat (k - t) := by
  rw [show Lib.itoa n = Lib.decDigits n.toNat by unfold Lib.itoa; rw [if_neg (by omega)]]
  exact dec_at _ _ h1 h2
/-- The text of the document's example. -/
def exText : List UInt8 := [50, 48, 32, 52, 56, 48, 32, 115, 32, 55, 53, 48, 53, 48, 32, 50, 48, 48, 32, 50, 49, 48, 32, 49, 53, 48, 32, 49, 53, 50, 32, 49, 50, 48, 32, 49, 50, 49, 10, 101, 110, 100, 32, 52, 54, 10]
def exLine : List UInt8 := exText.take 39
theorem exLine_eq : lineF exR = exLine := by
  have e : wordsF exR = [Lib.itoa 20, Lib.itoa 480, [115], Lib.itoa 75050, Lib.itoa 200, Lib.itoa 210, Lib.itoa 150, Lib.itoa 152, Lib.itoa 120, Lib.itoa 121] := rfl
  unfold lineF
  rw [e, itoa_at 20 1 (by decide) (by decide) (by decide), itoa_at 480 2 (by decide) (by decide) (by decide), itoa_at 75050 4 (by decide) (by decide) (by decide), itoa_at 200 2 (by decide) (by decide) (by decide), itoa_at 210 2 (by decide) (by decide) (by decide), itoa_at 150 2 (by decide) (by decide) (by decide), itoa_at 152 2 (by decide) (by decide) (by decide), itoa_at 120 2 (by decide) (by decide) (by decide), itoa_at 121 2 (by decide) (by decide) (by decide)]
  decide +kernel
theorem exText_eq : textF [exR] = exText := by
  have h1 : linesF [exR] = exLine := by simp [linesF, exLine_eq]
  have h2 : checkF exLine = 146 := by decide +kernel
  unfold textF endF
  rw [h1, h2, itoa_at 146 2 (by decide) (by decide) (by decide)]
  decide +kernel

theorem index_ex {v : Value} {w : World} (hc : Chks w v exC) : Calls Tryd.prog 10 #[stV exS v, .int .i64 20] w fun x w' => x = .returned (.tuple #[spV 15 40, .int .i64 0]) ∧ Below w.heap.size w w' :=
  (index_ok hc exSound (by decide) exAgreed).mono fun x w' h => by
    have e := exIndex
    simp only [Prod.mk.injEq] at e
    rw [← e.1, ← e.2]; exact h
theorem due_ex {v : Value} {w : World} (hc : Chks w v exC) : Calls Tryd.prog 18 #[stV exS v, .int .i64 0, .int .i64 30] w fun x w' => x = .returned (.tuple #[.int .i64 33, .int .i64 0]) ∧ Below w.heap.size w w' :=
  due_some hc exSound (by decide) (by decide) exAgreed 33 exDue
theorem play_ex {v : Value} {w : World} (hc : Chks w v exC) (hh : Holds w) : Calls Tryd.prog 19 #[stV exS v, rdV exR, trV exT] w fun x w' => x = .returned (.tuple #[weV 74779 75710 68, .int .i64 0]) ∧ Below w.heap.size w w' :=
  (play_ok hc exSound exReadR hh exAgreed exAllow).mono fun x w' h => by
    have e := exPlay
    simp only [Prod.mk.injEq] at e
    rw [← e.1, ← e.2.1, ← e.2.2]; exact h
theorem know_ex {v : Value} {w : World} (hc : Chks w v exC) (hh : Holds w) : Calls Tryd.prog 9 #[stV exS v, rdV exR] w fun x w' => x = .returned (.tuple #[.agg #[.int .i64 74741, .int .i64 74803, .int .i64 75627, .int .i64 75779, .int .i64 67, .int .i64 70], .int .i64 0]) ∧ Below w.heap.size w w' :=
  (know_ok hc exSound exReadR hh exAgreed).mono fun x w' h => by
    have e := exKnow
    simp only [Prod.mk.injEq] at e
    rw [← e.1, ← e.2.1, ← e.2.2.1, ← e.2.2.2.1, ← e.2.2.2.2.1, ← e.2.2.2.2.2]; exact h
theorem rise_ex {v : Value} {w : World} (hc : Chks w v exC) : Calls Tryd.prog 21 #[stV exS v, rdV exR, rdV exQ] w fun x w' => x = .returned (.tuple #[spV (-115) (-85), .int .i64 0]) ∧ Below w.heap.size w w' :=
  (rise_ok hc exSound exReadR exReadQ exAgreed).mono fun x w' h => by
    have e := exRise
    simp only [Prod.mk.injEq] at e
    rw [e.1, e.2] at h; exact h
theorem when_ex {v : Value} {w : World} (hc : Chks w v exC) : Calls Tryd.prog 23 #[stV exS v, rdV exQ] w fun x w' => OwnSpans2 w w' x [(36448, 36452), (36478, 36482)] :=
  (when_ok hc exSound exReadQ).mono fun x w' h => by rw [exWhen] at h; exact h
theorem print_ex {v : Value} {w : World} (hc : Rdgs w v [exR]) (ht : Tab w) : Calls Tryd.prog 24 #[v] w fun e w' => e = .returned (.tuple #[str exText, .int .i64 0]) ∧ Below w.heap.size w w' :=
  (print_ok hc exSheet ht).mono fun x w' h => by rw [exText_eq] at h; exact h
end Go.Proofs.YtffgcphmakfikaaDoor
