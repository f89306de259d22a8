/- Part of a claim on cone. -/
import Derived.Test.YtldimlnllmojiaaGreatVw
import Derived.Test.YtldimlnllmojiaaGreatVv
import Derived.Test.YtldimlnllmojiaaGreatZvm
set_option linter.unusedVariables false
set_option linter.unusedSimpArgs false
namespace Go.Proofs.YtldimlnllmojiaaGreat
open Go.RowKit
open Go.Shelf
open Go.Maps
theorem short_is {m : Wn} {A1 A2 A3 : Option Addr} {r l p c1 c2 c3 : Nat} {b : Bool} (h : (decide (r ≤ 12) && decide (l ≤ 12) && decide (p ≤ 8)) = b) (w : World) :
    Calls Tryz.prog 17 #[wtV m (.slice A1 r c1) (.slice A2 l c2) (.slice A3 p c3)] w fun e w' => e = .returned (.bool b) ∧ Below w.heap.size w w' := by
  rw [← h]; exact short_any m A1 A2 A3 r l p c1 c2 c3 w
theorem rWatch_is {m : Wn} {A1 A2 A3 : Option Addr} {rs : List Rep} {ls : List Lnk} {ps : List Prt} {c1 c2 c3 : Nat} {w : World} {b : Bool} (h1 : Reps w (.slice A1 rs.length c1) rs) (h2 : Lnks w (.slice A2 ls.length c2) ls) (h3 : Prts w (.slice A3 ps.length c3) ps) (h : watchB m rs ls ps = b) :
    Calls Tryz.prog 21 #[wtV m (.slice A1 rs.length c1) (.slice A2 ls.length c2) (.slice A3 ps.length c3)] w fun e w' => e = .returned (.bool b) ∧ Below w.heap.size w w' := by
  rw [← h]; exact rWatch_any m A1 A2 A3 rs ls ps c1 c2 c3 w h1 h2 h3
theorem rDelays_is {m : Wn} {A1 A2 A3 : Option Addr} {rs : List Rep} {ls : List Lnk} {p3 c1 c2 c3 : Nat} {E : Option Addr} {ec : Nat} {zs : List Int} {w : World} {b : Bool} (h1 : Reps w (.slice A1 rs.length c1) rs) (hz : Ints w (.slice E zs.length ec) zs) (hlen : rs.length ≤ 12) (hzl : zs.length ≤ 12) (h : delB rs zs = b) :
    Calls Tryz.prog 25 #[wtV m (.slice A1 rs.length c1) (.slice A2 ls.length c2) (.slice A3 p3 c3), (.slice E zs.length ec)] w fun e w' => e = .returned (.bool b) ∧ Below w.heap.size w w' := by
  rw [← h]; exact rDelays_any m A1 A2 A3 rs ls c1 c2 p3 c3 E ec zs w h1 hz (by omega) (by omega)
theorem play_is {m : Wn} {A1 A2 A3 : Option Addr} {rs : List Rep} {ls : List Lnk} {ps : List Prt} {c1 c2 c3 : Nat} {E : Option Addr} {ec : Nat} {zs : List Int} {w : World} {p : Int × Int} (h1 : Reps w (.slice A1 rs.length c1) rs) (h2 : Lnks w (.slice A2 ls.length c2) ls) (h3 : Prts w (.slice A3 ps.length c3) ps) (hz : Ints w (.slice E zs.length ec) zs) (h : playP m rs ls ps zs = p) :
    Calls Tryz.prog 24 #[wtV m (.slice A1 rs.length c1) (.slice A2 ls.length c2) (.slice A3 ps.length c3), (.slice E zs.length ec)] w fun e w' => e = .returned (.tuple #[.int .i64 p.1, .int .i64 p.2]) ∧ Below w.heap.size w w' := by
  rw [← h]; exact play_any m A1 A2 A3 rs ls ps c1 c2 c3 E ec zs w h1 h2 h3 hz
theorem short_len {r l p : Nat} (h : (decide (r ≤ 12) && decide (l ≤ 12) && decide (p ≤ 8)) = true) : r ≤ 12 ∧ l ≤ 12 ∧ p ≤ 8 := by
  simp only [Bool.and_eq_true, decide_eq_true_eq] at h
  omega
end Go.Proofs.YtldimlnllmojiaaGreat
