/- Part of a claim on cone. -/
import Derived.Test.YtldimlnllmojiaaGreatWv
set_option linter.unusedVariables false
set_option linter.unusedSimpArgs false
namespace Go.Proofs.YtldimlnllmojiaaGreat
open Go.RowKit
open Go.Shelf
open Go.Maps
theorem rSees_is {m : Wn} {A1 A2 A3 : Option Addr} {rs : List Rep} {ls : List Lnk} {c1 c2 p3 c3 : Nat} {E : Option Addr} {ec : Nat} {zs : List Int} {t : Int} {w : World} {v : Bool} (h1 : Reps w (.slice A1 rs.length c1) rs) (h2 : Lnks w (.slice A2 ls.length c2) ls) (hz : Ints w (.slice E zs.length ec) zs) (hzl : zs.length = rs.length) (hlen : rs.length ≤ 12) (hg : ∀ x ∈ rs, 0 ≤ x.tk ∧ x.tk ≤ 100000 ∧ 0 ≤ x.pr ∧ x.pr ≤ 99999) (hho : 0 ≤ m.hold ∧ m.hold ≤ 100000) (hd : ∀ i, i < rs.length → 0 ≤ ev zs i ∧ ev zs i ≤ 100000) (hv : seenB (siL m ls rs (ev zs)) t = v) :
    Calls Tryz.prog 32 #[wtV m (.slice A1 rs.length c1) (.slice A2 ls.length c2) (.slice A3 p3 c3), (.slice E zs.length ec), .int .i64 t] w fun e w' => e = .returned (.bool v) ∧ Below w.heap.size w w' := by
  subst hv
  rw [seen_al]
  exact rSees_any m A1 A2 A3 rs ls c1 c2 p3 c3 E ec zs t w h1 h2 hz hzl hlen hg hho hd
theorem sane_tks {m : Wn} {rs : List Rep} {ls : List Lnk} {ps : List Prt} (h : Sane m rs ls ps) : ∀ x ∈ rs, 0 ≤ x.tk ∧ x.tk ≤ 100000 ∧ 0 ≤ x.pr ∧ x.pr ≤ 99999 := fun x hx => by
  have := h.rep x hx
  omega
theorem sane_hold {m : Wn} {rs : List Rep} {ls : List Lnk} {ps : List Prt} (h : Sane m rs ls ps) : 0 ≤ m.hold ∧ m.hold ≤ 100000 := by
  have := h.h0; have := h.h1; omega
end Go.Proofs.YtldimlnllmojiaaGreat
