/- Part of a claim on cone. -/
import Derived.Test.YtldimlnllmojiaaGreatXd
import Derived.Test.YtldimlnllmojiaaGreatXo
import Derived.Test.YtldimlnllmojiaaGreatVz
set_option linter.unusedVariables false
set_option linter.unusedSimpArgs false
namespace Go.Proofs.YtldimlnllmojiaaGreat
open Go.RowKit
open Go.Shelf
open Go.Maps
def surB (m : Wn) (x : Prt) (ss : List (Int × Int)) (llo lhi ahi : Int) : Bool := !((minsL llo lhi).any fun t => decide (farT m x t < ahi)) && allB ss (llo - x.ohi) (lhi - x.olo)
def wordP (m : Wn) (rs : List Rep) (ls : List Lnk) (x : Prt) (llo lhi alo ahi : Int) : Int :=
  if surB m x (siL m ls rs (hiD rs)) llo lhi ahi then 3 else if perB m x (siL m ls rs (loD rs)) llo lhi alo then 2 else 1
set_option maxHeartbeats 4000000 in
set_option maxRecDepth 100000 in
theorem word_any {m : Wn} {A1 A2 A3 : Option Addr} {rs : List Rep} {ls : List Lnk} {ps : List Prt} {c1 c2 c3 : Nat} {M N j : Nat} {x : Prt} {llo lhi alo ahi v : Int} {w : World} (h1 : Reps w (.slice A1 rs.length c1) rs) (h3 : Prts w (.slice A3 ps.length c3) ps) (hM : AlMapN N w M (fP m ls rs (pairsTo rs.length rs.length))) (hs : Sane m rs ls ps) (hx : ps[j]? = some x) (hlb : 0 ≤ llo ∧ llo ≤ 100000 ∧ 0 ≤ lhi ∧ lhi ≤ 100000) (hv : wordP m rs ls x llo lhi alo ahi = v) :
    Calls Tryz.prog 76 #[lookV m (.slice A1 rs.length c1) (.slice A2 ls.length c2) (.slice A3 ps.length c3) (.map (some M)), .int .i64 j, .agg #[.int .i64 llo, .int .i64 lhi, .int .i64 alo, .int .i64 ahi]] w fun e w' => e = .returned (.int .i64 v) ∧ Below w.heap.size w w' := by
  have HSN := Lib.hid hs
  have hrl := HSN.out.rl
  have hll := HSN.out.ll
  have hdd : 0 ≤ m.dusk ∧ m.dusk ≤ 1440 := by have := HSN.out.d0; have := HSN.out.d1; have := HSN.out.d2; omega
  have hho : 0 ≤ m.hold ∧ m.hold ≤ 100000 := by have := HSN.out.h0; have := HSN.out.h1; omega
  have hxp : 0 ≤ x.olo ∧ x.olo ≤ 100000 ∧ 0 ≤ x.ohi ∧ x.ohi ≤ 100000 := by have := HSN.out.prt x (List.mem_of_getElem? hx); omega
  have HX := Lib.hid hx
  have H1 := Lib.hid h1
  have H3 := Lib.hid h3
  have HM := Lib.hid hM
  have HLL := Lib.hid (siL_len m ls rs (loD rs) hrl)
  have HLH := Lib.hid (siL_len m ls rs (hiD rs) hrl)
  have HDB := Lib.hid (ends_bounds HSN.out)
  have HG1 : Hid (∀ x ∈ rs, 0 ≤ x.tk ∧ x.tk ≤ 100000) := Lib.hid fun x hx => by have := HSN.out.rep x hx; omega
  clear hs hx h1 h3 hM
  subst hv
  unfold wordP
  cases hsb : surB m x (siL m ls rs (hiD rs)) llo lhi ahi
  · have HSB := Lib.hid hsb
    unfold surB at HSB
    clear hsb
    cases hpb : perB m x (siL m ls rs (loD rs)) llo lhi alo
    · have HPB := Lib.hid hpb
      clear hpb
      simp only [Bool.false_eq_true, if_false]
      go_enter Tryz.func76, Tryz.ntmps76
      go_upto_region 1 with fail
      have HR := Lib.hid ((((Frm.nil w).add (lookBox m (.slice A1 rs.length c1) (.slice A2 ls.length c2) (.slice A3 ps.length c3) (.map (some M))) rfl).add (k := w.heap.size + 1) (.cells #[.int .i64 llo, .int .i64 lhi, .int .i64 alo, .int .i64 ahi] 63) (by simp)).less (bs' := [(w.heap.size + 1, (.cells #[.int .i64 llo, .int .i64 lhi, .int .i64 alo, .int .i64 ahi] 63)), (w.heap.size, (lookBox m (.slice A1 rs.length c1) (.slice A2 ls.length c2) (.slice A3 ps.length c3) (.map (some M))))]) (by simp))
      have x0 := HR.out.cells mZ
      have x1 := HR.out.cells (mS mZ)
      go_wp2_with (first | (go_at_call 67; refine (lknown_any m A1 A2 A3 rs ls c1 c2 ps.length c3 M N _ (Rws.below H1.out (Frm.b (w := w) (by (repeat (with_reducible first | exact HR.out | apply Frm.drew | apply Frm.alloc | apply Frm.drewN)))) (Nat.le_refl _)) (HM.out.below (Frm.b (w := w) (by (repeat (with_reducible first | exact HR.out | apply Frm.drew | apply Frm.alloc | apply Frm.drewN)))) HM.out.lt) (by omega) HG1.out hho HDB.out).mono ?_; rintro e wk ⟨v0, v1, rfl, ⟨A, c, rfl, hS, hA⟩, ⟨A', c', rfl, hS', hA'⟩, hbq⟩; have HS := Lib.hid hS; have HS' := Lib.hid hS'; have HA := Lib.hid (fun b off h => (hA b off h).2); have HA' := Lib.hid (fun b off h => (hA' b off h).2); clear hS hA hS' hA'; have HRq := Lib.hid (Frm.below (w := w) (by (repeat (with_reducible first | exact HR.out | apply Frm.drew | apply Frm.alloc | apply Frm.drewN))) hbq); clear HR x0 x1; have HR := HRq; clear HRq hbq; have x0 := HR.out.cells mZ; have x1 := HR.out.cells (mS mZ)) | (go_at_call 101; refine (surely_any (Rws.below H3.out (Frm.b (w := w) (by (repeat (with_reducible first | exact HR.out | apply Frm.drew | apply Frm.alloc | apply Frm.drewN)))) (Nat.le_refl _)) HX.out hdd hxp hlb HS'.out HLH.out HA'.out rfl rfl).mono ?_; rw [HSB.out]; rintro e ws ⟨rfl, hbq⟩; have HSq := Lib.hid (HS.out.below hbq (Nat.le_refl _)); have HAq := Lib.hid (fun b off h => Nat.lt_of_lt_of_le (HA.out b off h) hbq.size); clear HS HA; have HS := HSq; have HA := HAq; clear HSq HAq; have HRq := Lib.hid (Frm.below (w := w) (by (repeat (with_reducible first | exact HR.out | apply Frm.drew | apply Frm.alloc | apply Frm.drewN))) hbq); clear HR x0 x1; have HR := HRq; clear HRq hbq; have x0 := HR.out.cells mZ; have x1 := HR.out.cells (mS mZ)) | (go_at_call 102; refine (perhaps_any (Rws.below H3.out (Frm.b (w := w) (by (repeat (with_reducible first | exact HR.out | apply Frm.drew | apply Frm.alloc | apply Frm.drewN)))) (Nat.le_refl _)) HX.out hdd hxp hlb HS.out HLL.out HA.out).mono ?_; rw [HPB.out]; rintro e ws ⟨rfl, hbq⟩; have HRq := Lib.hid (Frm.below (w := w) (by (repeat (with_reducible first | exact HR.out | apply Frm.drew | apply Frm.alloc | apply Frm.drewN))) hbq); clear HR x0 x1; have HR := HRq; clear HRq hbq; have x0 := HR.out.cells mZ; have x1 := HR.out.cells (mS mZ)))
      all_goals exact bodyPost_ret (v := .int .i64 1) (by simp [results, Tryz.results76, go_sem]) rfl ⟨rfl, (Frm.b (w := w) (by (repeat (with_reducible first | exact HR.out | apply Frm.drew | apply Frm.alloc | apply Frm.drewN))))⟩
    · have HPB := Lib.hid hpb
      clear hpb
      simp only [Bool.false_eq_true, if_false, if_true]
      go_enter Tryz.func76, Tryz.ntmps76
      go_upto_region 1 with fail
      have HR := Lib.hid ((((Frm.nil w).add (lookBox m (.slice A1 rs.length c1) (.slice A2 ls.length c2) (.slice A3 ps.length c3) (.map (some M))) rfl).add (k := w.heap.size + 1) (.cells #[.int .i64 llo, .int .i64 lhi, .int .i64 alo, .int .i64 ahi] 63) (by simp)).less (bs' := [(w.heap.size + 1, (.cells #[.int .i64 llo, .int .i64 lhi, .int .i64 alo, .int .i64 ahi] 63)), (w.heap.size, (lookBox m (.slice A1 rs.length c1) (.slice A2 ls.length c2) (.slice A3 ps.length c3) (.map (some M))))]) (by simp))
      have x0 := HR.out.cells mZ
      have x1 := HR.out.cells (mS mZ)
      go_wp2_with (first | (go_at_call 67; refine (lknown_any m A1 A2 A3 rs ls c1 c2 ps.length c3 M N _ (Rws.below H1.out (Frm.b (w := w) (by (repeat (with_reducible first | exact HR.out | apply Frm.drew | apply Frm.alloc | apply Frm.drewN)))) (Nat.le_refl _)) (HM.out.below (Frm.b (w := w) (by (repeat (with_reducible first | exact HR.out | apply Frm.drew | apply Frm.alloc | apply Frm.drewN)))) HM.out.lt) (by omega) HG1.out hho HDB.out).mono ?_; rintro e wk ⟨v0, v1, rfl, ⟨A, c, rfl, hS, hA⟩, ⟨A', c', rfl, hS', hA'⟩, hbq⟩; have HS := Lib.hid hS; have HS' := Lib.hid hS'; have HA := Lib.hid (fun b off h => (hA b off h).2); have HA' := Lib.hid (fun b off h => (hA' b off h).2); clear hS hA hS' hA'; have HRq := Lib.hid (Frm.below (w := w) (by (repeat (with_reducible first | exact HR.out | apply Frm.drew | apply Frm.alloc | apply Frm.drewN))) hbq); clear HR x0 x1; have HR := HRq; clear HRq hbq; have x0 := HR.out.cells mZ; have x1 := HR.out.cells (mS mZ)) | (go_at_call 101; refine (surely_any (Rws.below H3.out (Frm.b (w := w) (by (repeat (with_reducible first | exact HR.out | apply Frm.drew | apply Frm.alloc | apply Frm.drewN)))) (Nat.le_refl _)) HX.out hdd hxp hlb HS'.out HLH.out HA'.out rfl rfl).mono ?_; rw [HSB.out]; rintro e ws ⟨rfl, hbq⟩; have HSq := Lib.hid (HS.out.below hbq (Nat.le_refl _)); have HAq := Lib.hid (fun b off h => Nat.lt_of_lt_of_le (HA.out b off h) hbq.size); clear HS HA; have HS := HSq; have HA := HAq; clear HSq HAq; have HRq := Lib.hid (Frm.below (w := w) (by (repeat (with_reducible first | exact HR.out | apply Frm.drew | apply Frm.alloc | apply Frm.drewN))) hbq); clear HR x0 x1; have HR := HRq; clear HRq hbq; have x0 := HR.out.cells mZ; have x1 := HR.out.cells (mS mZ)) | (go_at_call 102; refine (perhaps_any (Rws.below H3.out (Frm.b (w := w) (by (repeat (with_reducible first | exact HR.out | apply Frm.drew | apply Frm.alloc | apply Frm.drewN)))) (Nat.le_refl _)) HX.out hdd hxp hlb HS.out HLL.out HA.out).mono ?_; rw [HPB.out]; rintro e ws ⟨rfl, hbq⟩; have HRq := Lib.hid (Frm.below (w := w) (by (repeat (with_reducible first | exact HR.out | apply Frm.drew | apply Frm.alloc | apply Frm.drewN))) hbq); clear HR x0 x1; have HR := HRq; clear HRq hbq; have x0 := HR.out.cells mZ; have x1 := HR.out.cells (mS mZ)))
      all_goals exact bodyPost_ret (v := .int .i64 2) (by simp [results, Tryz.results76, go_sem]) rfl ⟨rfl, (Frm.b (w := w) (by (repeat (with_reducible first | exact HR.out | apply Frm.drew | apply Frm.alloc | apply Frm.drewN))))⟩
  · have HSB := Lib.hid hsb
    unfold surB at HSB
    clear hsb
    simp only [if_true]
    go_enter Tryz.func76, Tryz.ntmps76
    go_upto_region 1 with fail
    have HR := Lib.hid ((((Frm.nil w).add (lookBox m (.slice A1 rs.length c1) (.slice A2 ls.length c2) (.slice A3 ps.length c3) (.map (some M))) rfl).add (k := w.heap.size + 1) (.cells #[.int .i64 llo, .int .i64 lhi, .int .i64 alo, .int .i64 ahi] 63) (by simp)).less (bs' := [(w.heap.size + 1, (.cells #[.int .i64 llo, .int .i64 lhi, .int .i64 alo, .int .i64 ahi] 63)), (w.heap.size, (lookBox m (.slice A1 rs.length c1) (.slice A2 ls.length c2) (.slice A3 ps.length c3) (.map (some M))))]) (by simp))
    have x0 := HR.out.cells mZ
    have x1 := HR.out.cells (mS mZ)
    go_wp2_with (first | (go_at_call 67; refine (lknown_any m A1 A2 A3 rs ls c1 c2 ps.length c3 M N _ (Rws.below H1.out (Frm.b (w := w) (by (repeat (with_reducible first | exact HR.out | apply Frm.drew | apply Frm.alloc | apply Frm.drewN)))) (Nat.le_refl _)) (HM.out.below (Frm.b (w := w) (by (repeat (with_reducible first | exact HR.out | apply Frm.drew | apply Frm.alloc | apply Frm.drewN)))) HM.out.lt) (by omega) HG1.out hho HDB.out).mono ?_; rintro e wk ⟨v0, v1, rfl, ⟨A, c, rfl, hS, hA⟩, ⟨A', c', rfl, hS', hA'⟩, hbq⟩; have HS := Lib.hid hS; have HS' := Lib.hid hS'; have HA := Lib.hid (fun b off h => (hA b off h).2); have HA' := Lib.hid (fun b off h => (hA' b off h).2); clear hS hA hS' hA'; have HRq := Lib.hid (Frm.below (w := w) (by (repeat (with_reducible first | exact HR.out | apply Frm.drew | apply Frm.alloc | apply Frm.drewN))) hbq); clear HR x0 x1; have HR := HRq; clear HRq hbq; have x0 := HR.out.cells mZ; have x1 := HR.out.cells (mS mZ)) | (go_at_call 101; refine (surely_any (Rws.below H3.out (Frm.b (w := w) (by (repeat (with_reducible first | exact HR.out | apply Frm.drew | apply Frm.alloc | apply Frm.drewN)))) (Nat.le_refl _)) HX.out hdd hxp hlb HS'.out HLH.out HA'.out rfl rfl).mono ?_; rw [HSB.out]; rintro e ws ⟨rfl, hbq⟩; have HSq := Lib.hid (HS.out.below hbq (Nat.le_refl _)); have HAq := Lib.hid (fun b off h => Nat.lt_of_lt_of_le (HA.out b off h) hbq.size); clear HS HA; have HS := HSq; have HA := HAq; clear HSq HAq; have HRq := Lib.hid (Frm.below (w := w) (by (repeat (with_reducible first | exact HR.out | apply Frm.drew | apply Frm.alloc | apply Frm.drewN))) hbq); clear HR x0 x1; have HR := HRq; clear HRq hbq; have x0 := HR.out.cells mZ; have x1 := HR.out.cells (mS mZ)))
    all_goals exact bodyPost_ret (v := .int .i64 3) (by simp [results, Tryz.results76, go_sem]) rfl ⟨rfl, (Frm.b (w := w) (by (repeat (with_reducible first | exact HR.out | apply Frm.drew | apply Frm.alloc | apply Frm.drewN))))⟩
set_option maxHeartbeats 2000000 in
set_option maxRecDepth 100000 in
theorem soundBoat_is {llo lhi alo ahi : Int} {w : World} {v : Bool} (hv : boatB llo lhi alo ahi = v) :
    Calls Tryz.prog 75 #[.agg #[.int .i64 llo, .int .i64 lhi, .int .i64 alo, .int .i64 ahi]] w fun e w' => e = .returned (.bool v) ∧ Below w.heap.size w w' := by
  subst hv
  unfold boatB
  cases hs1 : spanB llo lhi 20000
  · have HS1 := Lib.hid hs1
    have HS2 := HS1
    have HNA := HS1
    simp only [Bool.false_and]
    go_enter Tryz.func75, Tryz.ntmps75
    have HR := Lib.hid ((Frm.nil w).add (.cells #[.int .i64 llo, .int .i64 lhi, .int .i64 alo, .int .i64 ahi] 63) rfl)
    have x0 := HR.out.cells mZ
    go_wp2_with (first | (go_at_call 99; refine (soundSpan_any _ _ _ _).mono ?_; rintro e wq ⟨rfl, rfl⟩; first | rw [HS1.out] | rw [HS2.out]) | (go_at_call 100; refine (narrow_any _ _ _ (by omega) (by omega) (by omega)).mono ?_; rintro e wq ⟨rfl, rfl⟩; rw [HNA.out]))
    all_goals exact bodyPost_ret (v := .bool false) (by simp [results, Tryz.results75, go_sem]) rfl ⟨rfl, (Frm.b (w := w) (by (repeat (with_reducible first | exact HR.out | apply Frm.drew | apply Frm.alloc | apply Frm.drewN))))⟩
  have HS1 := Lib.hid hs1
  have hb : 0 ≤ llo ∧ llo ≤ lhi ∧ lhi ≤ 20000 := by simpa [spanB, and_assoc] using hs1
  clear hs1
  cases hna : decide (lhi - llo ≤ 300)
  · have HNA := Lib.hid hna
    have HS2 := HS1
    clear hna
    simp only [Bool.true_and, Bool.false_and]
    go_enter Tryz.func75, Tryz.ntmps75
    have HR := Lib.hid ((Frm.nil w).add (.cells #[.int .i64 llo, .int .i64 lhi, .int .i64 alo, .int .i64 ahi] 63) rfl)
    have x0 := HR.out.cells mZ
    go_wp2_with (first | (go_at_call 99; refine (soundSpan_any _ _ _ _).mono ?_; rintro e wq ⟨rfl, rfl⟩; first | rw [HS1.out] | rw [HS2.out]) | (go_at_call 100; refine (narrow_any _ _ _ (by omega) (by omega) (by omega)).mono ?_; rintro e wq ⟨rfl, rfl⟩; rw [HNA.out]))
    all_goals exact bodyPost_ret (v := .bool false) (by simp [results, Tryz.results75, go_sem]) rfl ⟨rfl, (Frm.b (w := w) (by (repeat (with_reducible first | exact HR.out | apply Frm.drew | apply Frm.alloc | apply Frm.drewN))))⟩
  have HNA := Lib.hid hna
  clear hna
  cases hs2 : spanB alo ahi 50000
  · have HS2 := Lib.hid hs2
    clear hs2
    simp only [Bool.true_and]
    go_enter Tryz.func75, Tryz.ntmps75
    have HR := Lib.hid ((Frm.nil w).add (.cells #[.int .i64 llo, .int .i64 lhi, .int .i64 alo, .int .i64 ahi] 63) rfl)
    have x0 := HR.out.cells mZ
    go_wp2_with (first | (go_at_call 99; refine (soundSpan_any _ _ _ _).mono ?_; rintro e wq ⟨rfl, rfl⟩; first | rw [HS1.out] | rw [HS2.out]) | (go_at_call 100; refine (narrow_any _ _ _ (by omega) (by omega) (by omega)).mono ?_; rintro e wq ⟨rfl, rfl⟩; rw [HNA.out]))
    all_goals exact bodyPost_ret (v := .bool false) (by simp [results, Tryz.results75, go_sem]) rfl ⟨rfl, (Frm.b (w := w) (by (repeat (with_reducible first | exact HR.out | apply Frm.drew | apply Frm.alloc | apply Frm.drewN))))⟩
  have HS2 := Lib.hid hs2
  clear hs2
  simp only [Bool.true_and]
  go_enter Tryz.func75, Tryz.ntmps75
  have HR := Lib.hid ((Frm.nil w).add (.cells #[.int .i64 llo, .int .i64 lhi, .int .i64 alo, .int .i64 ahi] 63) rfl)
  have x0 := HR.out.cells mZ
  go_wp2_with (first | (go_at_call 99; refine (soundSpan_any _ _ _ _).mono ?_; rintro e wq ⟨rfl, rfl⟩; first | rw [HS1.out] | rw [HS2.out]) | (go_at_call 100; refine (narrow_any _ _ _ (by omega) (by omega) (by omega)).mono ?_; rintro e wq ⟨rfl, rfl⟩; rw [HNA.out]))
  all_goals exact bodyPost_ret (v := .bool true) (by simp [results, Tryz.results75, go_sem]) rfl ⟨rfl, (Frm.b (w := w) (by (repeat (with_reducible first | exact HR.out | apply Frm.drew | apply Frm.alloc | apply Frm.drewN))))⟩
def warnG (m : Wn) (rs : List Rep) (ls : List Lnk) (ps : List Prt) (port llo lhi alo ahi : Int) : Bool := watchB m rs ls ps && betw port 0 (ps.length - 1) && boatB llo lhi alo ahi
set_option maxHeartbeats 4000000 in
set_option maxRecDepth 100000 in
theorem warned_no {m : Wn} {A1 A2 A3 : Option Addr} {rs : List Rep} {ls : List Lnk} {ps : List Prt} {c1 c2 c3 : Nat} {port llo lhi alo ahi : Int} {w : World} (h1 : Reps w (.slice A1 rs.length c1) rs) (h2 : Lnks w (.slice A2 ls.length c2) ls) (h3 : Prts w (.slice A3 ps.length c3) ps) (hpl : ps.length ≤ 1000) (h : warnG m rs ls ps port llo lhi alo ahi = false) :
    Calls Tryz.prog 40 #[wtV m (.slice A1 rs.length c1) (.slice A2 ls.length c2) (.slice A3 ps.length c3), .int .i64 port, .agg #[.int .i64 llo, .int .i64 lhi, .int .i64 alo, .int .i64 ahi]] w fun e w' => e = .returned (.tuple #[.int .i64 0, .int .i64 2]) ∧ Below w.heap.size w w' := by
  have HG := Lib.hid h
  have H1 := Lib.hid h1
  have H2 := Lib.hid h2
  have H3 := Lib.hid h3
  clear h h1 h2 h3
  cases hsw : watchB m rs ls ps
  · go_enter Tryz.func40, Tryz.ntmps40
    go_upto_region 1 with fail
    have HR := Lib.hid ((((Frm.nil w).add (.cells #[.int .i64 m.n, (.slice A1 rs.length c1), (.slice A2 ls.length c2), (.slice A3 ps.length c3), .int .i64 m.fall, .int .i64 m.win, .int .i64 m.hold, .int .i64 m.dawn, .int .i64 m.dusk] 26) rfl).add (k := w.heap.size + 1) (.cells #[.int .i64 llo, .int .i64 lhi, .int .i64 alo, .int .i64 ahi] 63) (by simp)).less (bs' := [(w.heap.size + 1, (.cells #[.int .i64 llo, .int .i64 lhi, .int .i64 alo, .int .i64 ahi] 63)), (w.heap.size, (.cells #[.int .i64 m.n, (.slice A1 rs.length c1), (.slice A2 ls.length c2), (.slice A3 ps.length c3), .int .i64 m.fall, .int .i64 m.win, .int .i64 m.hold, .int .i64 m.dawn, .int .i64 m.dusk] 26))]) (by simp))
    have x0 := HR.out.cells mZ
    have x1 := HR.out.cells (mS mZ)
    go_wp2_with (first | (go_at_call 56; refine (soundWatch_is (Rws.below H1.out (Frm.b (w := w) (by (repeat (with_reducible first | exact HR.out | apply Frm.drew | apply Frm.alloc | apply Frm.drewN)))) (Nat.le_refl _)) (Rws.below H2.out (Frm.b (w := w) (by (repeat (with_reducible first | exact HR.out | apply Frm.drew | apply Frm.alloc | apply Frm.drewN)))) (Nat.le_refl _)) (Rws.below H3.out (Frm.b (w := w) (by (repeat (with_reducible first | exact HR.out | apply Frm.drew | apply Frm.alloc | apply Frm.drewN)))) (Nat.le_refl _)) hsw).mono ?_; rintro e wa ⟨rfl, hbq⟩; have HRq := Lib.hid (Frm.below (w := w) (by (repeat (with_reducible first | exact HR.out | apply Frm.drew | apply Frm.alloc | apply Frm.drewN))) hbq); clear HR x0 x1; have HR := HRq; clear HRq hbq; have x0 := HR.out.cells mZ; have x1 := HR.out.cells (mS mZ)) | (go_at_call 55; refine (refusal_any _ _).mono ?_; rintro e wb ⟨rfl, rfl⟩))
    all_goals exact bodyPost_ret (v := .tuple #[.int .i64 0, .int .i64 2]) (by simp [results, Tryz.results40, go_sem] <;> omega) rfl ⟨rfl, (Frm.b (w := w) (by (repeat (with_reducible first | exact HR.out | apply Frm.drew | apply Frm.alloc | apply Frm.drewN))))⟩
  cases hpo : betw port 0 (ps.length - 1)
  · have HPO := Lib.hid hpo
    clear hpo
    go_enter Tryz.func40, Tryz.ntmps40
    go_upto_region 1 with fail
    have HR := Lib.hid ((((Frm.nil w).add (.cells #[.int .i64 m.n, (.slice A1 rs.length c1), (.slice A2 ls.length c2), (.slice A3 ps.length c3), .int .i64 m.fall, .int .i64 m.win, .int .i64 m.hold, .int .i64 m.dawn, .int .i64 m.dusk] 26) rfl).add (k := w.heap.size + 1) (.cells #[.int .i64 llo, .int .i64 lhi, .int .i64 alo, .int .i64 ahi] 63) (by simp)).less (bs' := [(w.heap.size + 1, (.cells #[.int .i64 llo, .int .i64 lhi, .int .i64 alo, .int .i64 ahi] 63)), (w.heap.size, (.cells #[.int .i64 m.n, (.slice A1 rs.length c1), (.slice A2 ls.length c2), (.slice A3 ps.length c3), .int .i64 m.fall, .int .i64 m.win, .int .i64 m.hold, .int .i64 m.dawn, .int .i64 m.dusk] 26))]) (by simp))
    have x0 := HR.out.cells mZ
    have x1 := HR.out.cells (mS mZ)
    go_wp2_with (first | (go_at_call 56; refine (soundWatch_is (Rws.below H1.out (Frm.b (w := w) (by (repeat (with_reducible first | exact HR.out | apply Frm.drew | apply Frm.alloc | apply Frm.drewN)))) (Nat.le_refl _)) (Rws.below H2.out (Frm.b (w := w) (by (repeat (with_reducible first | exact HR.out | apply Frm.drew | apply Frm.alloc | apply Frm.drewN)))) (Nat.le_refl _)) (Rws.below H3.out (Frm.b (w := w) (by (repeat (with_reducible first | exact HR.out | apply Frm.drew | apply Frm.alloc | apply Frm.drewN)))) (Nat.le_refl _)) hsw).mono ?_; rintro e wa ⟨rfl, hbq⟩; have HRq := Lib.hid (Frm.below (w := w) (by (repeat (with_reducible first | exact HR.out | apply Frm.drew | apply Frm.alloc | apply Frm.drewN))) hbq); clear HR x0 x1; have HR := HRq; clear HRq hbq; have x0 := HR.out.cells mZ; have x1 := HR.out.cells (mS mZ)) | (go_at_call 70; refine (soundPort_is (by omega) HPO.out).mono ?_; rintro e wd ⟨rfl, hbq⟩; have HRq := Lib.hid (Frm.below (w := w) (by (repeat (with_reducible first | exact HR.out | apply Frm.drew | apply Frm.alloc | apply Frm.drewN))) hbq); clear HR x0 x1; have HR := HRq; clear HRq hbq; have x0 := HR.out.cells mZ; have x1 := HR.out.cells (mS mZ)) | (go_at_call 55; refine (refusal_any _ _).mono ?_; rintro e wb ⟨rfl, rfl⟩))
    all_goals exact bodyPost_ret (v := .tuple #[.int .i64 0, .int .i64 2]) (by simp [results, Tryz.results40, go_sem] <;> omega) rfl ⟨rfl, (Frm.b (w := w) (by (repeat (with_reducible first | exact HR.out | apply Frm.drew | apply Frm.alloc | apply Frm.drewN))))⟩
  have HPO := Lib.hid hpo
  cases hbt : boatB llo lhi alo ahi
  · have HBT := Lib.hid hbt
    clear hpo hbt
    go_enter Tryz.func40, Tryz.ntmps40
    go_upto_region 1 with fail
    have HR := Lib.hid ((((Frm.nil w).add (.cells #[.int .i64 m.n, (.slice A1 rs.length c1), (.slice A2 ls.length c2), (.slice A3 ps.length c3), .int .i64 m.fall, .int .i64 m.win, .int .i64 m.hold, .int .i64 m.dawn, .int .i64 m.dusk] 26) rfl).add (k := w.heap.size + 1) (.cells #[.int .i64 llo, .int .i64 lhi, .int .i64 alo, .int .i64 ahi] 63) (by simp)).less (bs' := [(w.heap.size + 1, (.cells #[.int .i64 llo, .int .i64 lhi, .int .i64 alo, .int .i64 ahi] 63)), (w.heap.size, (.cells #[.int .i64 m.n, (.slice A1 rs.length c1), (.slice A2 ls.length c2), (.slice A3 ps.length c3), .int .i64 m.fall, .int .i64 m.win, .int .i64 m.hold, .int .i64 m.dawn, .int .i64 m.dusk] 26))]) (by simp))
    have x0 := HR.out.cells mZ
    have x1 := HR.out.cells (mS mZ)
    go_wp2_with (first | (go_at_call 56; refine (soundWatch_is (Rws.below H1.out (Frm.b (w := w) (by (repeat (with_reducible first | exact HR.out | apply Frm.drew | apply Frm.alloc | apply Frm.drewN)))) (Nat.le_refl _)) (Rws.below H2.out (Frm.b (w := w) (by (repeat (with_reducible first | exact HR.out | apply Frm.drew | apply Frm.alloc | apply Frm.drewN)))) (Nat.le_refl _)) (Rws.below H3.out (Frm.b (w := w) (by (repeat (with_reducible first | exact HR.out | apply Frm.drew | apply Frm.alloc | apply Frm.drewN)))) (Nat.le_refl _)) hsw).mono ?_; rintro e wa ⟨rfl, hbq⟩; have HRq := Lib.hid (Frm.below (w := w) (by (repeat (with_reducible first | exact HR.out | apply Frm.drew | apply Frm.alloc | apply Frm.drewN))) hbq); clear HR x0 x1; have HR := HRq; clear HRq hbq; have x0 := HR.out.cells mZ; have x1 := HR.out.cells (mS mZ)) | (go_at_call 70; refine (soundPort_is (by omega) HPO.out).mono ?_; rintro e wd ⟨rfl, hbq⟩; have HRq := Lib.hid (Frm.below (w := w) (by (repeat (with_reducible first | exact HR.out | apply Frm.drew | apply Frm.alloc | apply Frm.drewN))) hbq); clear HR x0 x1; have HR := HRq; clear HRq hbq; have x0 := HR.out.cells mZ; have x1 := HR.out.cells (mS mZ)) | (go_at_call 75; refine (soundBoat_is HBT.out).mono ?_; rintro e wd ⟨rfl, hbq⟩; have HRq := Lib.hid (Frm.below (w := w) (by (repeat (with_reducible first | exact HR.out | apply Frm.drew | apply Frm.alloc | apply Frm.drewN))) hbq); clear HR x0 x1; have HR := HRq; clear HRq hbq; have x0 := HR.out.cells mZ; have x1 := HR.out.cells (mS mZ)) | (go_at_call 55; refine (refusal_any _ _).mono ?_; rintro e wb ⟨rfl, rfl⟩))
    all_goals exact bodyPost_ret (v := .tuple #[.int .i64 0, .int .i64 2]) (by simp [results, Tryz.results40, go_sem] <;> omega) rfl ⟨rfl, (Frm.b (w := w) (by (repeat (with_reducible first | exact HR.out | apply Frm.drew | apply Frm.alloc | apply Frm.drewN))))⟩
  have hg := HG.out
  unfold warnG at hg
  rw [hsw, hpo, hbt] at hg
  cases hg
set_option maxHeartbeats 4000000 in
set_option maxRecDepth 100000 in
theorem warned_yes {m : Wn} {A1 A2 A3 : Option Addr} {rs : List Rep} {ls : List Lnk} {ps : List Prt} {c1 c2 c3 : Nat} {j : Nat} {x : Prt} {llo lhi alo ahi v : Int} {w : World} (h1 : Reps w (.slice A1 rs.length c1) rs) (h2 : Lnks w (.slice A2 ls.length c2) ls) (h3 : Prts w (.slice A3 ps.length c3) ps) (hsw : watchB m rs ls ps = true) (hx : ps[j]? = some x) (hbt : boatB llo lhi alo ahi = true) (hv : wordP m rs ls x llo lhi alo ahi = v) :
    Calls Tryz.prog 40 #[wtV m (.slice A1 rs.length c1) (.slice A2 ls.length c2) (.slice A3 ps.length c3), .int .i64 j, .agg #[.int .i64 llo, .int .i64 lhi, .int .i64 alo, .int .i64 ahi]] w fun e w' => e = .returned (.tuple #[.int .i64 v, .int .i64 0]) ∧ Below w.heap.size w w' := by
  have HSN := Lib.hid (sane_of hsw)
  have hrl := HSN.out.rl
  have hll := HSN.out.ll
  have hpl := HSN.out.pl
  have hjl : j < ps.length := (List.getElem?_eq_some_iff.1 hx).1
  have hlb : 0 ≤ llo ∧ llo ≤ 100000 ∧ 0 ≤ lhi ∧ lhi ≤ 100000 := by have := boat_bounds hbt; omega
  have HPO : Hid (betw (j : Int) 0 (ps.length - 1) = true) := Lib.hid (betw_1 (by omega) (by omega))
  have HX := Lib.hid hx
  have HBT := Lib.hid hbt
  have HV := Lib.hid hv
  have HG2 : Hid (∀ x ∈ rs, 0 ≤ x.tk ∧ x.tk ≤ 100000 ∧ 0 ≤ x.pr ∧ x.pr ≤ 99999) := Lib.hid fun x hx => by have := HSN.out.rep x hx; omega
  have H1 := Lib.hid h1
  have H2 := Lib.hid h2
  have H3 := Lib.hid h3
  clear hx hbt hv h1 h2 h3
  go_enter Tryz.func40, Tryz.ntmps40
  go_upto_region 1 with fail
  have HR := Lib.hid ((((Frm.nil w).add (.cells #[.int .i64 m.n, (.slice A1 rs.length c1), (.slice A2 ls.length c2), (.slice A3 ps.length c3), .int .i64 m.fall, .int .i64 m.win, .int .i64 m.hold, .int .i64 m.dawn, .int .i64 m.dusk] 26) rfl).add (k := w.heap.size + 1) (.cells #[.int .i64 llo, .int .i64 lhi, .int .i64 alo, .int .i64 ahi] 63) (by simp)).less (bs' := [(w.heap.size + 1, (.cells #[.int .i64 llo, .int .i64 lhi, .int .i64 alo, .int .i64 ahi] 63)), (w.heap.size, (.cells #[.int .i64 m.n, (.slice A1 rs.length c1), (.slice A2 ls.length c2), (.slice A3 ps.length c3), .int .i64 m.fall, .int .i64 m.win, .int .i64 m.hold, .int .i64 m.dawn, .int .i64 m.dusk] 26))]) (by simp))
  have x0 := HR.out.cells mZ
  have x1 := HR.out.cells (mS mZ)
  go_upto_region 4 with (first | (go_at_call 56; refine (soundWatch_is (Rws.below H1.out (Frm.b (w := w) (by (repeat (with_reducible first | exact HR.out | apply Frm.drew | apply Frm.alloc | apply Frm.drewN)))) (Nat.le_refl _)) (Rws.below H2.out (Frm.b (w := w) (by (repeat (with_reducible first | exact HR.out | apply Frm.drew | apply Frm.alloc | apply Frm.drewN)))) (Nat.le_refl _)) (Rws.below H3.out (Frm.b (w := w) (by (repeat (with_reducible first | exact HR.out | apply Frm.drew | apply Frm.alloc | apply Frm.drewN)))) (Nat.le_refl _)) hsw).mono ?_; rintro e wa ⟨rfl, hbq⟩; have HRq := Lib.hid (Frm.below (w := w) (by (repeat (with_reducible first | exact HR.out | apply Frm.drew | apply Frm.alloc | apply Frm.drewN))) hbq); clear HR x0 x1; have HR := HRq; clear HRq hbq; have x0 := HR.out.cells mZ; have x1 := HR.out.cells (mS mZ)) | (go_at_call 70; refine (soundPort_is (by omega) HPO.out).mono ?_; rintro e wd ⟨rfl, hbq⟩; have HRq := Lib.hid (Frm.below (w := w) (by (repeat (with_reducible first | exact HR.out | apply Frm.drew | apply Frm.alloc | apply Frm.drewN))) hbq); clear HR x0 x1; have HR := HRq; clear HRq hbq; have x0 := HR.out.cells mZ; have x1 := HR.out.cells (mS mZ)) | (go_at_call 75; refine (soundBoat_is HBT.out).mono ?_; rintro e wd ⟨rfl, hbq⟩; have HRq := Lib.hid (Frm.below (w := w) (by (repeat (with_reducible first | exact HR.out | apply Frm.drew | apply Frm.alloc | apply Frm.drewN))) hbq); clear HR x0 x1; have HR := HRq; clear HRq hbq; have x0 := HR.out.cells mZ; have x1 := HR.out.cells (mS mZ)) | (go_at_call 55; refine (refusal_any _ _).mono ?_; rintro e wb ⟨rfl, rfl⟩))
  go_region_held3 (fun w' => (∀ o, w'.cell? ⟨w.heap.size + 1, o, none⟩ = #[Value.int .i64 llo, .int .i64 lhi, .int .i64 alo, .int .i64 ahi][o]?) ∧ (∀ o, w'.cell? ⟨w.heap.size, o, none⟩ = #[Value.int .i64 m.n, (.slice A1 rs.length c1), (.slice A2 ls.length c2), (.slice A3 ps.length c3), .int .i64 m.fall, .int .i64 m.win, .int .i64 m.hold, .int .i64 m.dawn, .int .i64 m.dusk][o]?)) ((exact (fun hF : Frm w [(w.heap.size + 1, (.cells #[.int .i64 llo, .int .i64 lhi, .int .i64 alo, .int .i64 ahi] 63)), (w.heap.size, (.cells #[.int .i64 m.n, (.slice A1 rs.length c1), (.slice A2 ls.length c2), (.slice A3 ps.length c3), .int .i64 m.fall, .int .i64 m.win, .int .i64 m.hold, .int .i64 m.dawn, .int .i64 m.dusk] 26))] _ => ⟨hF.cells mZ, hF.cells (mS mZ)⟩) (by (repeat (with_reducible first | exact HR.out | apply Frm.drew | apply Frm.alloc | apply Frm.drewN))))) (first | (go_at_call 58; refine (look_any m A1 A2 rs ls c1 c2 A3 ps.length c3 _ (Rws.below H1.out (Frm.b (w := w) (by (repeat (with_reducible first | exact HR.out | apply Frm.drew | apply Frm.alloc | apply Frm.drewN)))) (Nat.le_refl _)) (Rws.below H2.out (Frm.b (w := w) (by (repeat (with_reducible first | exact HR.out | apply Frm.drew | apply Frm.alloc | apply Frm.drewN)))) (Nat.le_refl _)) (by omega) (by omega) HG2.out).mono ?_; rintro e wl ⟨M, rfl, hMs, ⟨N, hMM⟩, hbq⟩; have HMM := Lib.hid hMM; clear hMM hMs; have HRq := Lib.hid (Frm.below (w := w) (by (repeat (with_reducible first | exact HR.out | apply Frm.drew | apply Frm.alloc | apply Frm.drewN))) hbq); clear HR x0 x1; have HR := HRq; clear HRq hbq; have x0 := HR.out.cells mZ; have x1 := HR.out.cells (mS mZ)) | (go_at_call 76; refine (word_any (Rws.below H1.out (Frm.b (w := w) (by (repeat (with_reducible first | exact HR.out | apply Frm.drew | apply Frm.alloc | apply Frm.drewN)))) (Nat.le_refl _)) (Rws.below H3.out (Frm.b (w := w) (by (repeat (with_reducible first | exact HR.out | apply Frm.drew | apply Frm.alloc | apply Frm.drewN)))) (Nat.le_refl _)) HMM.out HSN.out HX.out hlb HV.out).mono ?_; rintro e wd ⟨rfl, hbq⟩; have HRq := Lib.hid (Frm.below (w := w) (by (repeat (with_reducible first | exact HR.out | apply Frm.drew | apply Frm.alloc | apply Frm.drewN))) hbq); clear HR x0 x1; have HR := HRq; clear HRq hbq; have x0 := HR.out.cells mZ; have x1 := HR.out.cells (mS mZ)))
  all_goals
    go_wp2_with fail
    exact bodyPost_ret (v := .tuple #[.int .i64 v, .int .i64 0]) (by simp [results, Tryz.results40, go_sem]) rfl ⟨rfl, (Frm.b (w := w) (by (repeat (with_reducible first | exact HR.out | apply Frm.drew | apply Frm.alloc | apply Frm.drewN))))⟩
theorem alongside_any (n : Int) (w : World) :
    Calls Tryz.prog 68 #[.int .i64 n] w fun e w' => e = .returned (.agg #[.int .i64 n, .int .i64 n, .int .i64 0, .int .i64 0]) ∧ Below w.heap.size w w' := by
  go_enter Tryz.func68, Tryz.ntmps68
  go_wp2_with fail
  exact bodyPost_ret (v := .agg #[.int .i64 n, .int .i64 n, .int .i64 0, .int .i64 0]) (by simp [results, Tryz.results68, go_sem]) rfl ⟨rfl, by first | exact Below.refl _ _ | exact (Below.refl _ w).alloc (Nat.le_refl _) _⟩
set_option maxHeartbeats 2000000 in
set_option maxRecDepth 100000 in
theorem up_no {m : Wn} {A1 A2 A3 : Option Addr} {rs : List Rep} {ls : List Lnk} {ps : List Prt} {c1 c2 c3 : Nat} {port n : Int} {w : World} (h1 : Reps w (.slice A1 rs.length c1) rs) (h2 : Lnks w (.slice A2 ls.length c2) ls) (h3 : Prts w (.slice A3 ps.length c3) ps) (hpl : ps.length ≤ 1000) (h : warnG m rs ls ps port n n 0 0 = false) :
    Calls Tryz.prog 33 #[wtV m (.slice A1 rs.length c1) (.slice A2 ls.length c2) (.slice A3 ps.length c3), .int .i64 port, .int .i64 n] w fun e w' => e = .returned (.tuple #[.int .i64 0, .int .i64 2]) ∧ Below w.heap.size w w' := by
  have HG := Lib.hid h
  clear h
  have H1 := Lib.hid h1
  have H2 := Lib.hid h2
  have H3 := Lib.hid h3
  clear h1 h2 h3
  have HR := Lib.hid ((Frm.nil w).add (.cells #[.int .i64 m.n, (.slice A1 rs.length c1), (.slice A2 ls.length c2), (.slice A3 ps.length c3), .int .i64 m.fall, .int .i64 m.win, .int .i64 m.hold, .int .i64 m.dawn, .int .i64 m.dusk] 26) rfl)
  have x0 := HR.out.cells mZ
  go_enter Tryz.func33, Tryz.ntmps33
  go_upto_region 1 with fail
  go_region_held3 (fun w' => (∀ o, w'.cell? ⟨w.heap.size, o, none⟩ = #[Value.int .i64 m.n, (.slice A1 rs.length c1), (.slice A2 ls.length c2), (.slice A3 ps.length c3), .int .i64 m.fall, .int .i64 m.win, .int .i64 m.hold, .int .i64 m.dawn, .int .i64 m.dusk][o]?)) ((exact (fun hF : Frm w [(w.heap.size, (.cells #[.int .i64 m.n, (.slice A1 rs.length c1), (.slice A2 ls.length c2), (.slice A3 ps.length c3), .int .i64 m.fall, .int .i64 m.win, .int .i64 m.hold, .int .i64 m.dawn, .int .i64 m.dusk] 26))] _ => hF.cells mZ) (by (repeat (with_reducible first | exact HR.out | apply Frm.drew | apply Frm.alloc | apply Frm.drewN))))) (first | (go_at_call 68; refine (alongside_any _ _).mono ?_; rintro e wa ⟨rfl, hbq⟩; have HRq := Lib.hid (Frm.below (w := w) (by (repeat (with_reducible first | exact HR.out | apply Frm.drew | apply Frm.alloc | apply Frm.drewN))) hbq); clear HR x0; have HR := HRq; clear HRq hbq; have x0 := HR.out.cells mZ) | (go_at_call 40; refine (warned_no (Rws.below H1.out (Frm.b (w := w) (by (repeat (with_reducible first | exact HR.out | apply Frm.drew | apply Frm.alloc | apply Frm.drewN)))) (Nat.le_refl _)) (Rws.below H2.out (Frm.b (w := w) (by (repeat (with_reducible first | exact HR.out | apply Frm.drew | apply Frm.alloc | apply Frm.drewN)))) (Nat.le_refl _)) (Rws.below H3.out (Frm.b (w := w) (by (repeat (with_reducible first | exact HR.out | apply Frm.drew | apply Frm.alloc | apply Frm.drewN)))) (Nat.le_refl _)) hpl HG.out).mono ?_; rintro e wa ⟨rfl, hbq⟩; have HRq := Lib.hid (Frm.below (w := w) (by (repeat (with_reducible first | exact HR.out | apply Frm.drew | apply Frm.alloc | apply Frm.drewN))) hbq); clear HR x0; have HR := HRq; clear HRq hbq; have x0 := HR.out.cells mZ))
  all_goals
    go_wp2_with fail
    exact bodyPost_ret (v := .tuple #[.int .i64 0, .int .i64 2]) (by simp [results, Tryz.results33, go_sem]) rfl ⟨rfl, (Frm.b (w := w) (by (repeat (with_reducible first | exact HR.out | apply Frm.drew | apply Frm.alloc | apply Frm.drewN))))⟩
set_option maxHeartbeats 2000000 in
set_option maxRecDepth 100000 in
theorem up_yes {m : Wn} {A1 A2 A3 : Option Addr} {rs : List Rep} {ls : List Lnk} {ps : List Prt} {c1 c2 c3 : Nat} {j : Nat} {x : Prt} {n v : Int} {w : World} (h1 : Reps w (.slice A1 rs.length c1) rs) (h2 : Lnks w (.slice A2 ls.length c2) ls) (h3 : Prts w (.slice A3 ps.length c3) ps) (hsw : watchB m rs ls ps = true) (hx : ps[j]? = some x) (hbt : boatB n n 0 0 = true) (hv : wordP m rs ls x n n 0 0 = v) :
    Calls Tryz.prog 33 #[wtV m (.slice A1 rs.length c1) (.slice A2 ls.length c2) (.slice A3 ps.length c3), .int .i64 j, .int .i64 n] w fun e w' => e = .returned (.tuple #[.int .i64 v, .int .i64 0]) ∧ Below w.heap.size w w' := by
  have HX := Lib.hid hx
  have HBT := Lib.hid hbt
  have HV := Lib.hid hv
  clear hx hbt hv
  have H1 := Lib.hid h1
  have H2 := Lib.hid h2
  have H3 := Lib.hid h3
  clear h1 h2 h3
  have HR := Lib.hid ((Frm.nil w).add (.cells #[.int .i64 m.n, (.slice A1 rs.length c1), (.slice A2 ls.length c2), (.slice A3 ps.length c3), .int .i64 m.fall, .int .i64 m.win, .int .i64 m.hold, .int .i64 m.dawn, .int .i64 m.dusk] 26) rfl)
  have x0 := HR.out.cells mZ
  go_enter Tryz.func33, Tryz.ntmps33
  go_upto_region 1 with fail
  go_region_held3 (fun w' => (∀ o, w'.cell? ⟨w.heap.size, o, none⟩ = #[Value.int .i64 m.n, (.slice A1 rs.length c1), (.slice A2 ls.length c2), (.slice A3 ps.length c3), .int .i64 m.fall, .int .i64 m.win, .int .i64 m.hold, .int .i64 m.dawn, .int .i64 m.dusk][o]?)) ((exact (fun hF : Frm w [(w.heap.size, (.cells #[.int .i64 m.n, (.slice A1 rs.length c1), (.slice A2 ls.length c2), (.slice A3 ps.length c3), .int .i64 m.fall, .int .i64 m.win, .int .i64 m.hold, .int .i64 m.dawn, .int .i64 m.dusk] 26))] _ => hF.cells mZ) (by (repeat (with_reducible first | exact HR.out | apply Frm.drew | apply Frm.alloc | apply Frm.drewN))))) (first | (go_at_call 68; refine (alongside_any _ _).mono ?_; rintro e wa ⟨rfl, hbq⟩; have HRq := Lib.hid (Frm.below (w := w) (by (repeat (with_reducible first | exact HR.out | apply Frm.drew | apply Frm.alloc | apply Frm.drewN))) hbq); clear HR x0; have HR := HRq; clear HRq hbq; have x0 := HR.out.cells mZ) | (go_at_call 40; refine (warned_yes (Rws.below H1.out (Frm.b (w := w) (by (repeat (with_reducible first | exact HR.out | apply Frm.drew | apply Frm.alloc | apply Frm.drewN)))) (Nat.le_refl _)) (Rws.below H2.out (Frm.b (w := w) (by (repeat (with_reducible first | exact HR.out | apply Frm.drew | apply Frm.alloc | apply Frm.drewN)))) (Nat.le_refl _)) (Rws.below H3.out (Frm.b (w := w) (by (repeat (with_reducible first | exact HR.out | apply Frm.drew | apply Frm.alloc | apply Frm.drewN)))) (Nat.le_refl _)) hsw HX.out HBT.out HV.out).mono ?_; rintro e wa ⟨rfl, hbq⟩; have HRq := Lib.hid (Frm.below (w := w) (by (repeat (with_reducible first | exact HR.out | apply Frm.drew | apply Frm.alloc | apply Frm.drewN))) hbq); clear HR x0; have HR := HRq; clear HRq hbq; have x0 := HR.out.cells mZ))
  all_goals
    go_wp2_with fail
    exact bodyPost_ret (v := .tuple #[.int .i64 v, .int .i64 0]) (by simp [results, Tryz.results33, go_sem]) rfl ⟨rfl, (Frm.b (w := w) (by (repeat (with_reducible first | exact HR.out | apply Frm.drew | apply Frm.alloc | apply Frm.drewN))))⟩
end Go.Proofs.YtldimlnllmojiaaGreat
