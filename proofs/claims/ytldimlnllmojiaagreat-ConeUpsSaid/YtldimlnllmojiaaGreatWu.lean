/- Part of a claim on cone. -/
import Derived.Test.YtldimlnllmojiaaGreatWo
import Derived.Test.YtldimlnllmojiaaGreatWm
set_option linter.unusedVariables false
set_option linter.unusedSimpArgs false
namespace Go.Proofs.YtldimlnllmojiaaGreat
open Go.RowKit
open Go.Shelf
open Go.Maps
theorem rAlarm_is {m : Wn} {A1 A2 A3 : Option Addr} {rs : List Rep} {ls : List Lnk} {c1 c2 p3 c3 i k : Nat} {w : World} {v : Bool} (h1 : Reps w (.slice A1 rs.length c1) rs) (h2 : Lnks w (.slice A2 ls.length c2) ls) (hi : i < rs.length) (hk : k < rs.length) (hg : ∀ x ∈ rs, 0 ≤ x.tk ∧ x.tk ≤ 100000 ∧ 0 ≤ x.pr ∧ x.pr ≤ 99999) (hv : alF m ls rs i k = v) :
    Calls Tryz.prog 63 #[wtV m (.slice A1 rs.length c1) (.slice A2 ls.length c2) (.slice A3 p3 c3), .int .i64 i, .int .i64 k] w fun e w' => e = .returned (.bool v) ∧ Below w.heap.size w w' := by
  subst hv
  exact rAlarm_any m A1 A2 A3 rs ls c1 c2 p3 c3 i k w h1 h2 hi hk hg
def toI (l : List (Nat × Nat)) : List (Int × Int) := l.map fun p => ((p.1 : Int), (p.2 : Int))
def alT (m : Wn) (ls : List Lnk) (rs : List Rep) (p : Nat) : List (Int × Int) := toI ((pairsTo rs.length p).filter fun x => alF m ls rs x.1 x.2)
def alQ (m : Wn) (ls : List Lnk) (rs : List Rep) (p q : Nat) : List (Int × Int) := alT m ls rs p ++ toI ((rowP p q).filter fun x => alF m ls rs x.1 x.2)
def alI (m : Wn) (ls : List Lnk) (rs : List Rep) : List (Int × Int) := toI (alL m ls rs)
theorem toI_app (a b : List (Nat × Nat)) : toI (a ++ b) = toI a ++ toI b := by simp [toI]
theorem alT_next (m : Wn) (ls : List Lnk) (rs : List Rep) (p : Nat) : alT m ls rs (p + 1) = alQ m ls rs p rs.length := by
  unfold alT alQ alT
  rw [pairsTo_next, List.filter_append, toI_app]
theorem alQ_next {m : Wn} {ls : List Lnk} {rs : List Rep} {p q : Nat} (h : p < q) : alQ m ls rs p (q + 1) = alQ m ls rs p q ++ (if alF m ls rs p q then [((p : Int), (q : Int))] else []) := by
  unfold alQ
  rw [rowP_next h, List.filter_append, toI_app, List.append_assoc]
  congr 2
  cases ha : alF m ls rs p q <;> simp [toI, ha]
theorem alQ_first {m : Wn} {ls : List Lnk} {rs : List Rep} {p q : Nat} (h : q ≤ p + 1) : alQ m ls rs p q = alT m ls rs p := by
  unfold alQ
  rw [rowP_none h]
  simp [toI]
theorem rowP_len (i q : Nat) : (rowP i q).length ≤ q := by
  unfold rowP
  rw [List.length_map]
  exact Nat.le_trans (List.length_filter_le _ _) (by simp)
theorem pairsTo_len (n p : Nat) : (pairsTo n p).length ≤ p * n := by
  induction p with
  | zero => simp [pairsTo]
  | succ p ih =>
    rw [pairsTo_next, List.length_append]
    have := rowP_len p n
    rw [Nat.succ_mul]
    omega
theorem alT_len (m : Wn) (ls : List Lnk) (rs : List Rep) (p : Nat) : (alT m ls rs p).length ≤ p * rs.length := by
  unfold alT toI
  rw [List.length_map]
  exact Nat.le_trans (List.length_filter_le _ _) (pairsTo_len _ _)
theorem alQ_len (m : Wn) (ls : List Lnk) (rs : List Rep) (p q : Nat) : (alQ m ls rs p q).length ≤ p * rs.length + q := by
  unfold alQ
  rw [List.length_append]
  have h1 := alT_len m ls rs p
  have h2 : (toI ((rowP p q).filter fun x => alF m ls rs x.1 x.2)).length ≤ q := by
    unfold toI
    rw [List.length_map]
    exact Nat.le_trans (List.length_filter_le _ _) (rowP_len _ _)
  omega
set_option maxHeartbeats 4000000 in
set_option maxRecDepth 100000 in
theorem rAlarms_any (m : Wn) (A1 A2 A3 : Option Addr) (rs : List Rep) (ls : List Lnk) (c1 c2 p3 c3 : Nat) (w : World) (h1 : Reps w (.slice A1 rs.length c1) rs) (h2 : Lnks w (.slice A2 ls.length c2) ls) (hlen : rs.length ≤ 12) (hg : ∀ x ∈ rs, 0 ≤ x.tk ∧ x.tk ≤ 100000 ∧ 0 ≤ x.pr ∧ x.pr ≤ 99999) :
    Calls Tryz.prog 23 #[wtV m (.slice A1 rs.length c1) (.slice A2 ls.length c2) (.slice A3 p3 c3)] w fun e w' => ∃ A c, e = .returned (.slice A (alI m ls rs).length c) ∧ Sps w' (.slice A (alI m ls rs).length c) (alI m ls rs) ∧ (∀ b off, A = some ⟨b, off, none⟩ → w.heap.size ≤ b ∧ b < w'.heap.size) ∧ Below w.heap.size w w' := by
  have H1 := Lib.hid h1
  have H2 := Lib.hid h2
  have HG := Lib.hid hg
  clear h1 h2 hg
  have HR := Lib.hid ((Frm.nil w).add (.cells #[.int .i64 m.n, (.slice A1 rs.length c1), (.slice A2 ls.length c2), (.slice A3 p3 c3), .int .i64 m.fall, .int .i64 m.win, .int .i64 m.hold, .int .i64 m.dawn, .int .i64 m.dusk] 26) rfl)
  have x0 := HR.out.cells mZ
  go_enter Tryz.func23, Tryz.ntmps23
  go_wp2_with fail
  go_loopw [3, 4, 5] (fun s i _ wr => ∃ n : Nat, n ≤ rs.length ∧ i = .int .i64 n ∧ Frm w [(w.heap.size, (.cells #[.int .i64 m.n, (.slice A1 rs.length c1), (.slice A2 ls.length c2), (.slice A3 p3 c3), .int .i64 m.fall, .int .i64 m.win, .int .i64 m.hold, .int .i64 m.dawn, .int .i64 m.dusk] 26))] wr ∧ wr.ownsRow (w.heap.size + 1) 86 2 s (alT m ls rs n).length (spsC (alT m ls rs n))) (fun _ i _ _ => rs.length - (intOf i).toNat)
  case atStart => exact ⟨0, Nat.zero_le _, rfl, (by (repeat (with_reducible first | exact HR.out | apply Frm.drew | apply Frm.alloc | apply Frm.drewN))), World.ownsRow_nil ..⟩
  case round =>
    obtain ⟨n, hn, rfl, hF, hO⟩ := hrel
    clear HR x0
    have HR := Lib.hid hF
    have HO := Lib.hid hO
    have hol := hO.lt
    clear hF hO
    have x0 := HR.out.cells mZ
    have hsz := HR.out.lt mZ
    by_cases hnl : n < rs.length
    · go_wp2_with fail
      go_loopw [3, 5] (fun s k wr => ∃ q : Nat, n < q ∧ q ≤ rs.length ∧ k = .int .i64 q ∧ Frm w [(w.heap.size, (.cells #[.int .i64 m.n, (.slice A1 rs.length c1), (.slice A2 ls.length c2), (.slice A3 p3 c3), .int .i64 m.fall, .int .i64 m.win, .int .i64 m.hold, .int .i64 m.dawn, .int .i64 m.dusk] 26))] wr ∧ wr.ownsRow (w.heap.size + 1) 86 2 s ((alQ m ls rs n q)).length (spsC ((alQ m ls rs n q)))) (fun _ k _ => rs.length - (intOf k).toNat)
      case atStart => exact ⟨n + 1, by omega, by omega, by go_num, (by (repeat (with_reducible first | exact HR.out | apply Frm.drew | apply Frm.alloc | apply Frm.drewN))), by rw [alQ_first (Nat.le_refl _)]; exact HO.out.drew⟩
      case round =>
        obtain ⟨q, hq, hq2, rfl, hF, hO⟩ := hrel
        clear HR x0 HO hol hsz
        have HR := Lib.hid hF
        have HO := Lib.hid hO
        have hol := hO.lt
        clear hF hO
        have x0 := HR.out.cells mZ
        have hsz := HR.out.lt mZ
        have hll : (alQ m ls rs n q).length ≤ 1000 := by
          have h5 := alQ_len m ls rs n q
          have h6 := Nat.mul_le_mul (Nat.le_of_lt (Nat.lt_of_lt_of_le hnl hlen)) hlen
          omega
        by_cases hql : q < rs.length
        · cases hal : alF m ls rs n q
          · have HV := Lib.hid hal
            have HE : Hid (alQ m ls rs n (q + 1) = (alQ m ls rs n q)) := Lib.hid (by rw [alQ_next hq, hal]; simp)
            clear hal
            go_wp2_with (go_at_call 63; refine (rAlarm_is (Rws.below H1.out (Frm.b (w := w) (by (repeat (with_reducible first | exact HR.out | apply Frm.drew | apply Frm.alloc | apply Frm.drewN)))) (Nat.le_refl _)) (Rws.below H2.out (Frm.b (w := w) (by (repeat (with_reducible first | exact HR.out | apply Frm.drew | apply Frm.alloc | apply Frm.drewN)))) (Nat.le_refl _)) (by omega) (by omega) HG.out HV.out).mono ?_; rintro e wa ⟨rfl, hbq⟩; have HRq := Lib.hid (Frm.below (w := w) (by (repeat (with_reducible first | exact HR.out | apply Frm.drew | apply Frm.alloc | apply Frm.drewN))) hbq); have HOq := Lib.hid (own_below HO.out hbq); clear HR x0 HO; have HR := HRq; have HO := HOq; clear HRq HOq; have hsz2 := hbq.size; clear hbq; have x0 := HR.out.cells mZ)
            go_roundw
            case rel => exact ⟨q + 1, by omega, by omega, by go_num, HR.out, by rw [HE.out]; exact HO.out⟩
            case measure => simp [intOf]; omega
          · have HV := Lib.hid hal
            have HE : Hid (alQ m ls rs n (q + 1) = (alQ m ls rs n q) ++ [((n : Int), (q : Int))]) := Lib.hid (by rw [alQ_next hq, hal]; simp)
            clear hal
            go_wp2_with (first | (go_at_call 63; refine (rAlarm_is (Rws.below H1.out (Frm.b (w := w) (by (repeat (with_reducible first | exact HR.out | apply Frm.drew | apply Frm.alloc | apply Frm.drewN)))) (Nat.le_refl _)) (Rws.below H2.out (Frm.b (w := w) (by (repeat (with_reducible first | exact HR.out | apply Frm.drew | apply Frm.alloc | apply Frm.drewN)))) (Nat.le_refl _)) (by omega) (by omega) HG.out HV.out).mono ?_; rintro e wa ⟨rfl, hbq⟩; have HRq := Lib.hid (Frm.below (w := w) (by (repeat (with_reducible first | exact HR.out | apply Frm.drew | apply Frm.alloc | apply Frm.drewN))) hbq); have HOq := Lib.hid (own_below HO.out hbq); clear HR x0 HO; have HR := HRq; have HO := HOq; clear HRq HOq; have hsz2 := hbq.size; clear hbq; have x0 := HR.out.cells mZ) | (at_builtin; go_must (refine app_two (base := w.heap.size + 1) (n := (alQ m ls rs n q).length) (zs := (alQ m ls rs n q)) (y := ((n : Int), (q : Int))) Tryz.underlying31 Tryz.infoAlarm (by rfl) _ _ (by rfl) rfl ?_ (World.ownsRow.alloc HO.out _) ?_ (heap_new _ _ rfl) (by omega) ?_ ?_); rfl; rfl; (simp <;> omega); intro g cap wb hO3 hg3 hat hlt; have HRq := Lib.hid (Frm.grownR (w := w) (HR.out.alloc (.cells #[.int .i64 n, .int .i64 q] 86)) hg3 (fun k hk => by have := (hol k hk).1; omega) (fun p hp e => by have h9 := (hol _ e.symm).1; simp only [List.mem_cons, List.not_mem_nil, or_false] at hp; subst hp; simp only at h9; omega)); have HOq := Lib.hid hO3; clear HR x0 HO hO3; have HR := HRq; have HO := HOq; clear HRq HOq hg3; have x0 := HR.out.cells mZ))
            go_roundw
            case rel => exact ⟨q + 1, by omega, by omega, by go_num, HR.out, by rw [HE.out, List.length_append, List.length_singleton]; exact HO.out⟩
            case measure => simp [intOf]; omega
        · obtain rfl : q = rs.length := by omega
          have HE := Lib.hid (alT_next m ls rs n)
          go_wp2_with fail
          go_roundw
          case rel => exact ⟨n + 1, by omega, by go_num, HR.out, by rw [HE.out]; exact HO.out⟩
          case measure => simp [intOf]; omega
    · obtain rfl : n = rs.length := by omega
      obtain ⟨hS, hA⟩ := own_two HO.out rfl
      have hS0 := hS
      obtain ⟨A, c, hv, -⟩ := hS0
      subst hv
      have HS := Lib.hid hS
      have HA := Lib.hid hA
      clear hS hA
      go_wp2_with fail
      go_ret
      exact ⟨A, c, rfl, HS.out, fun b off e => ⟨by have := (HA.out A c _ rfl b off e).1; omega, (HA.out A c _ rfl b off e).2⟩, Frm.b (w := w) (by (repeat (with_reducible first | exact HR.out | apply Frm.drew | apply Frm.alloc | apply Frm.drewN)))⟩
end Go.Proofs.YtldimlnllmojiaaGreat
