/- The reference's Bounds and SameSpans. -/
import Derived.Test.YtpkmojcppdogkaaGreatDoorCw
import Derived.BigRegion
set_option linter.unusedVariables false
set_option linter.unusedSimpArgs false
namespace Go.Proofs.YtpkmojcppdogkaaGreatDoor
open Go.RowKit
open Go.Maps
set_option maxHeartbeats 4000000 in
set_option maxRecDepth 100000 in
theorem rBounds_any (m : Mp) (A : Option Addr) (c : Nat) (cs : List Sta) (w : World) (hs : Sane m cs) (hc : Stas w (.slice A cs.length c) cs) :
    Calls Tryz.prog 108 #[mpV m (.slice A cs.length c)] w fun e w' => ∃ g cap cur, e = .returned (.slice (some ⟨g, 0, none⟩) ((m.wd * m.rw).toNat) cap) ∧ w'.heap[g]? = some (.cells cur 41) ∧ RowS (rowP (spF m cs) ((m.wd * m.rw).toNat)) cur ∧ w.heap.size ≤ g ∧ ((m.wd * m.rw).toNat) ≤ cap ∧ cap ≤ maxLen ∧ Below w.heap.size w w' := by
  have HC0 := Lib.hid hc
  clear hc
  have ok := hs.ok
  have a1 := ok.a1; have a2 := ok.a2
  obtain ⟨N, hN⟩ : ∃ N : Nat, (m.wd * m.rw).toNat = N := ⟨_, rfl⟩
  have hN' : m.wd * m.rw = (N : Int) := by omega
  have hN2 : (N : Int) ≤ 30 := by omega
  have hN1 : 0 < N := by omega
  have e1 : IntKind.i64.wrap (m.wd * m.rw) = (N : Int) := by rw [hN']; exact IntWalk.i64_in _ (by omega)
  rw [hN]
  clear hN hN'
  obtain ⟨fS, hfS⟩ : ∃ fS : Nat → Sp, fS = spF m cs := ⟨_, rfl⟩
  have HFS := Lib.hid hfS
  rw [← hfS]
  clear hfS
  have HR := Lib.hid ((Frm.nil w).add (mpBox m (.slice A cs.length c)) rfl)
  have x0 := HR.out.cells (List.mem_cons_self ..)
  go_enter Tryz.func108, Tryz.ntmps108
  go_wp2_with fail
  go_loopw [3, 4] (fun v i wr => ∃ n E ec, n ≤ N ∧ i = .int .i64 (n : Int) ∧ v = .slice E n ec ∧ wr.ownsRow (w.heap.size + 1) 41 2 (.slice E n ec) n (spsL (rowP fS n)) ∧ Frm w [(w.heap.size, (mpBox m (.slice A cs.length c)))] wr) (fun _ i _ => N - (intOf i).toNat)
  case atStart => exact ⟨0, none, 0, Nat.zero_le _, rfl, rfl, World.ownsRow_nil .., HR.out⟩
  case round =>
    obtain ⟨n, E, ec, hn, rfl, rfl, hO, hF⟩ := hrel
    clear HR x0
    have HR := Lib.hid hF
    have HO := Lib.hid hO
    clear hF hO
    have x0 := HR.out.cells (List.mem_cons_self ..)
    by_cases hnl : n < N
    · have HSn := Lib.hid (show fS n = ⟨lowestF m.wd m.sl n cs, highestF m.wd m.sl n cs⟩ by rw [HFS.out]; rfl)
      have HB : Hid (∀ W, Stas W (.slice A cs.length c) cs → Calls Tryz.prog 72 #[mpV m (.slice A cs.length c), .int .i64 (n : Int)] W fun e w' => e = .returned (.agg #[.int .i64 (lowestF m.wd m.sl n cs), .int .i64 (highestF m.wd m.sl n cs)]) ∧ Below W.heap.size W w') := Lib.hid (fun W h => rBound_any m A c cs n W hs (by omega) (by omega) h)
      generalize lowestF m.wd m.sl n cs = lo at *
      generalize highestF m.wd m.sl n cs = hi at *
      go_wp2_with (first | (go_at_call 72; refine (HB.out _ (HC0.out.below (Frm.b (w := w) (bs := [(w.heap.size, (mpBox m (.slice A cs.length c)))]) (by (repeat (with_reducible first | exact HR.out | apply Frm.drew | apply Frm.alloc | apply Frm.drewN)))))).mono ?_; rintro e wa ⟨rfl, hba⟩; have HRq := Lib.hid (Frm.below (w := w) (bs := [(w.heap.size, (mpBox m (.slice A cs.length c)))]) (by (repeat (with_reducible first | exact HR.out | apply Frm.drew | apply Frm.alloc | apply Frm.drewN))) hba); have HOq := Lib.hid (own_below (by first | exact HO.out | exact own_drew HO.out) hba); clear HR HO; have HR := HRq; have HO := HOq; clear HRq HOq hba; have x0 := HR.out.cells (List.mem_cons_self ..)) | (at_builtin; go_must (refine app_span (base := w.heap.size + 1) (n := n) (zs := rowP fS n) (y := ⟨lo, hi⟩) (by rfl) _ _ (by rfl) (rowP_len _ _) ?_ (World.ownsRow.alloc HO.out _) ?_ (heap_new _ _ rfl) (by omega) ?_ ?_); rfl; rfl; (have := HR.out.lts _ (List.mem_cons_self ..); (try simp at this); simp <;> omega); intro g cap wb hO3 hg3 hat hlt; have HRq := Lib.hid (after_app (w := w) (bs := [(w.heap.size, (mpBox m (.slice A cs.length c)))]) (base := w.heap.size + 1) (by (repeat (with_reducible first | exact HR.out | apply Frm.drew | apply Frm.alloc | apply Frm.drewN))) (by omega) (by simp <;> omega) (fun k hk => (HO.out.lt k hk).1) hg3); have HOq := Lib.hid (show wb.ownsRow (w.heap.size + 1) 41 2 (.slice (some ⟨g, 0, none⟩) (n + 1) cap) (n + 1) (spsL (rowP fS (n + 1))) from by rw [rowP_succ, HSn.out]; exact hO3); clear HR HO x0; have HR := HRq; have HO := HOq; clear HRq HOq hO3 hg3 hat hlt; have x0 := HR.out.cells (List.mem_cons_self ..)))
      go_roundw
      case rel => exact ⟨n + 1, some ⟨g, 0, none⟩, cap, by omega, by go_num, rfl, HO.out, HR.out⟩
      case measure => simp [intOf]; omega
    · obtain rfl : n = N := by omega
      go_wp2_with fail
      obtain ⟨g, cur, rfl, hg, hrow, hbg, hc1, hc2⟩ := span_row HO.out (rowP_len _ _) (by omega)
      go_ret
      exact ⟨g, ec, cur, rfl, hg, hrow, by omega, hc1, hc2, HR.out.b⟩
theorem eqSpan (a b c d : Int) (W : World) : (Op.equal 41 (.agg #[.int .i64 a, .int .i64 b]) (.agg #[.int .i64 c, .int .i64 d])).run Tryz.prog W = .ok (decide ([a, b] = [c, d])) W :=
  GX.equal_pair (P := Tryz.prog) (kt := 41) Tryz.underlying41 (by kernel_rfl) (by decide) (by decide) rfl rfl (by kernel_rfl) (by kernel_rfl) a b c d W
end Go.Proofs.YtpkmojcppdogkaaGreatDoor
