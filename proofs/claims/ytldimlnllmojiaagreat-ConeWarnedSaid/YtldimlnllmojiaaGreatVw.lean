/- Part of a claim on cone. -/
import Derived.Test.YtldimlnllmojiaaGreatVu
set_option linter.unusedVariables false
set_option linter.unusedSimpArgs false
namespace Go.Proofs.YtldimlnllmojiaaGreat
open Go.RowKit
open Go.Shelf
open Go.Maps
set_option maxHeartbeats 4000000 in
set_option maxRecDepth 100000 in
theorem rDelays_any (m : Wn) (A1 A2 A3 : Option Addr) (rs : List Rep) (ls : List Lnk) (c1 c2 p3 c3 : Nat) (E : Option Addr) (ec : Nat) (zs : List Int) (w : World) (h1 : Reps w (.slice A1 rs.length c1) rs) (hz : Ints w (.slice E zs.length ec) zs) (hlen : rs.length ≤ 1000) (hzl : zs.length ≤ 1000) :
    Calls Tryz.prog 25 #[wtV m (.slice A1 rs.length c1) (.slice A2 ls.length c2) (.slice A3 p3 c3), (.slice E zs.length ec)] w fun e w' => e = .returned (.bool (delB rs zs)) ∧ Below w.heap.size w w' := by
  have HC := Lib.hid h1
  have HZ := Lib.hid hz
  clear h1 hz
  have HR := Lib.hid ((Frm.nil w).add (.cells #[.int .i64 m.n, (.slice A1 rs.length c1), (.slice A2 ls.length c2), (.slice A3 p3 c3), .int .i64 m.fall, .int .i64 m.win, .int .i64 m.hold, .int .i64 m.dawn, .int .i64 m.dusk] 26) rfl)
  have x0 := HR.out.cells mZ
  go_enter Tryz.func25, Tryz.ntmps25
  go_wp2_with fail
  go_loopw [5] (fun i wr => ∃ n : Nat, n ≤ rs.length ∧ n ≤ zs.length ∧ i = .int .i64 n ∧ (∀ j, j < n → (repAt rs j).dlo ≤ ev zs j ∧ ev zs j ≤ (repAt rs j).dhi) ∧ Frm w [(w.heap.size, (.cells #[.int .i64 m.n, (.slice A1 rs.length c1), (.slice A2 ls.length c2), (.slice A3 p3 c3), .int .i64 m.fall, .int .i64 m.win, .int .i64 m.hold, .int .i64 m.dawn, .int .i64 m.dusk] 26))] wr) (fun i _ => rs.length - (intOf i).toNat)
  case atStart => exact ⟨0, Nat.zero_le _, Nat.zero_le _, rfl, fun j h => absurd h (Nat.not_lt_zero _), (by (repeat (with_reducible first | exact HR.out | apply Frm.drew | apply Frm.alloc | apply Frm.drewN)))⟩
  case round =>
    obtain ⟨n, hn, hnz, rfl, hall, hF⟩ := hrel
    clear HR x0
    have HR := Lib.hid hF
    have HA := Lib.hid hall
    clear hF hall
    have x0 := HR.out.cells mZ
    by_cases hl1 : n < zs.length
    · by_cases hl2 : n < rs.length
      · obtain ⟨x, hx⟩ : ∃ x, rs[n]? = some x := ⟨_, List.getElem?_eq_getElem hl2⟩
        have HX := Lib.hid (repAt_some hx)
        obtain ⟨b, off, hA, hcap, hmx, -⟩ := rep_cells (Rws.below HC.out HR.out.b (Nat.le_refl _)) hx
        obtain ⟨zb, zo, hE, hzc, hzm, -⟩ := ints_cells (HZ.out.below HR.out.b) (ev_some hl1)
        unfold maxLen at hmx hzm
        subst hA hE
        have HSS : Hid (∀ w', Frm w [(w.heap.size, (.cells #[.int .i64 m.n, (.slice (some ⟨b, off, none⟩) rs.length c1), (.slice A2 ls.length c2), (.slice A3 p3 c3), .int .i64 m.fall, .int .i64 m.win, .int .i64 m.hold, .int .i64 m.dawn, .int .i64 m.dusk] 26))] w' → ∀ z, ev zs n = z → ((∀ o, w'.cell? ⟨w.heap.size, o, none⟩ = #[Value.int .i64 m.n, (.slice (some ⟨b, off, none⟩) rs.length c1), (.slice A2 ls.length c2), (.slice A3 p3 c3), .int .i64 m.fall, .int .i64 m.win, .int .i64 m.hold, .int .i64 m.dawn, .int .i64 m.dusk][o]?) ∧ w'.cell? ⟨zb, zo + n, none⟩ = some (.int .i64 z) ∧ w'.cell? ⟨b, off + n * 7 + 3, none⟩ = some (.int .i64 x.dlo) ∧ w'.cell? ⟨b, off + n * 7 + 4, none⟩ = some (.int .i64 x.dhi))) := Lib.hid fun w' hF z hz => by
          obtain ⟨b', off', hA, _, _, q⟩ := ints_cells (HZ.out.below hF.b) (ev_some hl1)
          cases hA
          rw [hz] at q
          have h7 := rep_at HC.out hF.b hx
          exact ⟨hF.cells mZ, q, h7.2.2.2.1, h7.2.2.2.2.1⟩
        obtain ⟨z, hz⟩ : ∃ z, ev zs n = z := ⟨_, rfl⟩
        have HZN := Lib.hid hz
        clear hz hx
        go_upto_region 4 with fail
        cases hq : betw z x.dlo x.dhi
        · have HN := Lib.hid (show delB rs zs = false by
            cases hd : delB rs zs
            · rfl
            · have h1 := (del_iff.1 hd).2 n hl2
              rw [HX.out, HZN.out] at h1
              unfold betw at hq
              simp [h1] at hq)
          go_region_held3 (fun w' => (∀ o, w'.cell? ⟨w.heap.size, o, none⟩ = #[Value.int .i64 m.n, (.slice (some ⟨b, off, none⟩) rs.length c1), (.slice A2 ls.length c2), (.slice A3 p3 c3), .int .i64 m.fall, .int .i64 m.win, .int .i64 m.hold, .int .i64 m.dawn, .int .i64 m.dusk][o]?) ∧ w'.cell? ⟨zb, zo + n, none⟩ = some (.int .i64 z) ∧ w'.cell? ⟨b, off + n * 7 + 3, none⟩ = some (.int .i64 x.dlo) ∧ w'.cell? ⟨b, off + n * 7 + 4, none⟩ = some (.int .i64 x.dhi)) ((exact HSS.out _ (by (repeat (with_reducible first | exact HR.out | apply Frm.drew | apply Frm.alloc | apply Frm.drewN))) _ HZN.out)) ((go_at_call 61; refine (in_any _ _ _ _).mono ?_; rintro e wq ⟨rfl, rfl⟩))
          all_goals
            go_wp2_with fail
            go_ret
            exact ⟨ret_bool HN.out.symm, Frm.b (w := w) (by (repeat (with_reducible first | exact HR.out | apply Frm.drew | apply Frm.alloc | apply Frm.drewN)))⟩
        · have HQ : Hid (x.dlo ≤ z ∧ z ≤ x.dhi) := Lib.hid (by unfold betw at hq; simpa using hq)
          go_region_held3 (fun w' => (∀ o, w'.cell? ⟨w.heap.size, o, none⟩ = #[Value.int .i64 m.n, (.slice (some ⟨b, off, none⟩) rs.length c1), (.slice A2 ls.length c2), (.slice A3 p3 c3), .int .i64 m.fall, .int .i64 m.win, .int .i64 m.hold, .int .i64 m.dawn, .int .i64 m.dusk][o]?) ∧ w'.cell? ⟨zb, zo + n, none⟩ = some (.int .i64 z) ∧ w'.cell? ⟨b, off + n * 7 + 3, none⟩ = some (.int .i64 x.dlo) ∧ w'.cell? ⟨b, off + n * 7 + 4, none⟩ = some (.int .i64 x.dhi)) ((exact HSS.out _ (by (repeat (with_reducible first | exact HR.out | apply Frm.drew | apply Frm.alloc | apply Frm.drewN))) _ HZN.out)) ((go_at_call 61; refine (in_any _ _ _ _).mono ?_; rintro e wq ⟨rfl, rfl⟩))
          all_goals
            go_wp2_with fail
            go_roundw
            case rel => exact ⟨n + 1, by omega, by omega, by go_num, fun j hj => by
              rcases Nat.lt_or_ge j n with h1 | h1
              · exact HA.out j h1
              · obtain rfl : j = n := by omega
                rw [HX.out, HZN.out]
                exact HQ.out, (by (repeat (with_reducible first | exact HR.out | apply Frm.drew | apply Frm.alloc | apply Frm.drewN)))⟩
            case measure => simp [intOf]; omega
      · obtain rfl : n = rs.length := by omega
        have HT := Lib.hid (show delB rs zs = false by simp [delB]; omega)
        have hne : ¬ (zs.length : Int) = rs.length := by omega
        go_wp2_with fail
        go_ret
        exact ⟨ret_bool (by rw [HT.out]; first | rfl | simp [hne]), Frm.b (w := w) (by (repeat (with_reducible first | exact HR.out | apply Frm.drew | apply Frm.alloc | apply Frm.drewN)))⟩
    · obtain rfl : n = zs.length := by omega
      have HT := Lib.hid (show delB rs zs = decide ((zs.length : Int) = rs.length) by
        by_cases he : zs.length = rs.length
        · have h1 : delB rs zs = true := del_iff.2 ⟨he, fun j hj => HA.out j (by omega)⟩
          rw [h1]; simp [he]
        · have h2 : ¬ (zs.length : Int) = rs.length := by omega
          simp [delB, he, h2])
      go_wp2_with fail
      go_ret
      exact ⟨ret_bool (by rw [HT.out]; first | rfl | simp), Frm.b (w := w) (by (repeat (with_reducible first | exact HR.out | apply Frm.drew | apply Frm.alloc | apply Frm.drewN)))⟩
theorem short_any (m : Wn) (A1 A2 A3 : Option Addr) (r l p c1 c2 c3 : Nat) (w : World) :
    Calls Tryz.prog 17 #[wtV m (.slice A1 r c1) (.slice A2 l c2) (.slice A3 p c3)] w fun e w' => e = .returned (.bool (decide (r ≤ 12) && decide (l ≤ 12) && decide (p ≤ 8))) ∧ Below w.heap.size w w' := by
  by_cases h1 : (r : Int) ≤ 12
  · by_cases h2 : (l : Int) ≤ 12
    · by_cases h3 : (p : Int) ≤ 8
      · go_enter Tryz.func17, Tryz.ntmps17
        go_wp2
        go_ret
        exact ⟨ret_bool (by simp; omega), (Below.refl _ _).alloc (Nat.le_refl _) _⟩
      · go_enter Tryz.func17, Tryz.ntmps17
        go_wp2
        go_ret
        exact ⟨ret_bool (by simp; omega), (Below.refl _ _).alloc (Nat.le_refl _) _⟩
    · go_enter Tryz.func17, Tryz.ntmps17
      go_wp2
      go_ret
      exact ⟨ret_bool (by simp; omega), (Below.refl _ _).alloc (Nat.le_refl _) _⟩
  · go_enter Tryz.func17, Tryz.ntmps17
    go_wp2
    go_ret
    exact ⟨ret_bool (by simp; omega), (Below.refl _ _).alloc (Nat.le_refl _) _⟩
end Go.Proofs.YtldimlnllmojiaaGreat
