/- Part of a claim on cone. -/
import Derived.Test.YtldimlnllmojiaaGreatVs
set_option linter.unusedVariables false
set_option linter.unusedSimpArgs false
namespace Go.Proofs.YtldimlnllmojiaaGreat
open Go.RowKit
open Go.Shelf
open Go.Maps
def OwnSp (B : Nat) (w : World) (v : Value) (ss : List (Int × Int)) : Prop := ∃ A c, v = .slice A ss.length c ∧ Sps w (.slice A ss.length c) ss ∧ ∀ b off, A = some ⟨b, off, none⟩ → B ≤ b ∧ b < w.heap.size
theorem OwnSp.below {B : Nat} {w w' : World} {v : Value} {ss : List (Int × Int)} (h : OwnSp B w v ss) (hb : Below w.heap.size w w') : OwnSp B w' v ss := by
  obtain ⟨A, c, hv, hs, ha⟩ := h
  exact ⟨A, c, hv, hs.below hb (Nat.le_refl _), fun b off e => ⟨(ha b off e).1, Nat.lt_of_lt_of_le (ha b off e).2 hb.size⟩⟩
theorem Sps.set {w : World} {A : Option Addr} {n c : Nat} {ss : List (Int × Int)} (h : Sps w (.slice A n c) ss) {a : Addr} (hne : ∀ b off, A = some ⟨b, off, none⟩ → b ≠ a.block) (u : Value) : Sps (w.setCell a u) (.slice A n c) ss := by
  obtain ⟨A', cap, hv, hl, hm, h⟩ := h
  refine ⟨A', cap, hv, hl, hm, ?_⟩
  obtain ⟨rfl, -, -⟩ : A = A' ∧ n = ss.length ∧ c = cap := by simpa using hv
  rcases h with h | ⟨b, off, hA, hlt, hc⟩
  · exact .inl h
  · have hk : b ≠ a.block := hne b off hA
    refine .inr ⟨b, off, hA, by simpa using hlt, fun i x hx => ?_⟩
    obtain ⟨c0, c1⟩ := hc i x hx
    have e : ∀ o, (w.setCell a u).cell? ⟨b, o, none⟩ = w.cell? ⟨b, o, none⟩ := fun o => by
      unfold World.cell?
      rw [Below.heap_setCell w a u b hk]
    exact ⟨(e _).trans c0, (e _).trans c1⟩
theorem OwnSp.set {B : Nat} {w : World} {v : Value} {ss : List (Int × Int)} (h : OwnSp B w v ss) {a : Addr} (ha : a.block < B) (u : Value) : OwnSp B (w.setCell a u) v ss := by
  obtain ⟨A, c, hv, hs, hA⟩ := h
  exact ⟨A, c, hv, hs.set (fun b off e => by have := (hA b off e).1; omega) u, fun b off e => by simpa using hA b off e⟩
abbrev loD (rs : List Rep) (i : Nat) : Int := (repAt rs i).dlo
abbrev hiD (rs : List Rep) (i : Nat) : Int := (repAt rs i).dhi
theorem ix_delay (f0 f1 : Nat) (a b : Array Value) (w : World) : (Instr.index 123 (.agg #[.func (.func f0) a #[], .func (.func f1) b #[]]) (.int .i64 0)).run Tryz.prog w = .ok (.func (.func f0) a #[]) w ∧ (Instr.index 123 (.agg #[.func (.func f0) a #[], .func (.func f1) b #[]]) (.int .i64 1)).run Tryz.prog w = .ok (.func (.func f1) b #[]) w := ⟨by kernel_rfl, by kernel_rfl⟩
set_option maxHeartbeats 4000000 in
set_option maxRecDepth 100000 in
theorem lknown_any (m : Wn) (A1 A2 A3 : Option Addr) (rs : List Rep) (ls : List Lnk) (c1 c2 p3 c3 M N : Nat) (w : World) (h1 : Reps w (.slice A1 rs.length c1) rs) (hM : AlMapN N w M (fP m ls rs (pairsTo rs.length rs.length))) (hlen : rs.length ≤ 12) (hg : ∀ x ∈ rs, 0 ≤ x.tk ∧ x.tk ≤ 100000) (hho : 0 ≤ m.hold ∧ m.hold ≤ 100000) (hd : ∀ i, i < rs.length → (0 ≤ (repAt rs i).dlo ∧ (repAt rs i).dlo ≤ 100000) ∧ (0 ≤ (repAt rs i).dhi ∧ (repAt rs i).dhi ≤ 100000)) :
    Calls Tryz.prog 67 #[lookV m (.slice A1 rs.length c1) (.slice A2 ls.length c2) (.slice A3 p3 c3) (.map (some M))] w fun e w' => ∃ v0 v1, e = .returned (.tuple #[v0, v1]) ∧ OwnSp w.heap.size w' v0 (siL m ls rs (loD rs)) ∧ OwnSp w.heap.size w' v1 (siL m ls rs (hiD rs)) ∧ Below w.heap.size w w' := by
  have H1 := Lib.hid h1
  have HM := Lib.hid hM
  have HG := Lib.hid hg
  have HD := Lib.hid hd
  clear h1 hM hg hd
  have hi0 := fun w => (ix_delay 94 95 #[lookV m (.slice A1 rs.length c1) (.slice A2 ls.length c2) (.slice A3 p3 c3) (.map (some M))] #[lookV m (.slice A1 rs.length c1) (.slice A2 ls.length c2) (.slice A3 p3 c3) (.map (some M))] w).1
  have hi1 := fun w => (ix_delay 94 95 #[lookV m (.slice A1 rs.length c1) (.slice A2 ls.length c2) (.slice A3 p3 c3) (.map (some M))] #[lookV m (.slice A1 rs.length c1) (.slice A2 ls.length c2) (.slice A3 p3 c3) (.map (some M))] w).2
  have HR := Lib.hid (((Frm.nil w).add (k := w.heap.size) (lookBox m (.slice A1 rs.length c1) (.slice A2 ls.length c2) (.slice A3 p3 c3) (.map (some M))) rfl).add (k := w.heap.size + 1) (.cells #[.slice none 0 0, .slice none 0 0] 122) (by simp))
  have x0 := HR.out.cells mZ
  have x1 := HR.out.cells (mS mZ)
  go_enter Tryz.func67, Tryz.ntmps67
  go_wp2_with fail
  go_loopw [5, 6, 12] (fun _ _ i wr => ∃ (n : Nat) (v0 v1 : Value), n ≤ 2 ∧ i = .int .i64 n ∧ Frm w [(w.heap.size + 1, (.cells #[v0, v1] 122)), (w.heap.size, (lookBox m (.slice A1 rs.length c1) (.slice A2 ls.length c2) (.slice A3 p3 c3) (.map (some M))))] wr ∧ (n = 0 → v0 = .slice none 0 0) ∧ (n ≤ 1 → v1 = .slice none 0 0) ∧ (1 ≤ n → OwnSp (w.heap.size + 2) wr v0 (siL m ls rs (loD rs))) ∧ (n = 2 → OwnSp (w.heap.size + 2) wr v1 (siL m ls rs (hiD rs)))) (fun _ _ i _ => 2 - (intOf i).toNat)
  case atStart => exact ⟨0, .slice none 0 0, .slice none 0 0, by omega, rfl, (by (repeat (with_reducible first | exact HR.out | apply Frm.drew | apply Frm.alloc | apply Frm.drewN))), fun _ => rfl, fun _ => rfl, fun h => absurd h (by omega), fun h => absurd h (by omega)⟩
  case round =>
    obtain ⟨n, v0, v1, hn, rfl, hF, hv0, hv1, hw0, hw1⟩ := hrel
    clear HR x0 x1
    have HR := Lib.hid hF
    clear hF
    have x0 := HR.out.cells mZ
    have x1 := HR.out.cells (mS mZ)
    have y0 := HR.out.free mZ
    have l0 := HR.out.lt mZ
    have hsz := HR.out.size
    have h3 : n = 0 ∨ n = 1 ∨ n = 2 := by omega
    rcases h3 with rfl | rfl | rfl
    · obtain rfl := hv0 rfl
      obtain rfl := hv1 (by omega)
      clear hv0 hv1 hw0 hw1
      go_wp2_with (go_at_call 92; refine (sights_any m A1 A2 A3 rs ls c1 c2 p3 c3 M N 94 #[lookV m (.slice A1 rs.length c1) (.slice A2 ls.length c2) (.slice A3 p3 c3) (.map (some M))] #[] (fun i => (repAt rs i).dlo) wr (Rws.below H1.out HR.out.b (Nat.le_refl _)) (HM.out.below HR.out.b HM.out.lt) hlen HG.out hho (enters_of Tryz.func94 (by kernel_rfl) rfl) (fun i hi => (HD.out i hi).1) (fun i V hi hV => soonest_any m A1 rs c1 _ _ _ i _ V (Rws.below H1.out (HR.out.b.trans (hV.mono HR.out.size)) (Nat.le_refl _)) (some_repAt hi))).mono ?_; rintro e W3 ⟨A, c, rfl, hS, hA, hb3⟩; have HS3 := Lib.hid hS; have HA3 := Lib.hid hA; have HB3 := Lib.hid hb3; have hz3 := hb3.size; have HR3 := Lib.hid (HR.out.below hb3); have q0 := HR3.out.cells mZ; have q1 := HR3.out.free mZ; have q2 := HR3.out.lt mZ; clear hS hA hb3)
      go_roundw
      case rel => exact ⟨1, .slice A (siL m ls rs (loD rs)).length c, .slice none 0 0, by omega, by go_num, Frm.put HR3.out (by omega) (by simp) 0 _, fun h => absurd h (by omega), fun _ => rfl, fun _ => OwnSp.set ⟨A, c, rfl, HS3.out, fun b off e => by have := HA3.out b off e; omega⟩ (by simp) _, fun h => absurd h (by omega)⟩
      case measure => simp [intOf]
    · obtain rfl := hv1 (by omega)
      have HW := Lib.hid (hw0 (by omega))
      clear hv0 hv1 hw0 hw1
      go_wp2_with (go_at_call 92; refine (sights_any m A1 A2 A3 rs ls c1 c2 p3 c3 M N 95 #[lookV m (.slice A1 rs.length c1) (.slice A2 ls.length c2) (.slice A3 p3 c3) (.map (some M))] #[] (fun i => (repAt rs i).dhi) wr (Rws.below H1.out HR.out.b (Nat.le_refl _)) (HM.out.below HR.out.b HM.out.lt) hlen HG.out hho (enters_of Tryz.func95 (by kernel_rfl) rfl) (fun i hi => (HD.out i hi).2) (fun i V hi hV => latest_any m A1 rs c1 _ _ _ i _ V (Rws.below H1.out (HR.out.b.trans (hV.mono HR.out.size)) (Nat.le_refl _)) (some_repAt hi))).mono ?_; rintro e W3 ⟨A, c, rfl, hS, hA, hb3⟩; have HS3 := Lib.hid hS; have HA3 := Lib.hid hA; have HB3 := Lib.hid hb3; have hz3 := hb3.size; have HR3 := Lib.hid (HR.out.below hb3); have q0 := HR3.out.cells mZ; have q1 := HR3.out.free mZ; have q2 := HR3.out.lt mZ; clear hS hA hb3)
      go_roundw
      case rel => exact ⟨2, v0, .slice A (siL m ls rs (hiD rs)).length c, by omega, by go_num, Frm.put HR3.out (by omega) (by simp) 1 _, fun h => absurd h (by omega), fun h => absurd h (by omega), fun _ => (HW.out.below HB3.out).set (by simp) _, fun _ => OwnSp.set ⟨A, c, rfl, HS3.out, fun b off e => by have := HA3.out b off e; omega⟩ (by simp) _⟩
      case measure => simp [intOf]
    · have HW := Lib.hid (hw0 (by omega))
      have HW1 := Lib.hid (hw1 rfl)
      clear hv0 hv1 hw0 hw1
      obtain ⟨A, c, rfl, hs, ha⟩ := HW.out
      obtain ⟨A', c', rfl, hs', ha'⟩ := HW1.out
      have HS := Lib.hid hs
      have HS' := Lib.hid hs'
      have HA := Lib.hid ha
      have HA' := Lib.hid ha'
      clear hs hs' ha ha' HW HW1
      go_upto_region 7 with fail
      go_region_held3 (fun w' => (∀ o, w'.cell? ⟨w.heap.size + 1, o, none⟩ = #[Value.slice A (siL m ls rs (loD rs)).length c, .slice A' (siL m ls rs (hiD rs)).length c'][o]?)) ((exact (fun hF : Frm w [(w.heap.size + 1, (.cells #[.slice A (siL m ls rs (loD rs)).length c, .slice A' (siL m ls rs (hiD rs)).length c'] 122)), (w.heap.size, (lookBox m (.slice A1 rs.length c1) (.slice A2 ls.length c2) (.slice A3 p3 c3) (.map (some M))))] _ => hF.cells mZ) (by (repeat (with_reducible first | exact HR.out | apply Frm.drew | apply Frm.alloc | apply Frm.drewN))))) (fail)
      all_goals
        go_wp2_with fail
        refine bodyPost_ret (v := .tuple #[.slice A (siL m ls rs (loD rs)).length c, .slice A' (siL m ls rs (hiD rs)).length c']) (by simp [results, Tryz.results67, go_sem]) rfl ⟨_, _, rfl, ⟨A, c, rfl, ?_, fun b off e => ?_⟩, ⟨A', c', rfl, ?_, fun b off e => ?_⟩, Frm.b (w := w) (by (repeat (with_reducible first | exact HR.out | apply Frm.drew | apply Frm.alloc | apply Frm.drewN)))⟩
        · exact HS.out
        · have := HA.out b off e
          exact ⟨by omega, this.2⟩
        · exact HS'.out
        · have := HA'.out b off e
          exact ⟨by omega, this.2⟩
end Go.Proofs.YtldimlnllmojiaaGreat
