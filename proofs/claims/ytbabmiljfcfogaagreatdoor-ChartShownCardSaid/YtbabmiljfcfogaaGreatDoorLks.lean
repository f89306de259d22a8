/- The law ChartShown, walked. -/
import Derived.Test.YtbabmiljfcfogaaGreatDoorLa1
import Derived.Test.YtbabmiljfcfogaaGreatDoorLa2
import Derived.Test.YtbabmiljfcfogaaGreatDoorLa3
import Derived.Test.YtbabmiljfcfogaaGreatDoorLa4
set_option linter.unusedVariables false
set_option linter.unusedSimpArgs false
namespace Go.Proofs.YtbabmiljfcfogaaGreatDoor
open Go.RowKit
open Go.Maps
theorem sane_two {m : Mp} {cs : List Sta} (h : Sane m cs) {x y : Sta} (hx : x ∈ cs) (hy : y ∈ cs) : Sane m [x, y] :=
  ⟨h.ok, by simp, fun z hz => by simp at hz; rcases hz with rfl | rfl <;> exact h.all _ (by assumption)⟩
theorem agreed_two {m : Mp} {x y : Sta} (h : contB m x y = false) : Agreed m [x, y] := fun i j hij ⟨a, b, ha, hb, hc⟩ => by
  have h1 := (List.getElem?_eq_some_iff.1 ha).1
  have h2 := (List.getElem?_eq_some_iff.1 hb).1
  simp at h1 h2
  obtain rfl : i = 0 := by omega
  obtain rfl : j = 1 := by omega
  obtain rfl : x = a := by simpa using ha
  obtain rfl : y = b := by simpa using hb
  rw [h] at hc; cases hc
theorem first_two {m : Mp} {x y : Sta} (h : contB m x y = true) : First m [x, y] 0 1 := ⟨by omega, ⟨x, y, rfl, rfl, h⟩, fun i j hij hc => by
  have := contra_lt hc
  simp at this
  omega⟩
set_option maxHeartbeats 8000000 in
set_option maxRecDepth 100000 in
theorem lawChartShown {m : Mp} {A : Option Addr} {c : Nat} {cs : List Sta} {p q : Int} {w : World} (hc : Stas w (.slice A cs.length c) cs) (ht : Tab w) :
    Calls Tryz.prog 8 #[mpV m (.slice A cs.length c), .int .i64 p, .int .i64 q] w fun e w' => e = .returned (.bool true) ∧ Below w.heap.size w w' := by
  have HC0 := Lib.hid hc
  have HT := Lib.hid ht
  clear hc ht
  have HR := Lib.hid ((Frm.nil w).add (mpBox m (.slice A cs.length c)) rfl)
  have x0 := HR.out.cells (List.mem_cons_self ..)
  by_cases h16 : cs.length ≤ 16
  rotate_left
  · have hb := decide_eq_false h16
    go_enter Tryz.func8, Tryz.ntmps8
    go_wp2_with (first | (go_at_call 10; refine (short_is hb _).mono ?_; rintro e wa ⟨rfl, hba⟩; have HRq := Lib.hid (Frm.below (w := w) (bs := [(w.heap.size, (mpBox m (.slice A cs.length c)))]) (by (repeat (with_reducible first | exact HR.out | apply Frm.drew | apply Frm.alloc | apply Frm.drewN))) hba); clear HR; have HR := HRq; clear HRq hba; have x0 := HR.out.cells (List.mem_cons_self ..)) | (go_at_call 11; refine (GX.known_true _ (HT.out.below (Frm.b (w := w) (bs := [(w.heap.size, (mpBox m (.slice A cs.length c)))]) (by (repeat (with_reducible first | exact HR.out | apply Frm.drew | apply Frm.alloc | apply Frm.drewN)))))).mono ?_; rintro e wa ⟨rfl, hba⟩; have HRq := Lib.hid (Frm.below (w := w) (bs := [(w.heap.size, (mpBox m (.slice A cs.length c)))]) (by (repeat (with_reducible first | exact HR.out | apply Frm.drew | apply Frm.alloc | apply Frm.drewN))) hba); clear HR; have HR := HRq; clear HRq hba))
    go_ret
    exact ⟨rfl, (Frm.b (w := w) (bs := [(w.heap.size, (mpBox m (.slice A cs.length c)))]) (by (repeat (with_reducible first | exact HR.out | apply Frm.drew | apply Frm.alloc | apply Frm.drewN))))⟩
  have hb := decide_eq_true h16
  cases hs : mapB m cs
  · go_enter Tryz.func8, Tryz.ntmps8
    go_wp2_with (first | (go_at_call 10; refine (short_is hb _).mono ?_; rintro e wa ⟨rfl, hba⟩; have HRq := Lib.hid (Frm.below (w := w) (bs := [(w.heap.size, (mpBox m (.slice A cs.length c)))]) (by (repeat (with_reducible first | exact HR.out | apply Frm.drew | apply Frm.alloc | apply Frm.drewN))) hba); clear HR; have HR := HRq; clear HRq hba; have x0 := HR.out.cells (List.mem_cons_self ..)) | (go_at_call 14; refine (rMap_is (HC0.out.below (Frm.b (w := w) (bs := [(w.heap.size, (mpBox m (.slice A cs.length c)))]) (by (repeat (with_reducible first | exact HR.out | apply Frm.drew | apply Frm.alloc | apply Frm.drewN))))) hs).mono ?_; rintro e wa ⟨rfl, hba⟩; have HRq := Lib.hid (Frm.below (w := w) (bs := [(w.heap.size, (mpBox m (.slice A cs.length c)))]) (by (repeat (with_reducible first | exact HR.out | apply Frm.drew | apply Frm.alloc | apply Frm.drewN))) hba); clear HR; have HR := HRq; clear HRq hba; have x0 := HR.out.cells (List.mem_cons_self ..)) | (go_at_call 11; refine (GX.known_true _ (HT.out.below (Frm.b (w := w) (bs := [(w.heap.size, (mpBox m (.slice A cs.length c)))]) (by (repeat (with_reducible first | exact HR.out | apply Frm.drew | apply Frm.alloc | apply Frm.drewN)))))).mono ?_; rintro e wa ⟨rfl, hba⟩; have HRq := Lib.hid (Frm.below (w := w) (bs := [(w.heap.size, (mpBox m (.slice A cs.length c)))]) (by (repeat (with_reducible first | exact HR.out | apply Frm.drew | apply Frm.alloc | apply Frm.drewN))) hba); clear HR; have HR := HRq; clear HRq hba))
    go_ret
    exact ⟨rfl, (Frm.b (w := w) (bs := [(w.heap.size, (mpBox m (.slice A cs.length c)))]) (by (repeat (with_reducible first | exact HR.out | apply Frm.drew | apply Frm.alloc | apply Frm.drewN))))⟩
  have hsa := mapB_iff.1 hs
  have hl12 := hsa.len
  by_cases g1 : p < 0
  · go_enter Tryz.func8, Tryz.ntmps8
    go_wp2_with (first | (go_at_call 10; refine (short_is hb _).mono ?_; rintro e wa ⟨rfl, hba⟩; have HRq := Lib.hid (Frm.below (w := w) (bs := [(w.heap.size, (mpBox m (.slice A cs.length c)))]) (by (repeat (with_reducible first | exact HR.out | apply Frm.drew | apply Frm.alloc | apply Frm.drewN))) hba); clear HR; have HR := HRq; clear HRq hba; have x0 := HR.out.cells (List.mem_cons_self ..)) | (go_at_call 14; refine (rMap_is (HC0.out.below (Frm.b (w := w) (bs := [(w.heap.size, (mpBox m (.slice A cs.length c)))]) (by (repeat (with_reducible first | exact HR.out | apply Frm.drew | apply Frm.alloc | apply Frm.drewN))))) hs).mono ?_; rintro e wa ⟨rfl, hba⟩; have HRq := Lib.hid (Frm.below (w := w) (bs := [(w.heap.size, (mpBox m (.slice A cs.length c)))]) (by (repeat (with_reducible first | exact HR.out | apply Frm.drew | apply Frm.alloc | apply Frm.drewN))) hba); clear HR; have HR := HRq; clear HRq hba; have x0 := HR.out.cells (List.mem_cons_self ..)) | (go_at_call 11; refine (GX.known_true _ (HT.out.below (Frm.b (w := w) (bs := [(w.heap.size, (mpBox m (.slice A cs.length c)))]) (by (repeat (with_reducible first | exact HR.out | apply Frm.drew | apply Frm.alloc | apply Frm.drewN)))))).mono ?_; rintro e wa ⟨rfl, hba⟩; have HRq := Lib.hid (Frm.below (w := w) (bs := [(w.heap.size, (mpBox m (.slice A cs.length c)))]) (by (repeat (with_reducible first | exact HR.out | apply Frm.drew | apply Frm.alloc | apply Frm.drewN))) hba); clear HR; have HR := HRq; clear HRq hba))
    go_ret
    exact ⟨rfl, (Frm.b (w := w) (bs := [(w.heap.size, (mpBox m (.slice A cs.length c)))]) (by (repeat (with_reducible first | exact HR.out | apply Frm.drew | apply Frm.alloc | apply Frm.drewN))))⟩
  by_cases g2 : q ≤ p
  · go_enter Tryz.func8, Tryz.ntmps8
    go_wp2_with (first | (go_at_call 10; refine (short_is hb _).mono ?_; rintro e wa ⟨rfl, hba⟩; have HRq := Lib.hid (Frm.below (w := w) (bs := [(w.heap.size, (mpBox m (.slice A cs.length c)))]) (by (repeat (with_reducible first | exact HR.out | apply Frm.drew | apply Frm.alloc | apply Frm.drewN))) hba); clear HR; have HR := HRq; clear HRq hba; have x0 := HR.out.cells (List.mem_cons_self ..)) | (go_at_call 14; refine (rMap_is (HC0.out.below (Frm.b (w := w) (bs := [(w.heap.size, (mpBox m (.slice A cs.length c)))]) (by (repeat (with_reducible first | exact HR.out | apply Frm.drew | apply Frm.alloc | apply Frm.drewN))))) hs).mono ?_; rintro e wa ⟨rfl, hba⟩; have HRq := Lib.hid (Frm.below (w := w) (bs := [(w.heap.size, (mpBox m (.slice A cs.length c)))]) (by (repeat (with_reducible first | exact HR.out | apply Frm.drew | apply Frm.alloc | apply Frm.drewN))) hba); clear HR; have HR := HRq; clear HRq hba; have x0 := HR.out.cells (List.mem_cons_self ..)) | (go_at_call 11; refine (GX.known_true _ (HT.out.below (Frm.b (w := w) (bs := [(w.heap.size, (mpBox m (.slice A cs.length c)))]) (by (repeat (with_reducible first | exact HR.out | apply Frm.drew | apply Frm.alloc | apply Frm.drewN)))))).mono ?_; rintro e wa ⟨rfl, hba⟩; have HRq := Lib.hid (Frm.below (w := w) (bs := [(w.heap.size, (mpBox m (.slice A cs.length c)))]) (by (repeat (with_reducible first | exact HR.out | apply Frm.drew | apply Frm.alloc | apply Frm.drewN))) hba); clear HR; have HR := HRq; clear HRq hba))
    go_ret
    exact ⟨rfl, (Frm.b (w := w) (bs := [(w.heap.size, (mpBox m (.slice A cs.length c)))]) (by (repeat (with_reducible first | exact HR.out | apply Frm.drew | apply Frm.alloc | apply Frm.drewN))))⟩
  by_cases g3 : (cs.length : Int) ≤ q
  · go_enter Tryz.func8, Tryz.ntmps8
    go_wp2_with (first | (go_at_call 10; refine (short_is hb _).mono ?_; rintro e wa ⟨rfl, hba⟩; have HRq := Lib.hid (Frm.below (w := w) (bs := [(w.heap.size, (mpBox m (.slice A cs.length c)))]) (by (repeat (with_reducible first | exact HR.out | apply Frm.drew | apply Frm.alloc | apply Frm.drewN))) hba); clear HR; have HR := HRq; clear HRq hba; have x0 := HR.out.cells (List.mem_cons_self ..)) | (go_at_call 14; refine (rMap_is (HC0.out.below (Frm.b (w := w) (bs := [(w.heap.size, (mpBox m (.slice A cs.length c)))]) (by (repeat (with_reducible first | exact HR.out | apply Frm.drew | apply Frm.alloc | apply Frm.drewN))))) hs).mono ?_; rintro e wa ⟨rfl, hba⟩; have HRq := Lib.hid (Frm.below (w := w) (bs := [(w.heap.size, (mpBox m (.slice A cs.length c)))]) (by (repeat (with_reducible first | exact HR.out | apply Frm.drew | apply Frm.alloc | apply Frm.drewN))) hba); clear HR; have HR := HRq; clear HRq hba; have x0 := HR.out.cells (List.mem_cons_self ..)) | (go_at_call 11; refine (GX.known_true _ (HT.out.below (Frm.b (w := w) (bs := [(w.heap.size, (mpBox m (.slice A cs.length c)))]) (by (repeat (with_reducible first | exact HR.out | apply Frm.drew | apply Frm.alloc | apply Frm.drewN)))))).mono ?_; rintro e wa ⟨rfl, hba⟩; have HRq := Lib.hid (Frm.below (w := w) (bs := [(w.heap.size, (mpBox m (.slice A cs.length c)))]) (by (repeat (with_reducible first | exact HR.out | apply Frm.drew | apply Frm.alloc | apply Frm.drewN))) hba); clear HR; have HR := HRq; clear HRq hba))
    go_ret
    exact ⟨rfl, (Frm.b (w := w) (bs := [(w.heap.size, (mpBox m (.slice A cs.length c)))]) (by (repeat (with_reducible first | exact HR.out | apply Frm.drew | apply Frm.alloc | apply Frm.drewN))))⟩
  obtain ⟨i0, rfl⟩ : ∃ i0 : Nat, p = i0 := ⟨p.toNat, by omega⟩
  obtain ⟨k0, rfl⟩ : ∃ k0 : Nat, q = k0 := ⟨q.toNat, by omega⟩
  have hik : i0 < k0 := by omega
  have hkl : k0 < cs.length := by omega
  obtain ⟨x, hx⟩ : ∃ x, cs[i0]? = some x := ⟨_, List.getElem?_eq_getElem (by omega)⟩
  obtain ⟨y, hy⟩ : ∃ y, cs[k0]? = some y := ⟨_, List.getElem?_eq_getElem (by omega)⟩
  have h2s := sane_two hsa (List.mem_of_getElem? hx) (List.mem_of_getElem? hy)
  rcases agreed_or m cs with ha | ⟨a, b, hf⟩
  · exact ls_agreed HC0.out HT.out hb hs hsa hik hkl hx hy h2s ha (agreed_two (ha.all hsa (List.mem_of_getElem? hx) (List.mem_of_getElem? hy)))
  · have hab := hf.1
    obtain ⟨xa, xb, hxa, hxb, hcab⟩ := hf.2.1
    have hbl : b < cs.length := (List.getElem?_eq_some_iff.1 hxb).1
    have h3s := sane_two hsa (List.mem_of_getElem? hxa) (List.mem_of_getElem? hxb)
    have h3a := first_two hcab
    cases hxy : contB m x y
    · have h2a := agreed_two hxy
      rcases Nat.lt_trichotomy i0 a with t | t | t
      rotate_left
      · rcases Nat.lt_or_ge k0 b with u | u
        · exact ls_a1 HC0.out HT.out hb hs hsa hik hkl hx hy h2s hf hab hbl hxa hxb h3s h3a h2a (by omega) (by simp; omega) (by omega)
        · exact ls_a2 HC0.out HT.out hb hs hsa hik hkl hx hy h2s hf hab hbl hxa hxb h3s h3a h2a (by omega) (by simp; omega) (by omega)
      · exact ls_b1 HC0.out HT.out hb hs hsa hik hkl hx hy h2s hf hab hbl hxa hxb h3s h3a h2a (by omega) (by omega)
      · exact ls_b2 HC0.out HT.out hb hs hsa hik hkl hx hy h2s hf hab hbl hxa hxb h3s h3a h2a (by omega)
    · have h2a := first_two hxy
      rcases hf.2.2 i0 k0 hik ⟨x, y, hx, hy, hxy⟩ with t | ⟨t, u⟩
      · exact ls_c1 HC0.out HT.out hb hs hsa hik hkl hx hy h2s hf hab hbl hxa hxb h3s h3a h2a (by omega) (by omega)
      · exact ls_c2 HC0.out HT.out hb hs hsa hik hkl hx hy h2s hf hab hbl hxa hxb h3s h3a h2a (by omega) (by simp; omega) (by omega)
end Go.Proofs.YtbabmiljfcfogaaGreatDoor
