/- The function Due of the program. -/
import Derived.Test.YtffgcphmakfikaaDoorKnw
set_option linter.unusedVariables false
set_option linter.unusedSimpArgs false
namespace Go.Proofs.YtffgcphmakfikaaDoor
open Go.RowKit Go.Maps

/-- How wide the bounds of a day are. -/
def wideF (s : Stn) (cs : List Chk) (d : Int) : Int := highF s d cs - lowF s d cs
/-- The first day on which the bounds are wider. -/
structure DueAt (s : Stn) (cs : List Chk) (from_ width d : Int) : Prop where
  ge : from_ ≤ d
  le : d ≤ 400
  wide : width < wideF s cs d
  first : ∀ k, from_ ≤ k → k < d → wideF s cs k ≤ width
theorem due_or (s : Stn) (cs : List Chk) (f width : Int) : (∀ d, f ≤ d → d ≤ 400 → wideF s cs d ≤ width) ∨ ∃ d, DueAt s cs f width d := by
  by_cases h : ∃ n : Nat, f + n ≤ 400 ∧ width < wideF s cs (f + n)
  · obtain ⟨n, ⟨h1, h2⟩, h3⟩ := least_of h
    refine .inr ⟨f + n, by omega, h1, h2, fun k hk hk2 => ?_⟩
    refine Classical.byContradiction fun hc => ?_
    have := h3 (k - f).toNat ⟨by omega, by rw [show f + ((k - f).toNat : Int) = k by omega]; omega⟩
    omega
  · refine .inl fun d h1 h2 => Classical.byContradiction fun hc => h ⟨(d - f).toNat, by omega, ?_⟩
    rw [show f + ((d - f).toNat : Int) = d by omega]
    omega

structure WdAt (w : World) (M n : Nat) (s : Stn) (cs : List Chk) (v : Value) (W : World) : Prop where
  g : w.grownBy W (some M)
  b0 : W.heap[w.heap.size]? = some (vwBox s v (.map (some M)))
  k : Cache W M n s cs
  c : Chks W v cs
theorem WdAt.grown {w : World} {M n n' : Nat} {s : Stn} {cs : List Chk} {v : Value} {W W' : World} (h : WdAt w M n s cs v W) (hM : M < w.heap.size) (hg : W.grownBy W' (some M)) (hk : Cache W' M n' s cs) : WdAt w M n' s cs v W' :=
  ⟨grownBy_tr h.g hg, blk_grown h.b0 hg (by omega), hk, h.c.grown h.k hg⟩
theorem WdAt.alloc {w : World} {M n : Nat} {s : Stn} {cs : List Chk} {v : Value} {W : World} (h : WdAt w M n s cs v W) (o : Obj) : WdAt w M n s cs v (W.alloc o) :=
  ⟨grownBy_al h.g o, blk_alloc h.b0 o, h.k.alloc o, h.c.below ((Below.refl _ _).alloc (Nat.le_refl _) o)⟩

set_option maxHeartbeats 800000 in
theorem wider_none (s : Stn) (cs : List Chk) (v : Value) (M n : Nat) (fr width : Int) (w : World) (hs : Good s cs) (hc : Chks w v cs) (hk : Cache w M n s cs) (hn : n ≤ 100000) (hf0 : 0 ≤ fr) (hf1 : fr ≤ 400) (hno : ∀ d, fr ≤ d → d ≤ 400 → wideF s cs d ≤ width) :
    Calls Tryd.prog 37 #[vwV s v (.map (some M)), .int .i64 fr, .int .i64 width] w fun x w' => x = .returned (.tuple #[.int .i64 0, .bool false]) ∧ w.grownBy w' (some M) := by
  have hM := hk.lt
  have HE : Hid (WdAt w M n s cs v (w.alloc (vwBox s v (.map (some M))))) := Lib.hid ⟨grownBy_row ((Below.refl _ _).alloc (Nat.le_refl _) _) M, World.alloc_heap_new _ _, hk.alloc _, hc.below ((Below.refl _ _).alloc (Nat.le_refl _) _)⟩
  go_enter Tryd.func37, Tryd.ntmps37
  go_wp2_with fail
  go_loopw [8, 9, 13] (fun _ _ k wr => ∃ i : Nat, fr + i ≤ 401 ∧ k = .int .i64 i ∧ WdAt w M (n + i) s cs v wr) (fun _ _ k _ => (401 - fr - intOf k).toNat)
  case atStart => exact ⟨0, by omega, rfl, HE.out⟩
  case round =>
    obtain ⟨i, hi, rfl, hE⟩ := hrel
    have HI := Lib.hid hE
    have b0 := (boxCells hE.b0).1
    have bl := (Array.getElem?_eq_some_iff.1 hE.b0).1
    clear hE
    by_cases hlt : fr + i ≤ 400
    · have hw := hno (fr + i) (by omega) hlt
      unfold wideF at hw
      have hl := lowF_bd (day := fr + i) hs.sane (by omega) hlt
      have hh := highF_bd (day := fr + i) hs.sane (by omega) hlt
      go_wp2_with (go_at_call 34; refine (bounds_any hs.sane HI.out.c (by omega) (by omega) (by omega) HI.out.k).mono ?_; rintro x w1 ⟨rfl, hg1, hk1⟩; have HJ := Lib.hid (HI.out.grown hM hg1 hk1); have jl := (Array.getElem?_eq_some_iff.1 HJ.out.b0).1; clear hg1 hk1)
      go_roundw
      case rel => exact ⟨i + 1, by omega, by go_num, HJ.out.alloc _⟩
      case measure => simp [intOf]; omega
    · go_wp2_with fail
      go_ret2
      exact ⟨rfl, HI.out.g⟩

set_option maxHeartbeats 800000 in
theorem wider_some (s : Stn) (cs : List Chk) (v : Value) (M n : Nat) (fr width : Int) (w : World) (hs : Good s cs) (hc : Chks w v cs) (hk : Cache w M n s cs) (hn : n ≤ 100000) (hf0 : 0 ≤ fr) (hf1 : fr ≤ 400) (d0 : Int) (hd : DueAt s cs fr width d0) :
    Calls Tryd.prog 37 #[vwV s v (.map (some M)), .int .i64 fr, .int .i64 width] w fun x w' => x = .returned (.tuple #[.int .i64 d0, .bool true]) ∧ w.grownBy w' (some M) := by
  have hM := hk.lt
  have HE : Hid (WdAt w M n s cs v (w.alloc (vwBox s v (.map (some M))))) := Lib.hid ⟨grownBy_row ((Below.refl _ _).alloc (Nat.le_refl _) _) M, World.alloc_heap_new _ _, hk.alloc _, hc.below ((Below.refl _ _).alloc (Nat.le_refl _) _)⟩
  go_enter Tryd.func37, Tryd.ntmps37
  go_wp2_with fail
  go_loopw [8, 9, 13] (fun _ _ k wr => ∃ i : Nat, fr + i ≤ 401 ∧ fr + i ≤ d0 ∧ k = .int .i64 i ∧ WdAt w M (n + i) s cs v wr) (fun _ _ k _ => (401 - fr - intOf k).toNat)
  case atStart => exact ⟨0, by omega, by have := hd.ge; omega, rfl, HE.out⟩
  case round =>
    obtain ⟨i, hi, hid, rfl, hE⟩ := hrel
    have HI := Lib.hid hE
    have b0 := (boxCells hE.b0).1
    have bl := (Array.getElem?_eq_some_iff.1 hE.b0).1
    clear hE
    have hlt : fr + i ≤ 400 := by have := hd.le; omega
    have hl := lowF_bd (day := fr + i) hs.sane (by omega) hlt
    have hh := highF_bd (day := fr + i) hs.sane (by omega) hlt
    by_cases he : fr + i = d0
    · have hw := hd.wide
      rw [← he] at hw
      unfold wideF at hw
      have He := Lib.hid he
      clear he
      go_wp2_with (go_at_call 34; refine (bounds_any hs.sane HI.out.c (by omega) (by omega) (by omega) HI.out.k).mono ?_; rintro x w1 ⟨rfl, hg1, hk1⟩; have HJ := Lib.hid (HI.out.grown hM hg1 hk1); have jl := (Array.getElem?_eq_some_iff.1 HJ.out.b0).1; clear hg1 hk1)
      go_ret2
      exact ⟨by rw [← He.out] <;> rfl, (HJ.out.alloc _).g⟩
    · have hw := hd.first (fr + i) (by omega) (by omega)
      unfold wideF at hw
      go_wp2_with (go_at_call 34; refine (bounds_any hs.sane HI.out.c (by omega) (by omega) (by omega) HI.out.k).mono ?_; rintro x w1 ⟨rfl, hg1, hk1⟩; have HJ := Lib.hid (HI.out.grown hM hg1 hk1); have jl := (Array.getElem?_eq_some_iff.1 HJ.out.b0).1; clear hg1 hk1)
      go_roundw
      case rel => exact ⟨i + 1, by omega, by omega, by go_num, HJ.out.alloc _⟩
      case measure => simp [intOf]; omega

set_option maxHeartbeats 400000 in
theorem due_bad1 {s : Stn} {v : Value} {cs : List Chk} {fr width : Int} {w : World} (hc : Chks w v cs) (h1 : soundB s cs = false) :
    Calls Tryd.prog 18 #[stV s v, .int .i64 fr, .int .i64 width] w fun x w' => x = .returned (.tuple #[.int .i64 0, .int .i64 2]) ∧ Below w.heap.size w w' := by
  have HA : Hid ((w.alloc (stBox s v)).heap[w.heap.size]? = some (stBox s v)) := Lib.hid (blk_new _ _ rfl)
  have HB : Hid (Below w.heap.size w (w.alloc (stBox s v))) := Lib.hid (below_al (Below.refl _ _) _)
  have hc1 : Chks (w.alloc (stBox s v)) v cs := hc.below HB.out
  go_enter Tryd.func18, Tryd.ntmps18
  go_wp2_with (go_at_call 28; refine (soundStation_any hc1).mono ?_; rintro x w1 ⟨rfl, hb1⟩; have HAq := Lib.hid (blk_below (by first | exact HA.out | exact (blk_alloc HA.out _) | exact (blk_alloc (blk_alloc HA.out _) _) | exact (blk_alloc (blk_alloc (blk_alloc HA.out _) _) _)) hb1); clear HA; have HA := HAq; clear HAq; have HAc := (boxCells HA.out).1; have HAf := (boxCells HA.out).2; have HAl := (Array.getElem?_eq_some_iff.1 HA.out).1; have HBq := Lib.hid (below_step (by first | exact HB.out | exact (below_al HB.out _) | exact (below_al (below_al HB.out _) _) | exact (below_al (below_al (below_al HB.out _) _) _)) hb1); clear HB; have HB := HBq; clear HBq; have hc2b : Chks w1 _ cs := hc1.below hb1; clear hb1)
  go_ret2
  exact ⟨rfl, HB.out⟩

set_option maxHeartbeats 400000 in
theorem due_bad2 {s : Stn} {v : Value} {cs : List Chk} {fr width : Int} {w : World} (hc : Chks w v cs) (h1 : soundB s cs = true) (h2 : betw fr 0 400 = false) :
    Calls Tryd.prog 18 #[stV s v, .int .i64 fr, .int .i64 width] w fun x w' => x = .returned (.tuple #[.int .i64 0, .int .i64 2]) ∧ Below w.heap.size w w' := by
  have HA : Hid ((w.alloc (stBox s v)).heap[w.heap.size]? = some (stBox s v)) := Lib.hid (blk_new _ _ rfl)
  have HB : Hid (Below w.heap.size w (w.alloc (stBox s v))) := Lib.hid (below_al (Below.refl _ _) _)
  have hc1 : Chks (w.alloc (stBox s v)) v cs := hc.below HB.out
  go_enter Tryd.func18, Tryd.ntmps18
  go_wp2_with (first | (go_at_call 28; refine (soundStation_any hc1).mono ?_; rintro x w1 ⟨rfl, hb1⟩; have HAq := Lib.hid (blk_below (by first | exact HA.out | exact (blk_alloc HA.out _) | exact (blk_alloc (blk_alloc HA.out _) _) | exact (blk_alloc (blk_alloc (blk_alloc HA.out _) _) _)) hb1); clear HA; have HA := HAq; clear HAq; have HAc := (boxCells HA.out).1; have HAf := (boxCells HA.out).2; have HAl := (Array.getElem?_eq_some_iff.1 HA.out).1; have HBq := Lib.hid (below_step (by first | exact HB.out | exact (below_al HB.out _) | exact (below_al (below_al HB.out _) _) | exact (below_al (below_al (below_al HB.out _) _) _)) hb1); clear HB; have HB := HBq; clear HBq; have hc2b : Chks w1 _ cs := hc1.below hb1; clear hb1) | (go_at_call 33; refine (soundDay_any _ _).mono ?_; rintro e w' ⟨rfl, rfl⟩))
  go_ret2
  exact ⟨rfl, HB.out⟩

set_option maxHeartbeats 400000 in
theorem due_bad3 {s : Stn} {v : Value} {cs : List Chk} {fr width : Int} {w : World} (hc : Chks w v cs) (h1 : soundB s cs = true) (h2 : betw fr 0 400 = true) (h3 : betw width 0 4000 = false) :
    Calls Tryd.prog 18 #[stV s v, .int .i64 fr, .int .i64 width] w fun x w' => x = .returned (.tuple #[.int .i64 0, .int .i64 2]) ∧ Below w.heap.size w w' := by
  have HA : Hid ((w.alloc (stBox s v)).heap[w.heap.size]? = some (stBox s v)) := Lib.hid (blk_new _ _ rfl)
  have HB : Hid (Below w.heap.size w (w.alloc (stBox s v))) := Lib.hid (below_al (Below.refl _ _) _)
  have hc1 : Chks (w.alloc (stBox s v)) v cs := hc.below HB.out
  go_enter Tryd.func18, Tryd.ntmps18
  go_wp2_with (first | (go_at_call 28; refine (soundStation_any hc1).mono ?_; rintro x w1 ⟨rfl, hb1⟩; have HAq := Lib.hid (blk_below (by first | exact HA.out | exact (blk_alloc HA.out _) | exact (blk_alloc (blk_alloc HA.out _) _) | exact (blk_alloc (blk_alloc (blk_alloc HA.out _) _) _)) hb1); clear HA; have HA := HAq; clear HAq; have HAc := (boxCells HA.out).1; have HAf := (boxCells HA.out).2; have HAl := (Array.getElem?_eq_some_iff.1 HA.out).1; have HBq := Lib.hid (below_step (by first | exact HB.out | exact (below_al HB.out _) | exact (below_al (below_al HB.out _) _) | exact (below_al (below_al (below_al HB.out _) _) _)) hb1); clear HB; have HB := HBq; clear HBq; have hc2b : Chks w1 _ cs := hc1.below hb1; clear hb1) | (go_at_call 33; refine (soundDay_any _ _).mono ?_; rintro e w' ⟨rfl, rfl⟩) | (go_at_call 36; refine (between_any _ _ _ _).mono ?_; rintro e w' ⟨rfl, rfl⟩))
  go_ret2
  exact ⟨rfl, HB.out⟩

set_option maxHeartbeats 800000 in
theorem due_rule {s : Stn} {v : Value} {cs : List Chk} {fr width : Int} {w : World} (hc : Chks w v cs) (hs : soundB s cs = true) (hfr : betw fr 0 400 = true) (hwd : betw width 0 4000 = true) {i j : Nat} (hf : First s cs i j) :
    Calls Tryd.prog 18 #[stV s v, .int .i64 fr, .int .i64 width] w fun x w' => x = .returned (.tuple #[.int .i64 0, .int .i64 7]) ∧ Below w.heap.size w w' := by
  have hg := good_of_soundB hs
  have hd := betw_iff.1 hfr
  obtain ⟨A, k, c, rfl⟩ := hc.shape
  generalize hv : Value.slice A k c = v at *
  have HA : Hid ((w.alloc (stBox s v)).heap[w.heap.size]? = some (stBox s v)) := Lib.hid (blk_new _ _ rfl)
  have HB : Hid (Below w.heap.size w (w.alloc (stBox s v))) := Lib.hid (below_al (Below.refl _ _) _)
  have hc1 : Chks (w.alloc (stBox s v)) v cs := hc.below HB.out
  subst hv
  go_enter Tryd.func18, Tryd.ntmps18
  go_wp2_with (first | (go_at_call 28; refine (soundStation_any hc1).mono ?_; rintro x w1 ⟨rfl, hb1⟩; have HAq := Lib.hid (blk_below (by first | exact HA.out | exact (blk_alloc HA.out _) | exact (blk_alloc (blk_alloc HA.out _) _) | exact (blk_alloc (blk_alloc (blk_alloc HA.out _) _) _)) hb1); clear HA; have HA := HAq; clear HAq; have HAc := (boxCells HA.out).1; have HAf := (boxCells HA.out).2; have HAl := (Array.getElem?_eq_some_iff.1 HA.out).1; have HBq := Lib.hid (below_step (by first | exact HB.out | exact (below_al HB.out _) | exact (below_al (below_al HB.out _) _) | exact (below_al (below_al (below_al HB.out _) _) _)) hb1); clear HB; have HB := HBq; clear HBq; have hc2b : Chks w1 _ cs := hc1.below hb1; clear hb1) | (go_at_call 33; refine (soundDay_any _ _).mono ?_; rintro e w' ⟨rfl, rfl⟩) | (go_at_call 36; refine (between_any _ _ _ _).mono ?_; rintro e w' ⟨rfl, rfl⟩) | (go_at_call 30; refine (look_any (cs := cs) hc.shape).mono ?_; rintro x w2 ⟨M, rfl, hb2, hM2, hk2⟩; have HBz := HB; have HAq := Lib.hid (blk_below (by first | exact HA.out | exact (blk_alloc HA.out _) | exact (blk_alloc (blk_alloc HA.out _) _) | exact (blk_alloc (blk_alloc (blk_alloc HA.out _) _) _)) hb2); clear HA; have HA := HAq; clear HAq; have HAc := (boxCells HA.out).1; have HAf := (boxCells HA.out).2; have HAl := (Array.getElem?_eq_some_iff.1 HA.out).1; have HBq := Lib.hid (below_step (by first | exact HB.out | exact (below_al HB.out _) | exact (below_al (below_al HB.out _) _) | exact (below_al (below_al (below_al HB.out _) _) _)) hb2); clear HB; have HB := HBq; clear HBq; have hc3 : Chks w2 _ cs := hc2b.below hb2; have hMw : w.heap.size ≤ M := (by have := HBz.out.size; omega); have HV : Hid ((w2.alloc (vwBox s (.slice A k c) (.map (some M)))).heap[w2.heap.size]? = some (vwBox s (.slice A k c) (.map (some M)))) := Lib.hid (World.alloc_heap_new _ _); have hMl := hk2.lt; clear hb2) | (go_at_call 31; refine (agreed_no (by first | exact hc3 | exact hc3.below ((Below.refl _ _).alloc (Nat.le_refl _) _)) hg.sane hf).mono ?_; rintro x w3 ⟨rfl, hb3⟩; have HAq := Lib.hid (blk_below (by first | exact HA.out | exact (blk_alloc HA.out _) | exact (blk_alloc (blk_alloc HA.out _) _) | exact (blk_alloc (blk_alloc (blk_alloc HA.out _) _) _)) hb3); clear HA; have HA := HAq; clear HAq; have HAc := (boxCells HA.out).1; have HAf := (boxCells HA.out).2; have HAl := (Array.getElem?_eq_some_iff.1 HA.out).1; have HVq := Lib.hid (blk_below (by first | exact HV.out | exact (blk_alloc HV.out _) | exact (blk_alloc (blk_alloc HV.out _) _) | exact (blk_alloc (blk_alloc (blk_alloc HV.out _) _) _)) hb3); clear HV; have HV := HVq; clear HVq; have HVc := (boxCells HV.out).1; have HVf := (boxCells HV.out).2; have HVl := (Array.getElem?_eq_some_iff.1 HV.out).1; have HBq := Lib.hid (below_step (by first | exact HB.out | exact (below_al HB.out _) | exact (below_al (below_al HB.out _) _) | exact (below_al (below_al (below_al HB.out _) _) _)) hb3); clear HB; have HB := HBq; clear HBq; have hc4 : Chks w3 (.slice A k c) cs := (by first | exact hc3.below hb3 | exact (hc3.below ((Below.refl _ _).alloc (Nat.le_refl _) _)).below hb3); have hk3 : Cache w3 M 0 s cs := (by first | exact hk2.below hb3 | exact (hk2.alloc _).below hb3); clear hb3) | fail)
  go_ret2
  exact ⟨rfl, HB.out⟩

set_option maxHeartbeats 800000 in
theorem due_none {s : Stn} {v : Value} {cs : List Chk} {fr width : Int} {w : World} (hc : Chks w v cs) (hs : soundB s cs = true) (hfr : betw fr 0 400 = true) (hwd : betw width 0 4000 = true) (hag : Agreed s cs) (hno : ∀ d, fr ≤ d → d ≤ 400 → wideF s cs d ≤ width) :
    Calls Tryd.prog 18 #[stV s v, .int .i64 fr, .int .i64 width] w fun x w' => x = .returned (.tuple #[.int .i64 0, .int .i64 5]) ∧ Below w.heap.size w w' := by
  have hg := good_of_soundB hs
  have hd := betw_iff.1 hfr
  obtain ⟨A, k, c, rfl⟩ := hc.shape
  generalize hv : Value.slice A k c = v at *
  have HA : Hid ((w.alloc (stBox s v)).heap[w.heap.size]? = some (stBox s v)) := Lib.hid (blk_new _ _ rfl)
  have HB : Hid (Below w.heap.size w (w.alloc (stBox s v))) := Lib.hid (below_al (Below.refl _ _) _)
  have hc1 : Chks (w.alloc (stBox s v)) v cs := hc.below HB.out
  subst hv
  go_enter Tryd.func18, Tryd.ntmps18
  go_wp2_with (first | (go_at_call 28; refine (soundStation_any hc1).mono ?_; rintro x w1 ⟨rfl, hb1⟩; have HAq := Lib.hid (blk_below (by first | exact HA.out | exact (blk_alloc HA.out _) | exact (blk_alloc (blk_alloc HA.out _) _) | exact (blk_alloc (blk_alloc (blk_alloc HA.out _) _) _)) hb1); clear HA; have HA := HAq; clear HAq; have HAc := (boxCells HA.out).1; have HAf := (boxCells HA.out).2; have HAl := (Array.getElem?_eq_some_iff.1 HA.out).1; have HBq := Lib.hid (below_step (by first | exact HB.out | exact (below_al HB.out _) | exact (below_al (below_al HB.out _) _) | exact (below_al (below_al (below_al HB.out _) _) _)) hb1); clear HB; have HB := HBq; clear HBq; have hc2b : Chks w1 _ cs := hc1.below hb1; clear hb1) | (go_at_call 33; refine (soundDay_any _ _).mono ?_; rintro e w' ⟨rfl, rfl⟩) | (go_at_call 36; refine (between_any _ _ _ _).mono ?_; rintro e w' ⟨rfl, rfl⟩) | (go_at_call 30; refine (look_any (cs := cs) hc.shape).mono ?_; rintro x w2 ⟨M, rfl, hb2, hM2, hk2⟩; have HBz := HB; have HAq := Lib.hid (blk_below (by first | exact HA.out | exact (blk_alloc HA.out _) | exact (blk_alloc (blk_alloc HA.out _) _) | exact (blk_alloc (blk_alloc (blk_alloc HA.out _) _) _)) hb2); clear HA; have HA := HAq; clear HAq; have HAc := (boxCells HA.out).1; have HAf := (boxCells HA.out).2; have HAl := (Array.getElem?_eq_some_iff.1 HA.out).1; have HBq := Lib.hid (below_step (by first | exact HB.out | exact (below_al HB.out _) | exact (below_al (below_al HB.out _) _) | exact (below_al (below_al (below_al HB.out _) _) _)) hb2); clear HB; have HB := HBq; clear HBq; have hc3 : Chks w2 _ cs := hc2b.below hb2; have hMw : w.heap.size ≤ M := (by have := HBz.out.size; omega); have HV : Hid ((w2.alloc (vwBox s (.slice A k c) (.map (some M)))).heap[w2.heap.size]? = some (vwBox s (.slice A k c) (.map (some M)))) := Lib.hid (World.alloc_heap_new _ _); have hMl := hk2.lt; clear hb2) | (go_at_call 31; refine (agreed_yes (by first | exact hc3 | exact hc3.below ((Below.refl _ _).alloc (Nat.le_refl _) _)) hg.sane hag).mono ?_; rintro x w3 ⟨rfl, hb3⟩; have HAq := Lib.hid (blk_below (by first | exact HA.out | exact (blk_alloc HA.out _) | exact (blk_alloc (blk_alloc HA.out _) _) | exact (blk_alloc (blk_alloc (blk_alloc HA.out _) _) _)) hb3); clear HA; have HA := HAq; clear HAq; have HAc := (boxCells HA.out).1; have HAf := (boxCells HA.out).2; have HAl := (Array.getElem?_eq_some_iff.1 HA.out).1; have HVq := Lib.hid (blk_below (by first | exact HV.out | exact (blk_alloc HV.out _) | exact (blk_alloc (blk_alloc HV.out _) _) | exact (blk_alloc (blk_alloc (blk_alloc HV.out _) _) _)) hb3); clear HV; have HV := HVq; clear HVq; have HVc := (boxCells HV.out).1; have HVf := (boxCells HV.out).2; have HVl := (Array.getElem?_eq_some_iff.1 HV.out).1; have HBq := Lib.hid (below_step (by first | exact HB.out | exact (below_al HB.out _) | exact (below_al (below_al HB.out _) _) | exact (below_al (below_al (below_al HB.out _) _) _)) hb3); clear HB; have HB := HBq; clear HBq; have hc4 : Chks w3 (.slice A k c) cs := (by first | exact hc3.below hb3 | exact (hc3.below ((Below.refl _ _).alloc (Nat.le_refl _) _)).below hb3); have hk3 : Cache w3 M 0 s cs := (by first | exact hk2.below hb3 | exact (hk2.alloc _).below hb3); clear hb3) | (go_at_call 37; refine (wider_none s cs _ M 0 fr width _ hg hc4 hk3 (by omega) hd.1 hd.2 hno).mono ?_; rintro x w4 ⟨rfl, hg4⟩; have HBq := Lib.hid (below_grown (by first | exact HB.out | exact (below_al HB.out _) | exact (below_al (below_al HB.out _) _) | exact (below_al (below_al (below_al HB.out _) _) _)) hg4 hMw); clear HB; have HB := HBq; clear HBq; clear hg4))
  go_ret2
  exact ⟨rfl, HB.out⟩

set_option maxHeartbeats 800000 in
theorem due_some {s : Stn} {v : Value} {cs : List Chk} {fr width : Int} {w : World} (hc : Chks w v cs) (hs : soundB s cs = true) (hfr : betw fr 0 400 = true) (hwd : betw width 0 4000 = true) (hag : Agreed s cs) (d : Int) (hda : DueAt s cs fr width d) :
    Calls Tryd.prog 18 #[stV s v, .int .i64 fr, .int .i64 width] w fun x w' => x = .returned (.tuple #[.int .i64 d, .int .i64 0]) ∧ Below w.heap.size w w' := by
  have hg := good_of_soundB hs
  have hd := betw_iff.1 hfr
  obtain ⟨A, k, c, rfl⟩ := hc.shape
  generalize hv : Value.slice A k c = v at *
  have HA : Hid ((w.alloc (stBox s v)).heap[w.heap.size]? = some (stBox s v)) := Lib.hid (blk_new _ _ rfl)
  have HB : Hid (Below w.heap.size w (w.alloc (stBox s v))) := Lib.hid (below_al (Below.refl _ _) _)
  have hc1 : Chks (w.alloc (stBox s v)) v cs := hc.below HB.out
  subst hv
  go_enter Tryd.func18, Tryd.ntmps18
  go_wp2_with (first | (go_at_call 28; refine (soundStation_any hc1).mono ?_; rintro x w1 ⟨rfl, hb1⟩; have HAq := Lib.hid (blk_below (by first | exact HA.out | exact (blk_alloc HA.out _) | exact (blk_alloc (blk_alloc HA.out _) _) | exact (blk_alloc (blk_alloc (blk_alloc HA.out _) _) _)) hb1); clear HA; have HA := HAq; clear HAq; have HAc := (boxCells HA.out).1; have HAf := (boxCells HA.out).2; have HAl := (Array.getElem?_eq_some_iff.1 HA.out).1; have HBq := Lib.hid (below_step (by first | exact HB.out | exact (below_al HB.out _) | exact (below_al (below_al HB.out _) _) | exact (below_al (below_al (below_al HB.out _) _) _)) hb1); clear HB; have HB := HBq; clear HBq; have hc2b : Chks w1 _ cs := hc1.below hb1; clear hb1) | (go_at_call 33; refine (soundDay_any _ _).mono ?_; rintro e w' ⟨rfl, rfl⟩) | (go_at_call 36; refine (between_any _ _ _ _).mono ?_; rintro e w' ⟨rfl, rfl⟩) | (go_at_call 30; refine (look_any (cs := cs) hc.shape).mono ?_; rintro x w2 ⟨M, rfl, hb2, hM2, hk2⟩; have HBz := HB; have HAq := Lib.hid (blk_below (by first | exact HA.out | exact (blk_alloc HA.out _) | exact (blk_alloc (blk_alloc HA.out _) _) | exact (blk_alloc (blk_alloc (blk_alloc HA.out _) _) _)) hb2); clear HA; have HA := HAq; clear HAq; have HAc := (boxCells HA.out).1; have HAf := (boxCells HA.out).2; have HAl := (Array.getElem?_eq_some_iff.1 HA.out).1; have HBq := Lib.hid (below_step (by first | exact HB.out | exact (below_al HB.out _) | exact (below_al (below_al HB.out _) _) | exact (below_al (below_al (below_al HB.out _) _) _)) hb2); clear HB; have HB := HBq; clear HBq; have hc3 : Chks w2 _ cs := hc2b.below hb2; have hMw : w.heap.size ≤ M := (by have := HBz.out.size; omega); have HV : Hid ((w2.alloc (vwBox s (.slice A k c) (.map (some M)))).heap[w2.heap.size]? = some (vwBox s (.slice A k c) (.map (some M)))) := Lib.hid (World.alloc_heap_new _ _); have hMl := hk2.lt; clear hb2) | (go_at_call 31; refine (agreed_yes (by first | exact hc3 | exact hc3.below ((Below.refl _ _).alloc (Nat.le_refl _) _)) hg.sane hag).mono ?_; rintro x w3 ⟨rfl, hb3⟩; have HAq := Lib.hid (blk_below (by first | exact HA.out | exact (blk_alloc HA.out _) | exact (blk_alloc (blk_alloc HA.out _) _) | exact (blk_alloc (blk_alloc (blk_alloc HA.out _) _) _)) hb3); clear HA; have HA := HAq; clear HAq; have HAc := (boxCells HA.out).1; have HAf := (boxCells HA.out).2; have HAl := (Array.getElem?_eq_some_iff.1 HA.out).1; have HVq := Lib.hid (blk_below (by first | exact HV.out | exact (blk_alloc HV.out _) | exact (blk_alloc (blk_alloc HV.out _) _) | exact (blk_alloc (blk_alloc (blk_alloc HV.out _) _) _)) hb3); clear HV; have HV := HVq; clear HVq; have HVc := (boxCells HV.out).1; have HVf := (boxCells HV.out).2; have HVl := (Array.getElem?_eq_some_iff.1 HV.out).1; have HBq := Lib.hid (below_step (by first | exact HB.out | exact (below_al HB.out _) | exact (below_al (below_al HB.out _) _) | exact (below_al (below_al (below_al HB.out _) _) _)) hb3); clear HB; have HB := HBq; clear HBq; have hc4 : Chks w3 (.slice A k c) cs := (by first | exact hc3.below hb3 | exact (hc3.below ((Below.refl _ _).alloc (Nat.le_refl _) _)).below hb3); have hk3 : Cache w3 M 0 s cs := (by first | exact hk2.below hb3 | exact (hk2.alloc _).below hb3); clear hb3) | (go_at_call 37; refine (wider_some s cs _ M 0 fr width _ hg hc4 hk3 (by omega) hd.1 hd.2 d hda).mono ?_; rintro x w4 ⟨rfl, hg4⟩; have HBq := Lib.hid (below_grown (by first | exact HB.out | exact (below_al HB.out _) | exact (below_al (below_al HB.out _) _) | exact (below_al (below_al (below_al HB.out _) _) _)) hg4 hMw); clear HB; have HB := HBq; clear HBq; clear hg4))
  go_ret2
  exact ⟨rfl, HB.out⟩
end Go.Proofs.YtffgcphmakfikaaDoor
