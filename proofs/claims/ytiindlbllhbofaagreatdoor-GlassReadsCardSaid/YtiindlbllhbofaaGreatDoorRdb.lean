/- A line, read. -/
import Derived.Test.YtiindlbllhbofaaGreatDoorRda
import Derived.Test.YtiindlbllhbofaaGreatDoorShelf
import Derived.WalkLawsBesides
import Derived.Laws.RangeAny
import Derived.Lib.SplitLaws
set_option linter.unusedVariables false
set_option linter.unusedSimpArgs false
namespace Go.Proofs.YtiindlbllhbofaaGreatDoor
open Go.RowKit Go.Maps

/-- What the reader of a text gives up with. -/
@[reducible] def gaveUp : Ending := .panicked [{ v := .iface 97 (.agg #[]), recovered := false }]
theorem giveUp_any (w : World) : Calls Tryz.prog 53 #[] w fun e w' => e = gaveUp ∧ w' = w := by
  go_enter Tryz.func53, Tryz.ntmps53
  go_wp2
  exact ⟨rfl, rfl, rfl⟩
/-- What a reader still has to read. -/
def Wds (w : World) (R S : Nat) (ws : List (List UInt8)) : Prop :=
  ∃ A c, w.heap[R]? = some (.cells #[.slice A ws.length c] 139) ∧ ws.length ≤ c ∧ c ≤ maxLen ∧ (ws = [] ∨ ∃ o, A = some ⟨S, o, none⟩ ∧ S ≠ R ∧ S < w.heap.size ∧ ∀ i x, ws[i]? = some x → w.cell? ⟨S, o + i, none⟩ = some (str x))
theorem grown_set (w : World) (R : Nat) (v : Value) : w.grownBy (w.setCell ⟨R, 0, none⟩ v) (some R) :=
  ⟨rfl, rfl, rfl, by simp [World.setCell], fun k _ hx => Below.heap_setCell _ _ _ _ (fun e => hx (by rw [e]))⟩
theorem wds_set {w : World} {R S c' : Nat} {A : Option Addr} {ws : List (List UInt8)} {cs : Array Value} (hb : w.heap[R]? = some (.cells cs 139)) (h1 : cs.size = 1) (hl : ws.length ≤ c') (hm : c' ≤ maxLen)
    (hx : ws = [] ∨ ∃ o, A = some ⟨S, o, none⟩ ∧ S ≠ R ∧ S < w.heap.size ∧ ∀ i x, ws[i]? = some x → w.cell? ⟨S, o + i, none⟩ = some (str x)) : Wds (w.setCell ⟨R, 0, none⟩ (.slice A ws.length c')) R S ws := by
  refine ⟨A, c', ?_, hl, hm, ?_⟩
  · have q := heap_setCell_same (o := 0) hb (.slice A ws.length c')
    have e : cs.setIfInBounds 0 (.slice A ws.length c') = #[.slice A ws.length c'] := by
      apply Array.ext
      · simp [h1]
      · intro i h2 h3
        have : i = 0 := by simp at h3; omega
        subst this
        simp
    rw [e] at q
    exact q
  · rcases hx with hx | ⟨o, hA, hbR, hlt, hc⟩
    · exact .inl hx
    · refine .inr ⟨o, hA, hbR, by simpa [World.setCell] using hlt, fun i x hi => ?_⟩
      rw [← hc i x hi]
      exact World.cell?_setCell_other _ _ _ _ (fun e => hbR (congrArg Addr.block e).symm)
set_option maxHeartbeats 800000 in
theorem word_none {R S : Nat} {w : World} (h : Wds w R S []) :
    Calls Tryz.prog 100 #[.pointer (some ⟨R, 0, none⟩)] w fun e w' => e = gaveUp ∧ w' = w := by
  obtain ⟨A, c, hb, hl, hm, -⟩ := h
  have bc := (boxCells hb).1
  have HB := Lib.hid hb
  clear hb
  simp only [List.length_nil] at *
  go_enter Tryz.func100, Tryz.ntmps100
  go_wp2_with (go_at_call 53; refine (giveUp_any _).mono ?_; rintro e w1 ⟨rfl, rfl⟩)
  exact ⟨rfl, rfl, rfl⟩
set_option maxHeartbeats 800000 in
theorem word_some {R S : Nat} {x : List UInt8} {ws : List (List UInt8)} {w : World} (h : Wds w R S (x :: ws)) :
    Calls Tryz.prog 100 #[.pointer (some ⟨R, 0, none⟩)] w fun e w' => e = .returned (str x) ∧ w.grownBy w' (some R) ∧ Wds w' R S ws := by
  obtain ⟨A, c, hb, hl, hm, hx⟩ := h
  rcases hx with hx | ⟨o, rfl, hbR, hlt, hcells⟩
  · cases hx
  have bc := (boxCells hb).1
  have bf := (boxCells hb).2
  have bl := (Array.getElem?_eq_some_iff.1 hb).1
  have c0 := hcells 0 x rfl
  rw [Nat.add_zero] at c0
  have HB := Lib.hid hb
  have HX := Lib.hid hcells
  clear hb hcells
  simp only [List.length_cons] at *
  go_enter Tryz.func100, Tryz.ntmps100
  go_wp2_with fail
  all_goals
    go_ret
    refine ⟨rfl, grown_set _ _ _, wds_set HB.out rfl (by omega) (by omega) ?_⟩
  · exact .inl (List.length_eq_zero_iff.1 (by omega))
  · refine .inr ⟨o + 1, rfl, hbR, hlt, fun i y hi => ?_⟩
    have q := HX.out (i + 1) y (by simpa using hi)
    rw [show o + 1 + i = o + (i + 1) by omega]
    exact q

open Go.RowKit Go.Maps
theorem cutPre (x : List UInt8) : ∃ neg dg, Lib.hasPrefix x [45] = neg ∧ Lib.trimPrefix x [45] = dg ∧ x = (if neg then 45 :: dg else dg) ∧ (neg = false → ∀ t, dg ≠ 45 :: t) := by
  cases x with
  | nil => exact ⟨false, [], rfl, rfl, rfl, fun _ t => by simp⟩
  | cons c l =>
    by_cases h : c = 45
    · subst h
      refine ⟨true, l, by simp [Lib.hasPrefix, List.isPrefixOf], by simp [Lib.trimPrefix, Lib.hasPrefix, List.isPrefixOf], rfl, fun h => by cases h⟩
    · have e : Lib.hasPrefix (c :: l) [45] = false := by
        have : ((45 : UInt8) == c) = false := by simpa using fun e => h e.symm
        simp [Lib.hasPrefix, List.isPrefixOf, this]
      refine ⟨false, c :: l, e, by simp [Lib.trimPrefix, e], rfl, fun _ t q => h (List.cons.inj q).1⟩
theorem bad_empty {x dg : List UInt8} {neg : Bool} (hx : x = (if neg then 45 :: dg else dg)) (h : dg = []) : ¬ goodW x := by
  rintro ⟨n, -, -, e⟩
  subst h
  cases neg
  · rw [if_neg (by simp)] at hx
    exact itoa_ne n (by rw [← e, hx])
  · rw [if_pos rfl] at hx
    rw [hx] at e
    unfold Lib.itoa at e
    split at e
    · exact dec_ne _ (List.cons.inj e).2.symm
    · have := dec_dig n.toNat 45 (by rw [← e]; simp)
      simp [digB] at this
theorem good_can {x dg : List UInt8} {neg : Bool} (hx : x = (if neg then 45 :: dg else dg)) (hn : neg = false → ∀ t, dg ≠ 45 :: t) (h : goodW x) : CanB dg ∧ dg.length ≤ 5 ∧ (neg = true → ∀ t, dg ≠ 48 :: t) := by
  obtain ⟨n, n0, n1, e⟩ := h
  unfold Lib.itoa at e
  split at e
  · next hlt =>
    cases neg
    · rw [if_neg (by simp)] at hx
      exact absurd (hx ▸ e) (hn rfl _)
    · rw [if_pos rfl] at hx
      have : dg = Lib.decDigits n.natAbs := (List.cons.inj (hx.symm.trans e)).2
      subst this
      exact ⟨dec_can _, dec_small (by omega), fun _ => dec_head _ (by omega)⟩
  · next hge =>
    cases neg
    · rw [if_neg (by simp)] at hx
      have : dg = Lib.decDigits n.toNat := hx.symm.trans e
      subst this
      exact ⟨dec_can _, dec_small (by omega), fun h => by cases h⟩
    · rw [if_pos rfl] at hx
      have := dec_dig n.toNat 45 (by rw [← e, hx]; simp)
      simp [digB] at this
theorem grown_iter {w w2 : World} {R : Nat} (h : w.grownBy w2 (some R)) (s : ByteArray) (k : Nat) : w.grownBy (w2.iter s k) (some R) :=
  ⟨h.os, h.tape, h.output, Nat.le_trans h.size (by simp [World.iter]), fun i hi hx => (Below.heap_alloc _ _ _ (Nat.lt_of_lt_of_le hi h.size)).trans (h.block i hi hx)⟩
theorem World.below_iter (w2 : World) (s : ByteArray) (k : Nat) : Below w2.heap.size w2 (w2.iter s k) := (Below.refl w2.heap.size w2).alloc (Nat.le_refl _) (.stringIter s k)
theorem Wds.below {w w' : World} {R S : Nat} {ws : List (List UInt8)} (h : Wds w R S ws) (hb : Below w.heap.size w w') : Wds w' R S ws := by
  obtain ⟨A, c, h1, h2, h3, h4⟩ := h
  refine ⟨A, c, blk_below h1 hb, h2, h3, ?_⟩
  rcases h4 with h4 | ⟨o, hA, hbR, hlt, hc⟩
  · exact .inl h4
  · exact .inr ⟨o, hA, hbR, Nat.lt_of_lt_of_le hlt hb.size, fun i x hi => (hb.cell (p := ⟨S, _, none⟩) hlt).trans (hc i x hi)⟩
/-- What the reading of a number leaves. -/
def NumPost (w : World) (R S : Nat) (x : List UInt8) (ws : List (List UInt8)) (e : Ending) (w' : World) : Prop :=
  w.grownBy w' (some R) ∧ ((∃ n : Int, -99999 ≤ n ∧ n ≤ 99999 ∧ x = Lib.itoa n ∧ e = .returned (.int .i64 n) ∧ Wds w' R S ws) ∨ (¬ goodW x ∧ e = gaveUp))
set_option maxHeartbeats 4000000 in
set_option maxRecDepth 100000 in
theorem number_any {R S : Nat} {x : List UInt8} {ws : List (List UInt8)} {w : World} (h : Wds w R S (x :: ws)) :
    Calls Tryz.prog 87 #[.pointer (some ⟨R, 0, none⟩)] w fun e w' => NumPost w R S x ws e w' := by
  have H := Lib.hid h
  clear h
  obtain ⟨neg, dg, h1, h2, h3, h4⟩ := cutPre x
  have HN := Lib.hid h1
  have HD := Lib.hid h2
  have HX := Lib.hid h3
  have HG := Lib.hid h4
  clear h1 h2 h3 h4
  go_enter Tryz.func87, Tryz.ntmps87
  go_wp2_with fail
  refine (word_some H.out).mono ?_
  rintro e w1 ⟨rfl, hg, hw⟩
  have HGW := Lib.hid hg
  have HW := Lib.hid hw
  clear hg hw H
  go_wp2_with fail
  refine (Tryz.strings_CutPrefix _ _ _).mono ?_
  rintro e w2 ⟨rfl, rfl⟩
  simp only [HN.out, HD.out]
  have HB5 : Hid (5 < dg.length → ¬ goodW x) := Lib.hid fun h5 hgd => by
    have := (good_can HX.out HG.out hgd).2.1
    omega
  have HB0 : Hid (∀ t, dg = 48 :: t → x ≠ [48] → ¬ goodW x) := Lib.hid fun t ht hne hgd => by
    obtain ⟨hc, -, hz⟩ := good_can HX.out HG.out hgd
    have h0 := hc.2.2 t ht
    subst h0
    cases neg
    · exact hne (by rw [HX.out, if_neg (by simp), ht])
    · exact hz rfl [] ht
  have HBD : Hid (∀ y ∈ dg, digB y = false → ¬ goodW x) := Lib.hid fun y hy hd hgd => by
    have := (good_can HX.out HG.out hgd).1.2.1 y hy
    rw [hd] at this
    cases this
  cases hdg : dg with
  | nil =>
    have K := Lib.hid (bad_empty HX.out hdg)
    clear HB5 HB0 HBD
    subst hdg
    go_wp2_with (go_at_call 53; refine (giveUp_any _).mono ?_; rintro e w3 ⟨rfl, rfl⟩)
    exact ⟨rfl, HGW.out, .inr ⟨K.out, rfl⟩⟩
  | cons c t =>
    have HDG := Lib.hid hdg
    clear hdg
    by_cases k2 : 5 < dg.length
    · have K := Lib.hid (HB5.out k2)
      have k3 : 5 < t.length + 1 := by have := congrArg List.length HDG.out; simp at this; omega
      clear HB5 HB0 HBD
      go_wp2_with (go_at_call 53; refine (giveUp_any _).mono ?_; rintro e w3 ⟨rfl, rfl⟩)
      exact ⟨rfl, HGW.out, .inr ⟨K.out, rfl⟩⟩
    have k3 : t.length + 1 ≤ 5 := by have := congrArg List.length HDG.out; simp at this; omega
    clear k2
    have hq : ∀ h, (ByteArray.mk (c :: t).toArray)[0]'h = c := fun _ => rfl
    have HZ : ∀ z : List UInt8, dg = 48 :: z → (c.toNat : Int) = 48 ∧ z = t := fun z hz => by
      rw [HDG.out] at hz
      obtain ⟨rfl, rfl⟩ := List.cons.inj hz
      exact ⟨rfl, rfl⟩
    by_cases c0 : (c.toNat : Int) = 48
    · have hc : c = 48 := UInt8.toNat_inj.1 (by have : (48 : UInt8).toNat = 48 := rfl; omega)
      cases x0 : (x == [48])
      · have K := Lib.hid (HB0.out t (by rw [HDG.out, hc]) (by simpa using x0))
        clear hc HZ
        go_wp2_with (go_at_call 53; refine (giveUp_any _).mono ?_; rintro e w3 ⟨rfl, rfl⟩)
        exact ⟨rfl, HGW.out, .inr ⟨K.out, rfl⟩⟩
      · have hx : x = [48] := by simpa using x0
        have hneg : neg = false := by
          cases neg
          · rfl
          · have := HX.out
            rw [if_pos rfl, hx] at this
            simp at this
        have hd : dg = [48] := by
          have := HX.out
          rw [hneg, if_neg (by simp), hx] at this
          exact this.symm
        have HCN : Hid (∀ z : List UInt8, dg = 48 :: z → z = []) := Lib.hid fun z hz => by rw [hd] at hz; exact (List.cons.inj hz).2.symm
        have HNZ : Hid (neg = true → ∀ z : List UInt8, dg ≠ 48 :: z) := Lib.hid fun h => by rw [hneg] at h; cases h
        clear hc hx hneg hd HZ
        go_wp2_with fail
        go_loopw [6] (fun a wr => ∃ k : Nat, k ≤ t.length + 1 ∧ wr = w2.iter (⟨(c :: t).toArray⟩ : ByteArray) k ∧ a = .int .i64 (decV ((c :: t).take k) : Nat) ∧ ∀ y ∈ (c :: t).take k, digB y = true) (fun _ wr => (t.length + 1) - wr.iterPos w2.heap.size)
        case atStart => exact ⟨0, Nat.zero_le _, rfl, rfl, by simp⟩
        case round =>
          obtain ⟨k, hk, rfl, rfl, hall⟩ := hrel
          have HALL := Lib.hid hall
          have hlen : ((c :: t).take k).length = k := by simp; omega
          have hv := decV_lt _ hall
          rw [hlen] at hv
          clear hall hlen hq
          by_cases hlt : k < t.length + 1
          · have hsz : k < (⟨(c :: t).toArray⟩ : ByteArray).size := hlt
            obtain ⟨y, hy⟩ : ∃ y, (⟨(c :: t).toArray⟩ : ByteArray)[k]'hsz = y := ⟨_, rfl⟩
            have hy2 : (c :: t)[k]? = some y := by rw [List.getElem?_eq_getElem hlt, ← hy]; rfl
            have HY := Lib.hid hy2
            have hv4 : decV ((c :: t).take k) < 10000 := Nat.lt_of_lt_of_le hv (Nat.pow_le_pow_right (by omega) (show k ≤ 4 by omega))
            have HT := Lib.hid (show (c :: t).take (k + 1) = (c :: t).take k ++ [y] by rw [List.take_add_one, hy2]; rfl)
            have HDV := Lib.hid (decV_snoc ((c :: t).take k) y)
            have HM := Lib.hid (show y ∈ dg by rw [HDG.out]; exact List.mem_of_getElem? hy2)
            clear hv hy2
            by_cases ha : y.toNat < 128
            · have hnx := fun ty => run_next_ascii (P := Tryz.prog) w2 (⟨(c :: t).toArray⟩ : ByteArray) k ty hsz (by rw [hy]; exact ha)
              rw [hy] at hnx
              generalize decV ((c :: t).take k) = v at *
              clear hy
              by_cases d1 : (y.toNat : Int) < 48
              · have K := Lib.hid (HBD.out y HM.out (by simp [digB]; omega))
                go_wp2_with (go_at_call 53; refine (giveUp_any _).mono ?_; rintro e w3 ⟨rfl, rfl⟩)
                exact ⟨rfl, grown_iter HGW.out _ _, .inr ⟨K.out, rfl⟩⟩
              by_cases d2 : (57 : Int) < y.toNat
              · have K := Lib.hid (HBD.out y HM.out (by simp [digB]; omega))
                go_wp2_with (go_at_call 53; refine (giveUp_any _).mono ?_; rintro e w3 ⟨rfl, rfl⟩)
                exact ⟨rfl, grown_iter HGW.out _ _, .inr ⟨K.out, rfl⟩⟩
              have HY9 := Lib.hid (show digB y = true by simp [digB]; omega)
              go_wp2_with fail
              go_roundw
              case rel =>
                refine ⟨k + 1, by omega, rfl, ?_, ?_⟩
                · rw [HT.out, HDV.out]
                  congr 1
                  omega
                · rw [HT.out]
                  intro z hz
                  rcases List.mem_append.1 hz with hz | hz
                  · exact HALL.out z hz
                  · rw [List.mem_singleton] at hz; subst hz; exact HY9.out
              case measure => simp; omega
            · have hd := decode_high (⟨(c :: t).toArray⟩ : ByteArray) k hsz (by rw [hy]; omega)
              have hl := decode_le (⟨(c :: t).toArray⟩ : ByteArray) k
              have hnx := fun ty => run_next_any (P := Tryz.prog) w2 (⟨(c :: t).toArray⟩ : ByteArray) k ty hsz
              have K := Lib.hid (HBD.out y HM.out (by simp [digB]; omega))
              obtain ⟨hd1, hd2⟩ := hd
              generalize (Utf8.decode (⟨(c :: t).toArray⟩ : ByteArray) k).1 = rn at *
              generalize (Utf8.decode (⟨(c :: t).toArray⟩ : ByteArray) k).2 = wd at *
              have r1 : ¬ ((rn : Int) < 48) := by omega
              have r2 : (57 : Int) < rn := by omega
              clear hy
              go_wp2_with (go_at_call 53; refine (giveUp_any _).mono ?_; rintro e w3 ⟨rfl, rfl⟩)
              exact ⟨rfl, grown_iter HGW.out _ _, .inr ⟨K.out, rfl⟩⟩
          · obtain rfl : k = t.length + 1 := by omega
            have hnx := fun ty => run_next_end (P := Tryz.prog) w2 (⟨(c :: t).toArray⟩ : ByteArray) (t.length + 1) ty (by simp [ByteArray.size])
            have hft : (c :: t).take (t.length + 1) = c :: t := List.take_of_length_le (by simp)
            have hdg := HDG.out
            have hcan : CanB dg := ⟨by rw [hdg]; simp, by rw [hdg, ← hft]; exact HALL.out, HCN.out⟩
            have hsm := can_small hcan (by rw [hdg]; simp; omega)
            have HE := Lib.hid (show decV ((c :: t).take (t.length + 1)) = decV dg by rw [hft, hdg])
            have HCAN := Lib.hid hcan
            have hv5 : decV ((c :: t).take (t.length + 1)) ≤ 99999 := by rw [HE.out]; exact hsm
            clear hv hft hdg hcan
            have HW2 := Lib.hid (HW.out.below (World.below_iter w2 (⟨(c :: t).toArray⟩ : ByteArray) (t.length + 1)))
            have HG2 := Lib.hid (grown_iter HGW.out (⟨(c :: t).toArray⟩ : ByteArray) (t.length + 1))
            generalize decV ((c :: t).take (t.length + 1)) = v at *
            cases neg
            · go_wp2_with fail
              go_ret
              refine ⟨HG2.out, .inl ⟨v, by omega, by omega, ?_, rfl, HW2.out⟩⟩
              rw [HX.out, if_neg (by simp), HE.out]
              exact (itoa_pos0 dg HCAN.out).symm
            · go_wp2_with fail
              go_ret
              refine ⟨HG2.out, .inl ⟨-v, by omega, by omega, ?_, rfl, HW2.out⟩⟩
              rw [HX.out, HE.out]
              simp only [if_true]
              exact (itoa_neg0 dg HCAN.out (HNZ.out (by trivial))).symm
    · have HCN : Hid (∀ z : List UInt8, dg = 48 :: z → z = []) := Lib.hid fun z hz => absurd (HZ z hz).1 c0
      have HNZ : Hid (neg = true → ∀ z : List UInt8, dg ≠ 48 :: z) := Lib.hid fun _ z hz => c0 (HZ z hz).1
      clear HZ
      go_wp2_with fail
      go_loopw [6] (fun a wr => ∃ k : Nat, k ≤ t.length + 1 ∧ wr = w2.iter (⟨(c :: t).toArray⟩ : ByteArray) k ∧ a = .int .i64 (decV ((c :: t).take k) : Nat) ∧ ∀ y ∈ (c :: t).take k, digB y = true) (fun _ wr => (t.length + 1) - wr.iterPos w2.heap.size)
      case atStart => exact ⟨0, Nat.zero_le _, rfl, rfl, by simp⟩
      case round =>
        obtain ⟨k, hk, rfl, rfl, hall⟩ := hrel
        have HALL := Lib.hid hall
        have hlen : ((c :: t).take k).length = k := by simp; omega
        have hv := decV_lt _ hall
        rw [hlen] at hv
        clear hall hlen hq
        by_cases hlt : k < t.length + 1
        · have hsz : k < (⟨(c :: t).toArray⟩ : ByteArray).size := hlt
          obtain ⟨y, hy⟩ : ∃ y, (⟨(c :: t).toArray⟩ : ByteArray)[k]'hsz = y := ⟨_, rfl⟩
          have hy2 : (c :: t)[k]? = some y := by rw [List.getElem?_eq_getElem hlt, ← hy]; rfl
          have HY := Lib.hid hy2
          have hv4 : decV ((c :: t).take k) < 10000 := Nat.lt_of_lt_of_le hv (Nat.pow_le_pow_right (by omega) (show k ≤ 4 by omega))
          have HT := Lib.hid (show (c :: t).take (k + 1) = (c :: t).take k ++ [y] by rw [List.take_add_one, hy2]; rfl)
          have HDV := Lib.hid (decV_snoc ((c :: t).take k) y)
          have HM := Lib.hid (show y ∈ dg by rw [HDG.out]; exact List.mem_of_getElem? hy2)
          clear hv hy2
          by_cases ha : y.toNat < 128
          · have hnx := fun ty => run_next_ascii (P := Tryz.prog) w2 (⟨(c :: t).toArray⟩ : ByteArray) k ty hsz (by rw [hy]; exact ha)
            rw [hy] at hnx
            generalize decV ((c :: t).take k) = v at *
            clear hy
            by_cases d1 : (y.toNat : Int) < 48
            · have K := Lib.hid (HBD.out y HM.out (by simp [digB]; omega))
              go_wp2_with (go_at_call 53; refine (giveUp_any _).mono ?_; rintro e w3 ⟨rfl, rfl⟩)
              exact ⟨rfl, grown_iter HGW.out _ _, .inr ⟨K.out, rfl⟩⟩
            by_cases d2 : (57 : Int) < y.toNat
            · have K := Lib.hid (HBD.out y HM.out (by simp [digB]; omega))
              go_wp2_with (go_at_call 53; refine (giveUp_any _).mono ?_; rintro e w3 ⟨rfl, rfl⟩)
              exact ⟨rfl, grown_iter HGW.out _ _, .inr ⟨K.out, rfl⟩⟩
            have HY9 := Lib.hid (show digB y = true by simp [digB]; omega)
            go_wp2_with fail
            go_roundw
            case rel =>
              refine ⟨k + 1, by omega, rfl, ?_, ?_⟩
              · rw [HT.out, HDV.out]
                congr 1
                omega
              · rw [HT.out]
                intro z hz
                rcases List.mem_append.1 hz with hz | hz
                · exact HALL.out z hz
                · rw [List.mem_singleton] at hz; subst hz; exact HY9.out
            case measure => simp; omega
          · have hd := decode_high (⟨(c :: t).toArray⟩ : ByteArray) k hsz (by rw [hy]; omega)
            have hl := decode_le (⟨(c :: t).toArray⟩ : ByteArray) k
            have hnx := fun ty => run_next_any (P := Tryz.prog) w2 (⟨(c :: t).toArray⟩ : ByteArray) k ty hsz
            have K := Lib.hid (HBD.out y HM.out (by simp [digB]; omega))
            obtain ⟨hd1, hd2⟩ := hd
            generalize (Utf8.decode (⟨(c :: t).toArray⟩ : ByteArray) k).1 = rn at *
            generalize (Utf8.decode (⟨(c :: t).toArray⟩ : ByteArray) k).2 = wd at *
            have r1 : ¬ ((rn : Int) < 48) := by omega
            have r2 : (57 : Int) < rn := by omega
            clear hy
            go_wp2_with (go_at_call 53; refine (giveUp_any _).mono ?_; rintro e w3 ⟨rfl, rfl⟩)
            exact ⟨rfl, grown_iter HGW.out _ _, .inr ⟨K.out, rfl⟩⟩
        · obtain rfl : k = t.length + 1 := by omega
          have hnx := fun ty => run_next_end (P := Tryz.prog) w2 (⟨(c :: t).toArray⟩ : ByteArray) (t.length + 1) ty (by simp [ByteArray.size])
          have hft : (c :: t).take (t.length + 1) = c :: t := List.take_of_length_le (by simp)
          have hdg := HDG.out
          have hcan : CanB dg := ⟨by rw [hdg]; simp, by rw [hdg, ← hft]; exact HALL.out, HCN.out⟩
          have hsm := can_small hcan (by rw [hdg]; simp; omega)
          have HE := Lib.hid (show decV ((c :: t).take (t.length + 1)) = decV dg by rw [hft, hdg])
          have HCAN := Lib.hid hcan
          have hv5 : decV ((c :: t).take (t.length + 1)) ≤ 99999 := by rw [HE.out]; exact hsm
          clear hv hft hdg hcan
          have HW2 := Lib.hid (HW.out.below (World.below_iter w2 (⟨(c :: t).toArray⟩ : ByteArray) (t.length + 1)))
          have HG2 := Lib.hid (grown_iter HGW.out (⟨(c :: t).toArray⟩ : ByteArray) (t.length + 1))
          generalize decV ((c :: t).take (t.length + 1)) = v at *
          cases neg
          · go_wp2_with fail
            go_ret
            refine ⟨HG2.out, .inl ⟨v, by omega, by omega, ?_, rfl, HW2.out⟩⟩
            rw [HX.out, if_neg (by simp), HE.out]
            exact (itoa_pos0 dg HCAN.out).symm
          · go_wp2_with fail
            go_ret
            refine ⟨HG2.out, .inl ⟨-v, by omega, by omega, ?_, rfl, HW2.out⟩⟩
            rw [HX.out, HE.out]
            simp only [if_true]
            exact (itoa_neg0 dg HCAN.out (HNZ.out (by trivial))).symm

open Go.RowKit Go.Maps
/-- A number that a text can hold. -/
@[reducible] def Bd (n : Int) : Prop := -99999 ≤ n ∧ n ≤ 99999
def MxL (w : World) (m : Int) : Prop := 1 < w.heap.size ∧ w.cell? ⟨1, 0, none⟩ = some (.int .i64 m)
theorem MxL.grown {w w' : World} {m : Int} {R : Nat} (h : MxL w m) (hg : w.grownBy w' (some R)) (hR : R ≠ 1) : MxL w' m :=
  ⟨Nat.lt_of_lt_of_le h.1 hg.size, by rw [← h.2]; exact hg.cell_far _ h.1 (fun e => hR (Option.some.inj e).symm)⟩
theorem MxL.below {w w' : World} {m : Int} (h : MxL w m) (hb : Below w.heap.size w w') : MxL w' m :=
  ⟨Nat.lt_of_lt_of_le h.1 hb.size, (hb.cell (p := ⟨_, 0, none⟩) h.1).trans h.2⟩
theorem grown_refl (w : World) (R : Nat) : w.grownBy w (some R) := ⟨rfl, rfl, rfl, Nat.le_refl _, fun _ _ _ => rfl⟩
theorem grown_tr {a b c : World} {M : Nat} (h : a.grownBy b (some M)) (k : b.grownBy c (some M)) : a.grownBy c (some M) :=
  ⟨k.os.trans h.os, k.tape.trans h.tape, k.output.trans h.output, Nat.le_trans h.size k.size, fun i hi hx => (k.block i (Nat.lt_of_lt_of_le hi h.size) hx).trans (h.block i hi hx)⟩
theorem grown_sets {w W : World} {M : Nat} (h : w.grownBy W (some M)) {a : Addr} (ha : w.heap.size ≤ a.block) (u : Value) : w.grownBy (W.setCell a u) (some M) :=
  ⟨h.os, h.tape, h.output, Nat.le_trans h.size (by simp [World.setCell]), fun i hi hx => (Below.heap_setCell _ _ _ _ (by omega)).trans (h.block i hi hx)⟩
theorem Wds.set {w : World} {R S : Nat} {ws : List (List UInt8)} (h : Wds w R S ws) {a : Addr} (h1 : a.block ≠ R) (h2 : S ≠ a.block) (u : Value) : Wds (w.setCell a u) R S ws := by
  obtain ⟨A, c, hb, hl, hm, hx⟩ := h
  refine ⟨A, c, (Below.heap_setCell _ _ _ _ (Ne.symm h1)).trans hb, hl, hm, ?_⟩
  rcases hx with hx | ⟨o, hA, hSR, hlt, hc⟩
  · exact .inl hx
  · refine .inr ⟨o, hA, hSR, by simpa [World.setCell] using hlt, fun i x hi => ?_⟩
    rw [← hc i x hi]
    exact World.cell?_setCell_other _ _ _ _ (fun e => h2 (congrArg Addr.block e).symm)
/-- What the reading of a part leaves: what it is, and the words behind it; or nothing, if the words do not begin so. -/
def PartPost (w : World) (R S : Nat) (ws : List (List UInt8)) (α : Type) (ok : α → Prop) (words : α → List (List UInt8)) (val : α → Value) (e : Ending) (w' : World) : Prop :=
  w.grownBy w' (some R) ∧ ((∃ (a : α) (l : List (List UInt8)), ok a ∧ ws = words a ++ l ∧ e = .returned (val a) ∧ Wds w' R S l) ∨ ((¬ ∃ (a : α) (l : List (List UInt8)), ok a ∧ ws = words a ++ l) ∧ e = gaveUp))
set_option maxHeartbeats 800000 in
theorem number_none {R S : Nat} {w : World} (h : Wds w R S []) :
    Calls Tryz.prog 87 #[.pointer (some ⟨R, 0, none⟩)] w fun e w' => e = gaveUp ∧ w' = w := by
  have H := Lib.hid h
  clear h
  go_enter Tryz.func87, Tryz.ntmps87
  go_wp2_with fail
  refine (word_none H.out).mono ?_
  rintro e w1 ⟨rfl, rfl⟩
  go_wp2
  exact ⟨rfl, rfl, rfl⟩
theorem number_post {R S : Nat} {ws : List (List UInt8)} {w : World} (h : Wds w R S ws) :
    Calls Tryz.prog 87 #[.pointer (some ⟨R, 0, none⟩)] w fun e w' => PartPost w R S ws Int Bd (fun n => [Lib.itoa n]) (fun n => .int .i64 n) e w' := by
  cases ws with
  | nil =>
    refine (number_none h).mono ?_
    rintro e w' ⟨rfl, rfl⟩
    exact ⟨grown_refl _ _, .inr ⟨by rintro ⟨a, l, -, e⟩; simp at e, rfl⟩⟩
  | cons x ws =>
    refine (number_any h).mono ?_
    rintro e w' ⟨hg, ⟨n, n0, n1, hx, he, hw⟩ | ⟨hb, he⟩⟩
    · exact ⟨hg, .inl ⟨n, ws, ⟨n0, n1⟩, by rw [hx]; rfl, he, hw⟩⟩
    · refine ⟨hg, .inr ⟨?_, he⟩⟩
      rintro ⟨a, l, ⟨a0, a1⟩, e⟩
      exact hb ⟨a, a0, a1, (List.cons.inj e).1⟩
theorem index_rse (b : UInt8) : Lib.index [114, 115, 101] [b] = if b = 114 then 0 else if b = 115 then 1 else if b = 101 then 2 else -1 := by
  rw [index_one, index_one, index_one]
  have e : Lib.index ([] : List UInt8) [b] = -1 := rfl
  rw [e]
  by_cases h1 : b = 114
  · subst h1; rfl
  by_cases h2 : b = 115
  · subst h2; rfl
  by_cases h3 : b = 101
  · subst h3; rfl
  rw [if_neg (Ne.symm h1), if_neg (Ne.symm h2), if_neg (Ne.symm h3), if_neg h1, if_neg h2, if_neg h3]
  rfl
theorem clock_word (x : List UInt8) : (∃ cl : Int, 1 ≤ cl ∧ cl ≤ 3 ∧ x = letF cl ∧ x.length = 1 ∧ Lib.index [114, 115, 101] x = cl - 1) ∨ ((¬ ∃ cl : Int, (1 ≤ cl ∧ cl ≤ 3) ∧ x = letF cl) ∧ (x.length ≠ 1 ∨ Lib.index [114, 115, 101] x = -1)) := by
  by_cases h : x.length = 1
  · obtain ⟨b, rfl⟩ : ∃ b, x = [b] := List.length_eq_one_iff.1 h
    rw [index_rse]
    by_cases h1 : b = 114
    · subst h1; exact .inl ⟨1, by omega, by omega, rfl, rfl, rfl⟩
    by_cases h2 : b = 115
    · subst h2; exact .inl ⟨2, by omega, by omega, rfl, rfl, rfl⟩
    by_cases h3 : b = 101
    · subst h3; exact .inl ⟨3, by omega, by omega, rfl, rfl, rfl⟩
    refine .inr ⟨?_, .inr (by rw [if_neg h1, if_neg h2, if_neg h3])⟩
    rintro ⟨cl, ⟨c0, c1⟩, e⟩
    rcases (by omega : cl = 1 ∨ cl = 2 ∨ cl = 3) with rfl | rfl | rfl
    · exact h1 (List.cons.inj e).1
    · exact h2 (List.cons.inj e).1
    · exact h3 (List.cons.inj e).1
  · refine .inr ⟨?_, .inl h⟩
    rintro ⟨cl, -, rfl⟩
    rcases letF_cases cl with e | e | e <;> rw [e] at h <;> exact h rfl
set_option maxHeartbeats 1600000 in
theorem clock_post {R S : Nat} {ws : List (List UInt8)} {w : World} {m : Int} (h : Wds w R S ws) (hm : MxL w m) (hR : R ≠ 1) :
    Calls Tryz.prog 88 #[.pointer (some ⟨R, 0, none⟩)] w fun e w' => PartPost w R S ws Int (fun c => 1 ≤ c ∧ c ≤ 3) (fun c => [letF c]) (fun c => .int .i64 c) e w' := by
  have H := Lib.hid h
  have HM := Lib.hid hm
  clear h hm
  cases ws with
  | nil =>
    go_enter Tryz.func88, Tryz.ntmps88
    go_wp2_with fail
    refine (word_none H.out).mono ?_
    rintro e w1 ⟨rfl, rfl⟩
    go_wp2
    exact ⟨rfl, grown_refl _ _, .inr ⟨by rintro ⟨a, l, -, e⟩; simp at e, rfl⟩⟩
  | cons x ws =>
    have HC := Lib.hid (clock_word x)
    go_enter Tryz.func88, Tryz.ntmps88
    go_wp2_with fail
    refine (word_some H.out).mono ?_
    rintro e w1 ⟨rfl, hg, hw⟩
    have HG := Lib.hid hg
    have HW := Lib.hid hw
    have HM1 := Lib.hid (HM.out.grown hg hR)
    clear hg hw H HM
    go_wp2_with fail
    refine (Tryz.strings_Index _ _ m _ (by decide) HM1.out.2).mono ?_
    rintro e w2 ⟨rfl, rfl⟩
    rcases HC.out with ⟨cl, c0, c1, hx, hl, hi⟩ | ⟨hno, hbad⟩
    · have HX := Lib.hid hx
      have HI : Hid (Lib.index [114, 115, 101] x = cl - 1) := Lib.hid hi
      clear hx hi
      simp only [HI.out]
      have hl2 : (x.length : Int) = 1 := by omega
      clear hl
      go_wp2
      go_ret
      exact ⟨HG.out, .inl ⟨cl, ws, ⟨c0, c1⟩, by rw [HX.out]; rfl, by show Ending.returned (Value.int .i64 (1 + (cl - 1))) = _; rw [show (1 : Int) + (cl - 1) = cl by omega], HW.out⟩⟩
    · have HNO := Lib.hid hno
      clear hno
      have hbad2 : ¬ (x.length : Int) = 1 ∨ Lib.index [114, 115, 101] x = -1 := by
        rcases hbad with h | h
        · exact .inl (by omega)
        · exact .inr h
      clear hbad
      have K : Hid (¬ ∃ (a : Int) (l : List (List UInt8)), (1 ≤ a ∧ a ≤ 3) ∧ x :: ws = [letF a] ++ l) := Lib.hid (by
        rintro ⟨a, l, ha, e⟩
        exact HNO.out ⟨a, ha, (List.cons.inj e).1⟩)
      rcases hbad2 with h | h
      · go_wp2_with (go_at_call 53; refine (giveUp_any _).mono ?_; rintro e w3 ⟨rfl, rfl⟩)
        exact ⟨rfl, HG.out, .inr ⟨K.out, rfl⟩⟩
      · have HI := Lib.hid h
        clear h
        simp only [HI.out]
        go_wp2_with (go_at_call 53; refine (giveUp_any _).mono ?_; rintro e w3 ⟨rfl, rfl⟩)
        all_goals exact ⟨rfl, HG.out, .inr ⟨K.out, rfl⟩⟩
set_option maxHeartbeats 800000 in
theorem finish_yes {R S : Nat} {w : World} (h : Wds w R S []) :
    Calls Tryz.prog 90 #[.pointer (some ⟨R, 0, none⟩)] w fun e w' => e = .returned (.tuple #[]) ∧ w' = w := by
  obtain ⟨A, c, hb, hl, hm, -⟩ := h
  have bc := (boxCells hb).1
  clear hb
  simp only [List.length_nil] at *
  go_enter Tryz.func90, Tryz.ntmps90
  go_wp2
  go_end0
  exact ⟨rfl, rfl⟩
set_option maxHeartbeats 800000 in
theorem finish_no {R S : Nat} {x : List UInt8} {ws : List (List UInt8)} {w : World} (h : Wds w R S (x :: ws)) :
    Calls Tryz.prog 90 #[.pointer (some ⟨R, 0, none⟩)] w fun e w' => e = gaveUp ∧ w' = w := by
  obtain ⟨A, c, hb, hl, hm, -⟩ := h
  have bc := (boxCells hb).1
  clear hb
  simp only [List.length_cons] at *
  go_enter Tryz.func90, Tryz.ntmps90
  go_wp2_with (go_at_call 53; refine (giveUp_any _).mono ?_; rintro e w1 ⟨rfl, rfl⟩)
  exact ⟨rfl, rfl, rfl⟩
theorem Wds.reader {w : World} {R S : Nat} {ws : List (List UInt8)} (h : Wds w R S ws) : R < w.heap.size := by
  obtain ⟨A, c, hb, -⟩ := h
  exact (Array.getElem?_eq_some_iff.1 hb).1
set_option maxHeartbeats 1600000 in
theorem span_post {R S : Nat} {ws : List (List UInt8)} {w : World} (h : Wds w R S ws) :
    Calls Tryz.prog 89 #[.pointer (some ⟨R, 0, none⟩)] w fun e w' => PartPost w R S ws (Int × Int) (fun p => Bd p.1 ∧ Bd p.2) (fun p => [Lib.itoa p.1, Lib.itoa p.2]) (fun p => spV p.1 p.2) e w' := by
  have hR := h.reader
  have H0 := Lib.hid h
  have H := Lib.hid (h.below ((Below.refl w.heap.size w).alloc (Nat.le_refl _) (.cells #[.int .i64 0, .int .i64 0] 36)))
  have HG0 : Hid (w.grownBy (w.alloc (.cells #[.int .i64 0, .int .i64 0] 36)) (some R)) := Lib.hid ⟨rfl, rfl, rfl, by simp, fun i hi _ => Below.heap_alloc _ _ _ hi⟩
  have HB0 := Lib.hid (heap_new w (.cells #[.int .i64 0, .int .i64 0] 36) rfl)
  clear h
  go_enter Tryz.func89, Tryz.ntmps89
  go_wp2_with fail
  refine (number_post H.out).mono ?_
  rintro e w1 ⟨hg, ⟨a, l, ha, hl, rfl, hw⟩ | ⟨hno, rfl⟩⟩
  · have HG1 := Lib.hid (grown_tr HG0.out hg)
    have HB1 := Lib.hid ((hg.block w.heap.size (by simp) (fun e => Nat.ne_of_lt hR (Option.some.inj e).symm)).trans HB0.out)
    have HL := Lib.hid hl
    have HW := Lib.hid hw
    clear hg hl hw H HG0 HB0
    go_wp2_with fail
    refine (number_post HW.out).mono ?_
    rintro e w2 ⟨hg, ⟨b, l2, hb, hl2, rfl, hw⟩ | ⟨hno, rfl⟩⟩
    · have HG2 := Lib.hid (grown_tr HG1.out hg)
      have hsz : w.heap.size < w1.heap.size := (Array.getElem?_eq_some_iff.1 HB1.out).1
      have hb2 := (hg.block w.heap.size hsz (fun e => Nat.ne_of_lt hR (Option.some.inj e).symm)).trans HB1.out
      have HB2 := Lib.hid hb2
      have zc := (boxCells hb2).1
      have zf := (boxCells hb2).2
      have zn := (Array.getElem?_eq_some_iff.1 hb2).1
      have HL2 := Lib.hid hl2
      have HW2 := Lib.hid hw
      clear hg hl2 hw HW HG1 HB1 hb2
      have hSR : S ≠ w.heap.size := by
        obtain ⟨A, c, -, -, -, hx⟩ := H0.out
        rcases hx with hx | ⟨o, -, -, hlt, -⟩
        · rw [HL.out] at hx; simp at hx
        · exact Nat.ne_of_lt hlt
      go_wp2_with fail
      have y1 := (boxCells (heap_setCell_same (o := 1) (heap_setCell_same (o := 0) HB2.out (.int .i64 a)) (.int .i64 b))).1
      refine bodyPost_ret (v := spV a b) (by simp [results, Tryz.results89, go_sem, y1]) rfl ?_
      exact ⟨grown_sets (grown_sets HG2.out (Nat.le_refl _) _) (Nat.le_refl _) _, .inl ⟨(a, b), l2, ⟨ha, hb⟩, by rw [HL.out, HL2.out]; rfl, rfl, (HW2.out.set (Ne.symm (Nat.ne_of_lt hR)) hSR _).set (Ne.symm (Nat.ne_of_lt hR)) hSR _⟩⟩
    · have K : Hid (¬ ∃ (p : Int × Int) (l : List (List UInt8)), (Bd p.1 ∧ Bd p.2) ∧ ws = [Lib.itoa p.1, Lib.itoa p.2] ++ l) := Lib.hid (by
        rintro ⟨p, l', ⟨hp, hq⟩, e⟩
        rw [HL.out] at e
        exact hno ⟨p.2, l', hq, (List.cons.inj e).2⟩)
      have HG2 := Lib.hid (grown_tr HG1.out hg)
      clear hno hg
      go_wp2
      exact ⟨rfl, HG2.out, .inr ⟨K.out, rfl⟩⟩
  · have K : Hid (¬ ∃ (p : Int × Int) (l : List (List UInt8)), (Bd p.1 ∧ Bd p.2) ∧ ws = [Lib.itoa p.1, Lib.itoa p.2] ++ l) := Lib.hid (by
      rintro ⟨p, l', ⟨hp, hq⟩, e⟩
      exact hno ⟨p.1, Lib.itoa p.2 :: l', hp, e⟩)
    have HG2 := Lib.hid (grown_tr HG0.out hg)
    clear hno hg
    go_wp2
    exact ⟨rfl, HG2.out, .inr ⟨K.out, rfl⟩⟩

open Go.RowKit Go.Maps
theorem pieces (row : List UInt8) : (Lib.splitB ⟨#[32]⟩ 0 (Lib.countB ⟨row.toArray⟩ ⟨#[32]⟩) ⟨row.toArray⟩).map Value.string = (spl 32 row).map str := by
  have e := Lib.splitB_data ⟨#[32]⟩ 0 (Lib.countB ⟨row.toArray⟩ ⟨#[32]⟩) ⟨row.toArray⟩
  have e2 : Lib.splitK [32] 0 (Lib.countB ⟨row.toArray⟩ ⟨#[32]⟩) row = spl 32 row := split_spl 32 row
  have e3 := e.trans e2
  rw [← e3, List.map_map]
  refine List.map_congr_left fun p _ => ?_
  simp [str]
theorem pieces_len (row : List UInt8) : (spl 32 row).length = Lib.countB ⟨row.toArray⟩ ⟨#[32]⟩ + 1 := by
  have e := Lib.splitB_all ⟨#[32]⟩ (by decide) 0 _ ⟨row.toArray⟩ rfl
  rw [← e]
  have := congrArg List.length (pieces row)
  simpa using this.symm
/-- What lies in memory while a line is read: the reading so far, the result's place, the reader. -/
def RdAt (w : World) (gs : Array Value) (ws : List (List UInt8)) (W : World) : Prop :=
  Frm w [(w.heap.size + 1 + 1 + 1, .cells gs 51), (w.heap.size, .cells #[.int .i64 0, .int .i64 0, .int .i64 0, .int .i64 0, .int .i64 0, .int .i64 0, .int .i64 0, .int .i64 0, .int .i64 0, .int .i64 0] 51)] W ∧ Wds W (w.heap.size + 1 + 1) (w.heap.size + 1) ws
theorem RdAt.grown {w W W1 : World} {gs : Array Value} {ws ws' : List (List UInt8)} (h : RdAt w gs ws W) (hg : W.grownBy W1 (some (w.heap.size + 1 + 1))) (hw : Wds W1 (w.heap.size + 1 + 1) (w.heap.size + 1) ws') : RdAt w gs ws' W1 :=
  ⟨Frm.grown h.1 hg (by omega) (fun p hp => by
    simp only [List.mem_cons, List.not_mem_nil, or_false] at hp
    rcases hp with rfl | rfl <;> simp <;> omega), hw⟩
theorem RdAt.put {w W : World} {gs : Array Value} {ws : List (List UInt8)} (h : RdAt w gs ws W) (o : Nat) (u : Value) : RdAt w (gs.setIfInBounds o u) ws (W.setCell ⟨w.heap.size + 1 + 1 + 1, o, none⟩ u) :=
  ⟨Frm.put h.1 (by omega) (fun p hp => by
    simp only [List.mem_cons, List.not_mem_nil, or_false] at hp
    subst hp
    simp
    omega) o u, h.2.set (by simp) (by simp) u⟩
theorem rd_start (w : World) (ws : List (List UInt8)) (hl : ws.length ≤ maxLen) {k : Nat} (hk : k = w.heap.size + 1) :
    RdAt w #[.int .i64 0, .int .i64 0, .int .i64 0, .int .i64 0, .int .i64 0, .int .i64 0, .int .i64 0, .int .i64 0, .int .i64 0, .int .i64 0] ws ((((w.alloc (.cells #[.int .i64 0, .int .i64 0, .int .i64 0, .int .i64 0, .int .i64 0, .int .i64 0, .int .i64 0, .int .i64 0, .int .i64 0, .int .i64 0] 51)).alloc (.cells (ws.map str).toArray 9)).alloc (.cells #[.slice (some ⟨k, 0, none⟩) ws.length ws.length] 139)).alloc (.cells #[.int .i64 0, .int .i64 0, .int .i64 0, .int .i64 0, .int .i64 0, .int .i64 0, .int .i64 0, .int .i64 0, .int .i64 0, .int .i64 0] 51)) := by
  subst hk
  refine ⟨Frm.add (Frm.alloc (Frm.alloc (Frm.add (Frm.nil w) _ rfl) _) _) _ (by simp), some ⟨w.heap.size + 1, 0, none⟩, ws.length, ?_, Nat.le_refl _, hl, ?_⟩
  · exact blk_alloc (heap_new _ _ (by simp)) _
  · by_cases h0 : ws = []
    · exact .inl h0
    · refine .inr ⟨0, rfl, by omega, by simp, fun i x hi => ?_⟩
      have hb : ((((w.alloc (.cells #[.int .i64 0, .int .i64 0, .int .i64 0, .int .i64 0, .int .i64 0, .int .i64 0, .int .i64 0, .int .i64 0, .int .i64 0, .int .i64 0] 51)).alloc (.cells (ws.map str).toArray 9)).alloc (.cells #[.slice (some ⟨w.heap.size + 1, 0, none⟩) ws.length ws.length] 139)).alloc (.cells #[.int .i64 0, .int .i64 0, .int .i64 0, .int .i64 0, .int .i64 0, .int .i64 0, .int .i64 0, .int .i64 0, .int .i64 0, .int .i64 0] 51)).heap[w.heap.size + 1]? = some (.cells (ws.map str).toArray 9) := blk_alloc (blk_alloc (heap_new _ _ (by simp)) _) _
      rw [Nat.zero_add, (boxCells hb).1 i]
      simp [hi]
def RowPost (w : World) (row : List UInt8) (e : Ending) (w' : World) : Prop :=
  Below w.heap.size w w' ∧ ((∃ r, PrR r ∧ row = rowF r ∧ e = .returned (rdV r)) ∨ ((¬ ∃ r, PrR r ∧ row = rowF r) ∧ e = gaveUp))
set_option maxHeartbeats 8000000 in
set_option maxRecDepth 100000 in
theorem reading_any {row : List UInt8} {w : World} {m : Int} (hm : MxL w m) (hmg : 1 < w.heap.size) (hl : row.length < 4000000000) :
    Calls Tryz.prog 54 #[str row] w fun e w' => RowPost w row e w' := by
  have HM := Lib.hid hm
  have HP := Lib.hid (pieces row)
  have HPL := Lib.hid (pieces_len row)
  have hlen : (spl 32 row).length ≤ maxLen := by
    have h1 : Lib.countB ⟨row.toArray⟩ ⟨#[32]⟩ ≤ row.length := Lib.countB_le ⟨#[32]⟩ (by decide) row.length ⟨row.toArray⟩ (Nat.le_refl _)
    rw [pieces_len]
    unfold maxLen
    omega
  clear hm
  go_enter Tryz.func54, Tryz.ntmps54
  go_wp2_with fail
  refine (Tryz.strings_Split _ _ m _ (by show row.length < 4294967281; omega) (HM.out.below ((Below.refl w.heap.size w).alloc (Nat.le_refl _) _)).2 (by decide)).mono ?_
  rintro e w1 ⟨rfl, rfl⟩
  rw [HP.out]
  simp only [← HPL.out]
  obtain ⟨ws0, hs0⟩ : ∃ l, spl 32 row = l := ⟨_, rfl⟩
  rw [hs0] at hlen ⊢
  have HS := Lib.hid hs0
  clear hs0 HP HPL
  go_upto_region 3 with fail
  have HRD := Lib.hid (rd_start w ws0 hlen (k := w.heap.size + 1) rfl)
  clear hlen
  go_wp2_with fail
  refine (number_post HRD.out.2).mono ?_
  rintro e w2 ⟨hg, ⟨a0, l0, ha0, hl0, rfl, hw⟩ | ⟨hno, rfl⟩⟩
  case' inr =>
    have K : Hid (¬ ∃ r, PrR r ∧ row = rowF r) := Lib.hid (by
      rintro ⟨r, hr, e⟩
      have q := row_spl r
      rw [← e, HS.out] at q
      have q2 := congrArg (List.drop 0) q
      simp only [wordsF, List.cons_append, List.nil_append, List.drop_succ_cons, List.drop_zero] at q2
      exact hno ⟨_, _, hr.n _ (by simp), q2⟩)
    have HB := Lib.hid (HRD.out.1.b)
    have HG := Lib.hid (Frm.grown HRD.out.1 hg (by omega) (fun p hp => by
      simp only [List.mem_cons, List.not_mem_nil, or_false] at hp
      rcases hp with rfl | rfl <;> simp <;> omega)).b
    clear hno hg HRD
    go_wp2
    exact ⟨rfl, HG.out, .inr ⟨K.out, rfl⟩⟩
  have HL0 := Lib.hid hl0
  have HRq := Lib.hid (HRD.out.grown hg hw)
  clear HRD hg hw hl0
  have HRD := HRq
  clear HRq
  have xc := HRD.out.1.cells (List.mem_cons_self ..)
  have xf := HRD.out.1.free (List.mem_cons_self ..)
  have xn := HRD.out.1.lt (List.mem_cons_self ..)
  go_upto_region 4 with fail
  have HRq := Lib.hid (show RdAt w #[Value.int .i64 a0, .int .i64 0, .int .i64 0, .int .i64 0, .int .i64 0, .int .i64 0, .int .i64 0, .int .i64 0, .int .i64 0, .int .i64 0] l0 _ from (HRD.out.put 0 (.int .i64 a0)))
  clear HRD xc xf xn
  have HRD := HRq
  clear HRq
  go_wp2_with fail
  refine (number_post HRD.out.2).mono ?_
  rintro e w3 ⟨hg, ⟨a1, l1, ha1, hl1, rfl, hw⟩ | ⟨hno, rfl⟩⟩
  case' inr =>
    have K : Hid (¬ ∃ r, PrR r ∧ row = rowF r) := Lib.hid (by
      rintro ⟨r, hr, e⟩
      have q := row_spl r
      rw [← e, HS.out, HL0.out] at q
      have q2 := congrArg (List.drop 1) q
      simp only [wordsF, List.cons_append, List.nil_append, List.drop_succ_cons, List.drop_zero] at q2
      exact hno ⟨_, _, hr.n _ (by simp), q2⟩)
    have HB := Lib.hid (HRD.out.1.b)
    have HG := Lib.hid (Frm.grown HRD.out.1 hg (by omega) (fun p hp => by
      simp only [List.mem_cons, List.not_mem_nil, or_false] at hp
      rcases hp with rfl | rfl <;> simp <;> omega)).b
    clear hno hg HRD
    go_wp2
    exact ⟨rfl, HG.out, .inr ⟨K.out, rfl⟩⟩
  have HL1 := Lib.hid hl1
  have HRq := Lib.hid (HRD.out.grown hg hw)
  clear HRD hg hw hl1
  have HRD := HRq
  clear HRq
  have xc := HRD.out.1.cells (List.mem_cons_self ..)
  have xf := HRD.out.1.free (List.mem_cons_self ..)
  have xn := HRD.out.1.lt (List.mem_cons_self ..)
  go_upto_region 5 with fail
  have HRq := Lib.hid (show RdAt w #[Value.int .i64 a0, .int .i64 a1, .int .i64 0, .int .i64 0, .int .i64 0, .int .i64 0, .int .i64 0, .int .i64 0, .int .i64 0, .int .i64 0] l1 _ from (HRD.out.put 1 (.int .i64 a1)))
  clear HRD xc xf xn
  have HRD := HRq
  clear HRq
  go_wp2_with fail
  refine (clock_post HRD.out.2 (HM.out.below HRD.out.1.b) (by omega)).mono ?_
  rintro e w4 ⟨hg, ⟨a2, l2, ha2, hl2, rfl, hw⟩ | ⟨hno, rfl⟩⟩
  case' inr =>
    have K : Hid (¬ ∃ r, PrR r ∧ row = rowF r) := Lib.hid (by
      rintro ⟨r, hr, e⟩
      have q := row_spl r
      rw [← e, HS.out, HL0.out, HL1.out] at q
      have q2 := congrArg (List.drop 2) q
      simp only [wordsF, List.cons_append, List.nil_append, List.drop_succ_cons, List.drop_zero] at q2
      exact hno ⟨_, _, ⟨hr.c0, hr.c1⟩, q2⟩)
    have HB := Lib.hid (HRD.out.1.b)
    have HG := Lib.hid (Frm.grown HRD.out.1 hg (by omega) (fun p hp => by
      simp only [List.mem_cons, List.not_mem_nil, or_false] at hp
      rcases hp with rfl | rfl <;> simp <;> omega)).b
    clear hno hg HRD
    go_wp2
    exact ⟨rfl, HG.out, .inr ⟨K.out, rfl⟩⟩
  have HL2 := Lib.hid hl2
  have HRq := Lib.hid (HRD.out.grown hg hw)
  clear HRD hg hw hl2
  have HRD := HRq
  clear HRq
  have xc := HRD.out.1.cells (List.mem_cons_self ..)
  have xf := HRD.out.1.free (List.mem_cons_self ..)
  have xn := HRD.out.1.lt (List.mem_cons_self ..)
  go_upto_region 6 with fail
  have HRq := Lib.hid (show RdAt w #[Value.int .i64 a0, .int .i64 a1, .int .i64 a2, .int .i64 0, .int .i64 0, .int .i64 0, .int .i64 0, .int .i64 0, .int .i64 0, .int .i64 0] l2 _ from (HRD.out.put 2 (.int .i64 a2)))
  clear HRD xc xf xn
  have HRD := HRq
  clear HRq
  go_wp2_with fail
  refine (number_post HRD.out.2).mono ?_
  rintro e w5 ⟨hg, ⟨a3, l3, ha3, hl3, rfl, hw⟩ | ⟨hno, rfl⟩⟩
  case' inr =>
    have K : Hid (¬ ∃ r, PrR r ∧ row = rowF r) := Lib.hid (by
      rintro ⟨r, hr, e⟩
      have q := row_spl r
      rw [← e, HS.out, HL0.out, HL1.out, HL2.out] at q
      have q2 := congrArg (List.drop 3) q
      simp only [wordsF, List.cons_append, List.nil_append, List.drop_succ_cons, List.drop_zero] at q2
      exact hno ⟨_, _, hr.n _ (by simp), q2⟩)
    have HB := Lib.hid (HRD.out.1.b)
    have HG := Lib.hid (Frm.grown HRD.out.1 hg (by omega) (fun p hp => by
      simp only [List.mem_cons, List.not_mem_nil, or_false] at hp
      rcases hp with rfl | rfl <;> simp <;> omega)).b
    clear hno hg HRD
    go_wp2
    exact ⟨rfl, HG.out, .inr ⟨K.out, rfl⟩⟩
  have HL3 := Lib.hid hl3
  have HRq := Lib.hid (HRD.out.grown hg hw)
  clear HRD hg hw hl3
  have HRD := HRq
  clear HRq
  have xc := HRD.out.1.cells (List.mem_cons_self ..)
  have xf := HRD.out.1.free (List.mem_cons_self ..)
  have xn := HRD.out.1.lt (List.mem_cons_self ..)
  go_upto_region 7 with fail
  have HRq := Lib.hid (show RdAt w #[Value.int .i64 a0, .int .i64 a1, .int .i64 a2, .int .i64 a3, .int .i64 0, .int .i64 0, .int .i64 0, .int .i64 0, .int .i64 0, .int .i64 0] l3 _ from (HRD.out.put 3 (.int .i64 a3)))
  clear HRD xc xf xn
  have HRD := HRq
  clear HRq
  go_wp2_with fail
  refine (span_post HRD.out.2).mono ?_
  rintro e w6 ⟨hg, ⟨a4, l4, ha4, hl4, rfl, hw⟩ | ⟨hno, rfl⟩⟩
  case' inr =>
    have K : Hid (¬ ∃ r, PrR r ∧ row = rowF r) := Lib.hid (by
      rintro ⟨r, hr, e⟩
      have q := row_spl r
      rw [← e, HS.out, HL0.out, HL1.out, HL2.out, HL3.out] at q
      have q2 := congrArg (List.drop 4) q
      simp only [wordsF, List.cons_append, List.nil_append, List.drop_succ_cons, List.drop_zero] at q2
      exact hno ⟨(_, _), _, ⟨hr.n _ (by simp), hr.n _ (by simp)⟩, q2⟩)
    have HB := Lib.hid (HRD.out.1.b)
    have HG := Lib.hid (Frm.grown HRD.out.1 hg (by omega) (fun p hp => by
      simp only [List.mem_cons, List.not_mem_nil, or_false] at hp
      rcases hp with rfl | rfl <;> simp <;> omega)).b
    clear hno hg HRD
    go_wp2
    exact ⟨rfl, HG.out, .inr ⟨K.out, rfl⟩⟩
  have HL4 := Lib.hid hl4
  have HRq := Lib.hid (HRD.out.grown hg hw)
  clear HRD hg hw hl4
  have HRD := HRq
  clear HRq
  have xc := HRD.out.1.cells (List.mem_cons_self ..)
  have xf := HRD.out.1.free (List.mem_cons_self ..)
  have xn := HRD.out.1.lt (List.mem_cons_self ..)
  go_upto_region 8 with fail
  have HRq := Lib.hid (show RdAt w #[Value.int .i64 a0, .int .i64 a1, .int .i64 a2, .int .i64 a3, .int .i64 a4.1, .int .i64 a4.2, .int .i64 0, .int .i64 0, .int .i64 0, .int .i64 0] l4 _ from ((HRD.out.put 4 (.int .i64 a4.1)).put 5 (.int .i64 a4.2)))
  clear HRD xc xf xn
  have HRD := HRq
  clear HRq
  go_wp2_with fail
  refine (span_post HRD.out.2).mono ?_
  rintro e w7 ⟨hg, ⟨a5, l5, ha5, hl5, rfl, hw⟩ | ⟨hno, rfl⟩⟩
  case' inr =>
    have K : Hid (¬ ∃ r, PrR r ∧ row = rowF r) := Lib.hid (by
      rintro ⟨r, hr, e⟩
      have q := row_spl r
      rw [← e, HS.out, HL0.out, HL1.out, HL2.out, HL3.out, HL4.out] at q
      have q2 := congrArg (List.drop 6) q
      simp only [wordsF, List.cons_append, List.nil_append, List.drop_succ_cons, List.drop_zero] at q2
      exact hno ⟨(_, _), _, ⟨hr.n _ (by simp), hr.n _ (by simp)⟩, q2⟩)
    have HB := Lib.hid (HRD.out.1.b)
    have HG := Lib.hid (Frm.grown HRD.out.1 hg (by omega) (fun p hp => by
      simp only [List.mem_cons, List.not_mem_nil, or_false] at hp
      rcases hp with rfl | rfl <;> simp <;> omega)).b
    clear hno hg HRD
    go_wp2
    exact ⟨rfl, HG.out, .inr ⟨K.out, rfl⟩⟩
  have HL5 := Lib.hid hl5
  have HRq := Lib.hid (HRD.out.grown hg hw)
  clear HRD hg hw hl5
  have HRD := HRq
  clear HRq
  have xc := HRD.out.1.cells (List.mem_cons_self ..)
  have xf := HRD.out.1.free (List.mem_cons_self ..)
  have xn := HRD.out.1.lt (List.mem_cons_self ..)
  go_upto_region 9 with fail
  have HRq := Lib.hid (show RdAt w #[Value.int .i64 a0, .int .i64 a1, .int .i64 a2, .int .i64 a3, .int .i64 a4.1, .int .i64 a4.2, .int .i64 a5.1, .int .i64 a5.2, .int .i64 0, .int .i64 0] l5 _ from ((HRD.out.put 6 (.int .i64 a5.1)).put 7 (.int .i64 a5.2)))
  clear HRD xc xf xn
  have HRD := HRq
  clear HRq
  go_wp2_with fail
  refine (span_post HRD.out.2).mono ?_
  rintro e w8 ⟨hg, ⟨a6, l6, ha6, hl6, rfl, hw⟩ | ⟨hno, rfl⟩⟩
  case' inr =>
    have K : Hid (¬ ∃ r, PrR r ∧ row = rowF r) := Lib.hid (by
      rintro ⟨r, hr, e⟩
      have q := row_spl r
      rw [← e, HS.out, HL0.out, HL1.out, HL2.out, HL3.out, HL4.out, HL5.out] at q
      have q2 := congrArg (List.drop 8) q
      simp only [wordsF, List.cons_append, List.nil_append, List.drop_succ_cons, List.drop_zero] at q2
      exact hno ⟨(_, _), _, ⟨hr.n _ (by simp), hr.n _ (by simp)⟩, q2⟩)
    have HB := Lib.hid (HRD.out.1.b)
    have HG := Lib.hid (Frm.grown HRD.out.1 hg (by omega) (fun p hp => by
      simp only [List.mem_cons, List.not_mem_nil, or_false] at hp
      rcases hp with rfl | rfl <;> simp <;> omega)).b
    clear hno hg HRD
    go_wp2
    exact ⟨rfl, HG.out, .inr ⟨K.out, rfl⟩⟩
  have HL6 := Lib.hid hl6
  have HRq := Lib.hid (HRD.out.grown hg hw)
  clear HRD hg hw hl6
  have HRD := HRq
  clear HRq
  have xc := HRD.out.1.cells (List.mem_cons_self ..)
  have xf := HRD.out.1.free (List.mem_cons_self ..)
  have xn := HRD.out.1.lt (List.mem_cons_self ..)
  go_upto_region 10 with fail
  have HRq := Lib.hid (show RdAt w #[Value.int .i64 a0, .int .i64 a1, .int .i64 a2, .int .i64 a3, .int .i64 a4.1, .int .i64 a4.2, .int .i64 a5.1, .int .i64 a5.2, .int .i64 a6.1, .int .i64 a6.2] l6 _ from ((HRD.out.put 8 (.int .i64 a6.1)).put 9 (.int .i64 a6.2)))
  clear HRD xc xf xn
  have HRD := HRq
  clear HRq
  cases l6 with
  | cons x l =>
    have K : Hid (¬ ∃ r, PrR r ∧ row = rowF r) := Lib.hid (by
      rintro ⟨r, hr, e⟩
      have q := row_spl r
      rw [← e, HS.out, HL0.out, HL1.out, HL2.out, HL3.out, HL4.out, HL5.out, HL6.out] at q
      have q2 := congrArg (List.drop 10) q
      simp [wordsF] at q2)
    have HG := Lib.hid HRD.out.1.b
    go_wp2_with fail
    refine (finish_no HRD.out.2).mono ?_
    rintro e w9 ⟨rfl, rfl⟩
    go_wp2
    exact ⟨rfl, HG.out, .inr ⟨K.out, rfl⟩⟩
  | nil =>
    have HROW : Hid (row = rowF ⟨a0, a1, a2, a3, a4.1, a4.2, a5.1, a5.2, a6.1, a6.2⟩) := Lib.hid (by
      have q := spl_join 32 row
      rw [HS.out, HL0.out, HL1.out, HL2.out, HL3.out, HL4.out, HL5.out, HL6.out] at q
      exact q.symm)
    have HPR : Hid (PrR ⟨a0, a1, a2, a3, a4.1, a4.2, a5.1, a5.2, a6.1, a6.2⟩) := Lib.hid ⟨ha2.1, ha2.2, fun x hx => by
      simp only [List.mem_cons, List.not_mem_nil, or_false] at hx
      rcases hx with rfl | rfl | rfl | rfl | rfl | rfl | rfl | rfl | rfl
      · exact ha0
      · exact ha1
      · exact ha3
      · exact ha4.1
      · exact ha4.2
      · exact ha5.1
      · exact ha5.2
      · exact ha6.1
      · exact ha6.2⟩
    go_wp2_with fail
    refine (finish_yes HRD.out.2).mono ?_
    rintro e w9 ⟨rfl, rfl⟩
    have xc := HRD.out.1.cells (List.mem_cons_self ..)
    have xd := HRD.out.1.cells (List.mem_cons_of_mem _ (List.mem_cons_self ..))
    have xf := HRD.out.1.free (List.mem_cons_of_mem _ (List.mem_cons_self ..))
    have xn := HRD.out.1.lt (List.mem_cons_of_mem _ (List.mem_cons_self ..))
    go_wp2_with fail
    have HT := (Frm.put (Frm.put (Frm.put (Frm.put (Frm.put (Frm.put (Frm.put (Frm.put (Frm.put (Frm.put (Frm.less (bs' := [(w.heap.size, .cells #[.int .i64 0, .int .i64 0, .int .i64 0, .int .i64 0, .int .i64 0, .int .i64 0, .int .i64 0, .int .i64 0, .int .i64 0, .int .i64 0] 51)]) HRD.out.1 (fun p hp => List.mem_cons_of_mem _ hp)) (Nat.le_refl _) (fun p hp => by cases hp) 0 (.int .i64 a0)) (Nat.le_refl _) (fun p hp => by cases hp) 1 (.int .i64 a1)) (Nat.le_refl _) (fun p hp => by cases hp) 2 (.int .i64 a2)) (Nat.le_refl _) (fun p hp => by cases hp) 3 (.int .i64 a3)) (Nat.le_refl _) (fun p hp => by cases hp) 4 (.int .i64 a4.1)) (Nat.le_refl _) (fun p hp => by cases hp) 5 (.int .i64 a4.2)) (Nat.le_refl _) (fun p hp => by cases hp) 6 (.int .i64 a5.1)) (Nat.le_refl _) (fun p hp => by cases hp) 7 (.int .i64 a5.2)) (Nat.le_refl _) (fun p hp => by cases hp) 8 (.int .i64 a6.1)) (Nat.le_refl _) (fun p hp => by cases hp) 9 (.int .i64 a6.2))
    have y1 := HT.cells (List.mem_cons_self ..)
    refine bodyPost_ret (v := rdV ⟨a0, a1, a2, a3, a4.1, a4.2, a5.1, a5.2, a6.1, a6.2⟩) (by simp [results, Tryz.results54, go_sem, y1]) rfl ⟨HT.b, .inl ⟨_, HPR.out, HROW.out, rfl⟩⟩
end Go.Proofs.YtiindlbllhbofaaGreatDoor
