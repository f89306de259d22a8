/- From the rows' data to the walks' words: the listed variables, stations, and what a law leaves. -/
import Derived.Test.YtffgcphmakfikaaDoorLcl
import Derived.Test.YtffgcphmakfikaaDoorTie
import Derived.Test.YtffgcphmakfikaaDoorCards
import Derived.ProofKit
import Derived.LaidMore
import Derived.OpenShut
import Derived.Stop.Joined
import Derived.ChangeSame
import Derived.Lib.LaidTab
import Derived.Deep.Slices
import Derived.Deep.Fields
import Derived.SevenTiedAt
import Derived.WideKeyArgs
set_option linter.unusedVariables false
set_option linter.unusedSimpArgs false
namespace Go.Proofs.YtffgcphmakfikaaDoor
open Go.ChangeShapes Go.WideShapes Go.ChangeAt Go.RowKit

section
variable {H : Type} {enc : TypeId × Value → H} {P : Program}
theorem trodAll_stays (hl : laidOutB P = true) {W W' : World} {sp' : Nat → Bool} : ∀ {ts : List TypeId} {vs : List Value} {ds : List (DataW H)} {ps : List MemPlace},
    (∀ t ∈ ts, P.readableRec t = true ∧ t < P.types.size) → DataW.TrodAll enc P W 0 (fun _ => true) true ts vs ds ps → (∀ p ∈ ps, W.sameAt W' p) → (∀ p ∈ ps, sp' p.block = true) → DataW.TrodAll enc P W' 0 sp' true ts vs ds ps
  | [], [], [], _, _, h, _, _ => h
  | t :: ts, v :: vs, d :: ds, _, hT, ⟨p, q, h1, h2, e⟩, hs, hp => ⟨p, q,
      WideElems.Trod_stays hl (hT t (List.mem_cons_self ..)).1 (hT t (List.mem_cons_self ..)).2 h1 (fun x hx => hs x (by rw [e]; exact List.mem_append_left _ hx)) (fun x hx => hp x (by rw [e]; exact List.mem_append_left _ hx)),
      trodAll_stays hl (fun u hu => hT u (List.mem_cons_of_mem _ hu)) h2 (fun x hx => hs x (by rw [e]; exact List.mem_append_right _ hx)) (fun x hx => hp x (by rw [e]; exact List.mem_append_right _ hx)), e⟩
theorem post_of_below {f : Func} {s : ChangeSpec} {apart fresh handsOn again : Bool} {W W' : World} {args : Array Value} {v : Value} {ds gs : List (DataW H)} {before pa pv : List MemPlace}
    (hW : DataW.Whole enc P f.params.toList s.vars apart W args.toList ds gs before)
    (hres : ∀ (b : Nat) (sp : Nat → Bool) (hd : Bool), DataW.TrodAll enc P W' b sp hd f.resultTypes.toList (v.resultList f.resultTypes.size) (s.fn H (ds ++ gs)).results [])
    (hargs : ∀ sp : Nat → Bool, (∀ p ∈ before, sp p.block = true) → DataW.TrodAll enc P W' 0 sp true f.params.toList args.toList (s.fn H (ds ++ gs)).args pa)
    (hvars : ∀ sp : Nat → Bool, (∀ p ∈ before, sp p.block = true) → DataW.TrodVars enc P W' sp s.vars (s.fn H (ds ++ gs)).vars pv)
    (hps : before = pa ++ pv) (hb : Below W.heap.size W W')
    (hok : ∀ (j : Nat) (t : TypeId) (r : Value), f.resultTypes[j]? = some t → (v.resultList f.resultTypes.size)[j]? = some r → Value.okWide P W' .any 0 t r) :
    s.post enc P f apart fresh handsOn again W args v W' := by
  have hlt : ∀ p ∈ before, p.block < W.heap.size := fun p hp => hW.lt p hp
  have hold : ∀ p ∈ before, (fun b => decide (b < W.heap.size)) p.block = true := fun p hp => by simpa using hlt p hp
  refine ⟨ds, gs, before, [], pa, pv, hW, hres _ _ _, hargs _ hold, hvars _ hold, World.keptBut_mono (fun p hp => ⟨hp, ?_⟩) (hb.frame (· ∈ before)), fun _ => ?_⟩
  · rw [hps, List.mem_append] at hp
    exact Or.inr hp
  · obtain ⟨_, _, _, _, _, hz, hn⟩ := hW
    refine ⟨hok, _, _, ([] ++ pa) ++ pv, ⟨[] ++ pa, pv, trodAll_append (hargs _ (fun _ _ => rfl)) (hres _ _ _), hvars _ (fun _ _ => rfl), rfl, ?_, ?_⟩, ?_⟩
    · intro b off hp
      have hin : MemPlace.cell b off ∈ before := by rw [hps]; simpa using hp
      rw [hb.frozen (hlt _ hin)]
      exact hz b off hin
    · intro ha
      have := hn ha
      rw [hps] at this
      simpa using this
    · intro p hp _
      rw [hps]
      simpa using hp
/-- What a law leaves: it has returned true, and below the heap's old end all is as it was. -/
theorem law_post (hl : laidOutB P = true) {f : Func} {s : ChangeSpec} {apart fresh handsOn again : Bool} {W W' : World} {args : Array Value} {ds gs : List (DataW H)} {before : List MemPlace} {tb : TypeId}
    (hv : s.vars = []) (hr : ∀ t ∈ f.params.toList, P.readableRec t = true ∧ t < P.types.size) (hrt : f.resultTypes = #[tb]) (htb : P.underlying tb = some .bool)
    (hs : s.fn H ds = { results := [.lit (.bool true)], args := ds })
    (hW : DataW.Whole enc P f.params.toList s.vars apart W args.toList ds gs before) (hb : Below W.heap.size W W') :
    s.post enc P f apart fresh handsOn again W args (.bool true) W' := by
  have hW' := hW
  obtain ⟨p, q, hA, hV, rfl, hz, hn⟩ := hW
  have hgs : gs = [] ∧ q = [] := by
    rw [hv] at hV
    cases gs with
    | nil => exact ⟨rfl, hV⟩
    | cons g r => exact absurd hV (by intro h; cases h)
  obtain ⟨rfl, rfl⟩ := hgs
  have hlt : ∀ x ∈ p, x.block < W.heap.size := fun x hx => hW'.lt x (by simp [hx])
  refine post_of_below (pa := p) (pv := []) hW' (fun _ _ _ => ?_) (fun sp hsp => ?_) (fun sp hsp => ?_) (by simp) hb ?_
  · rw [List.append_nil, hs, hrt]; exact trodAll_mk1 (shut_bool htb true)
  · rw [List.append_nil, hs]; exact trodAll_stays hl hr hA (fun x hx => hb.same (hlt x hx)) (fun x hx => hsp x (by simp [hx]))
  · rw [List.append_nil, hs, hv]; rfl
  · exact ok_one hrt rfl (okWide_bool_mk htb _)
end
theorem list_of {α : Type} {n : Nat} {Q : Nat → α → Prop} (h : ∀ i, i < n → ∃ c, Q i c) : ∃ l : List α, l.length = n ∧ ∀ i c, l[i]? = some c → Q i c := by
  induction n with
  | zero => exact ⟨[], rfl, fun i c hc => by simp at hc⟩
  | succ n ih =>
    obtain ⟨l, hl, hq⟩ := ih (fun i hi => h i (by omega))
    obtain ⟨c, hc⟩ := h n (by omega)
    refine ⟨l ++ [c], by simp [hl], fun i x hx => ?_⟩
    rcases Nat.lt_or_ge i n with hi | hi
    · rw [List.getElem?_append_left (by omega)] at hx
      exact hq i x hx
    · have hin : i < (l ++ [c]).length := (List.getElem?_eq_some_iff.1 hx).1
      have : i = n := by simp at hin; omega
      subst this
      rw [List.getElem?_append_right (by omega), hl] at hx
      simp at hx
      subst hx
      exact hc

theorem Tryd.own : ownKnob Tryd.prog.godebug = none := by kernel_rfl
theorem Tryd.laidOut : laidOutB Tryd.prog = true := by kernel_rfl
theorem gHolds : Tryd.prog.globalNamed "isobar/glass.holds" = some 0 := by kernel_rfl
theorem tHolds : (Tryd.prog.globals[0]?).map (·.type) = some 126 := by kernel_rfl
theorem gPow : Tryd.prog.globalNamed "internal/strconv.uint64pow10" = some 1 := by kernel_rfl
theorem tPow : (Tryd.prog.globals[1]?).map (·.type) = some 139 := by kernel_rfl

/-- What the listed variables give the walks. -/
theorem of_laid {W : World} (h : laidMetH Tryd.prog Rows.glassMoreRow.laid W) : Holds W ∧ Tab W := by
  rw [MakeChecks.laidMetH_plain _ _ _ (by kernel_rfl)] at h
  obtain ⟨ps, ⟨g0, t0, cs0, f0, p0, q0, hg0, ht0, hv0, hd0, ⟨g1, t1, cs1, f1, p1, q1, hg1, ht1, hv1, hd1, ⟨g2, t2, cs2, f2, p2, q2, hg2, ht2, hv2, hd2, ⟨g3, t3, cs3, f3, p3, q3, hg3, ht3, hv3, hd3, _, _⟩, _⟩, _⟩, _⟩, _, _⟩ := h
  obtain rfl := Option.some.inj (gPow.symm.trans hg2)
  obtain rfl := Option.some.inj (tPow.symm.trans ht2)
  obtain rfl := Option.some.inj (gHolds.symm.trans hg3)
  obtain rfl := Option.some.inj (tHolds.symm.trans ht3)
  have e2 := Lib.cells_of_tab (zs := Lib.pow10Tab) Tryd.underlying139 Tryd.underlying130 (by kernel_rfl) (by kernel_rfl) hd2
  have e3 := Lib.cells_of_tab (zs := tabL) Tryd.underlying126 Tryd.underlying3 (by kernel_rfl) (by kernel_rfl) hd3
  have hT : Lib.TabIs Tryd.prog W "internal/strconv.uint64pow10" .u64 Lib.pow10Tab := by
    unfold Lib.TabIs
    rw [hv2, ← e2]
  have hH : Lib.TabIs Tryd.prog W "isobar/glass.holds" .i64 tabL := by
    unfold Lib.TabIs
    rw [hv3, ← e3]
  have hc : ∀ i : Nat, i < 17 → W.cell? ⟨0, i, none⟩ = some (.int .i64 (tabL.getD i 0)) := fun i hi => hH.cell gHolds i (by simpa [tabL] using hi)
  exact ⟨⟨World.block_lt_of_cell? _ _ (hc 0 (by omega)), hc⟩, hT⟩

/-- The door's own heap meets the condition. -/
theorem door_met (os : Os) (args : Array Value) : laidMetH Tryd.prog Rows.glassMoreRow.laid ((World.doorLaid Tryd.prog 400 os).forCall (fun _ _ => 0) ⟨#[], args, []⟩).memory :=
  laidMetH_of_parts3 (fuel := 8) (laidMet_of_run' 8 (by kernel_rfl) (by kernel_rfl)) (by kernel_rfl) (by kernel_rfl)

section
variable {H : Type} {enc : TypeId × Value → H} {w : World} {base : Nat} {spare : Nat → Bool} {held : Bool}
set_option maxRecDepth 100000 in
theorem span_cells {fuel : Nat} {cs : List Value} {x : DataW H × List MemPlace} (h : DataW.trod enc Tryd.prog w base spare held fuel 23 cs = some x) : ∃ a b : Int, cs = [.int .i64 a, .int .i64 b] := by
  obtain ⟨xs, n, _, _, hl, hlen, hf⟩ := DataW.trod_struct Tryd.underlying23 h
  have c2 : Tryd.prog.cellsOf 23 = 2 := by kernel_rfl
  have c1 : Tryd.prog.cellsOf 3 = 1 := by kernel_rfl
  rw [c2] at hl
  match cs, hl with
  | [u, v], _ =>
    match xs, hlen with
    | [x0, x1], _ =>
      have h0 := hf 0 _ rfl
      have h1 := hf 1 _ rfl
      obtain ⟨a, ha, _⟩ := DataW.trod_int Tryd.underlying3 h0
      obtain ⟨b, hb, _⟩ := DataW.trod_int Tryd.underlying3 h1
      replace ha : List.take (Tryd.prog.cellsOf 3) (List.drop 0 [u, v]) = [.int .i64 a] := ha
      replace hb : List.take (Tryd.prog.cellsOf 3) (List.drop 1 [u, v]) = [.int .i64 b] := hb
      rw [c1] at ha hb
      simp at ha hb
      exact ⟨a, b, by rw [ha, hb]⟩
set_option maxRecDepth 100000 in
theorem check_cells {fuel : Nat} {cs : List Value} {x : DataW H × List MemPlace} (h : DataW.trod enc Tryd.prog w base spare held fuel 31 cs = some x) : ∃ c : Chk, cs = [.int .i64 c.day, .int .i64 c.lo, .int .i64 c.hi] := by
  obtain ⟨xs, n, _, _, hl, hlen, hf⟩ := DataW.trod_struct Tryd.underlying31 h
  have c3 : Tryd.prog.cellsOf 31 = 3 := by kernel_rfl
  have c2 : Tryd.prog.cellsOf 23 = 2 := by kernel_rfl
  have c1 : Tryd.prog.cellsOf 3 = 1 := by kernel_rfl
  rw [c3] at hl
  match cs, hl with
  | [u, v, z], _ =>
    match xs, hlen with
    | [x0, x1], _ =>
      have h0 := hf 0 _ rfl
      have h1 := hf 1 _ rfl
      obtain ⟨a, ha, _⟩ := DataW.trod_int Tryd.underlying3 h0
      obtain ⟨b, d, hb⟩ := span_cells h1
      replace ha : List.take (Tryd.prog.cellsOf 3) (List.drop 0 [u, v, z]) = [.int .i64 a] := ha
      replace hb : List.take (Tryd.prog.cellsOf 23) (List.drop 1 [u, v, z]) = [.int .i64 b, .int .i64 d] := hb
      rw [c1] at ha
      rw [c2] at hb
      simp at ha hb
      exact ⟨⟨a, b, d⟩, by rw [ha, hb.1, hb.2]⟩
set_option maxRecDepth 100000 in
theorem checks_slice {fuel : Nat} {cs : List Value} {x : DataW H × List MemPlace} (h : DataW.trod enc Tryd.prog w base (fun _ => true) held fuel 24 cs = some x) : ∃ v l, cs = [v] ∧ Chks w v l := by
  have c3 : Tryd.prog.cellsOf 31 = 3 := by kernel_rfl
  rcases Go.Deep.open_slice Tryd.underlying24 h with ⟨rfl, _⟩ | ⟨a, len, cap, m, n, D, Pl, rfl, hb, hl, hm, hmm, hx, hi⟩
  · exact ⟨_, [], rfl, none, 0, rfl, Nat.le_refl _, by unfold maxLen; omega, .inl rfl⟩
  · have hmc : m = cap := by simpa using hmm
    subst hmc
    rw [c3] at hi
    have hq : ∀ i, i < len → ∃ c : Chk, w.cell? (a.add (i * 3)) = some (.int .i64 c.day) ∧ w.cell? (a.add (i * 3 + 1)) = some (.int .i64 c.lo) ∧ w.cell? (a.add (i * 3 + 2)) = some (.int .i64 c.hi) := fun i hil => by
      obtain ⟨cs', hc, ht⟩ := hi i (by omega)
      obtain ⟨_, hcl, hat⟩ := World.cells?_some hc
      obtain ⟨c, rfl⟩ := check_cells ht
      have q0 := hat 0 (by omega); have q1 := hat 1 (by omega); have q2 := hat 2 (by omega)
      rw [Go.Deep.add_add] at q0 q1 q2
      exact ⟨c, q0, q1, q2⟩
    obtain ⟨l, hll, hlq⟩ := list_of hq
    refine ⟨_, l, rfl, some a, m, by rw [hll], by omega, hm, ?_⟩
    rcases Nat.eq_zero_or_pos len with h0 | h0
    · exact .inl (List.length_eq_zero_iff.1 (by omega))
    · obtain ⟨b, off, spot⟩ := a
      have hc0 := (hlq 0 l[0] (List.getElem?_eq_getElem (by omega))).1
      have hspot : spot = none := by simpa [Addr.add] using World.cell?_spot hc0
      subst hspot
      refine .inr ⟨b, off, rfl, ?_, fun i c hc => ?_⟩
      · have := World.block_lt_of_cell? _ _ hc0
        simpa [Go.WideShapes.add_plain] using this
      · obtain ⟨q0, q1, q2⟩ := hlq i c hc
        simp only [Go.WideShapes.add_plain] at q0 q1 q2
        exact ⟨q0, q1, q2⟩
set_option maxRecDepth 100000 in
theorem open_station {v : Value} {d : DataW H} {ps : List MemPlace} {b0 : Nat} (hv : Value.okWide Tryd.prog w .any b0 26 v) (h : DataW.Trod enc Tryd.prog w base (fun _ => true) held 26 v d ps) :
    ∃ s v' cs, v = stV s v' ∧ Chks w v' cs := by
  obtain ⟨fuel, h⟩ := h
  obtain ⟨cs, rfl, hsz⟩ := okWide_struct Tryd.underlying26 hv
  obtain ⟨xs, n, _, _, hl, hlen, hf⟩ := DataW.trod_struct Tryd.underlying26 h
  have c9 : Tryd.prog.cellsOf 26 = 9 := by kernel_rfl
  have c2 : Tryd.prog.cellsOf 23 = 2 := by kernel_rfl
  have c1 : Tryd.prog.cellsOf 3 = 1 := by kernel_rfl
  have c1' : Tryd.prog.cellsOf 24 = 1 := by kernel_rfl
  obtain ⟨l⟩ := cs
  rw [c9] at hsz
  match l, hsz with
  | [u0, u1, u2, u3, u4, u5, u6, u7, u8], _ =>
    match xs, hlen with
    | [x0, x1, x2, x3, x4, x5, x6], _ =>
      have h0 := hf 0 _ rfl; have h1 := hf 1 _ rfl; have h2 := hf 2 _ rfl; have h3 := hf 3 _ rfl; have h4 := hf 4 _ rfl; have h5 := hf 5 _ rfl; have h6 := hf 6 _ rfl
      obtain ⟨a0, b0', e0⟩ := span_cells h0
      obtain ⟨a1, b1, e1⟩ := span_cells h1
      obtain ⟨a2, e2, _⟩ := DataW.trod_int Tryd.underlying3 h2
      obtain ⟨a3, e3, _⟩ := DataW.trod_int Tryd.underlying3 h3
      obtain ⟨a4, e4, _⟩ := DataW.trod_int Tryd.underlying3 h4
      obtain ⟨a5, e5, _⟩ := DataW.trod_int Tryd.underlying3 h5
      obtain ⟨v', l', e6, hc⟩ := checks_slice h6
      replace e0 : List.take (Tryd.prog.cellsOf 23) (List.drop 0 [u0, u1, u2, u3, u4, u5, u6, u7, u8]) = [.int .i64 a0, .int .i64 b0'] := e0
      replace e1 : List.take (Tryd.prog.cellsOf 23) (List.drop 2 [u0, u1, u2, u3, u4, u5, u6, u7, u8]) = [.int .i64 a1, .int .i64 b1] := e1
      replace e2 : List.take (Tryd.prog.cellsOf 3) (List.drop 4 [u0, u1, u2, u3, u4, u5, u6, u7, u8]) = [.int .i64 a2] := e2
      replace e3 : List.take (Tryd.prog.cellsOf 3) (List.drop 5 [u0, u1, u2, u3, u4, u5, u6, u7, u8]) = [.int .i64 a3] := e3
      replace e4 : List.take (Tryd.prog.cellsOf 3) (List.drop 6 [u0, u1, u2, u3, u4, u5, u6, u7, u8]) = [.int .i64 a4] := e4
      replace e5 : List.take (Tryd.prog.cellsOf 3) (List.drop 7 [u0, u1, u2, u3, u4, u5, u6, u7, u8]) = [.int .i64 a5] := e5
      replace e6 : List.take (Tryd.prog.cellsOf 24) (List.drop 8 [u0, u1, u2, u3, u4, u5, u6, u7, u8]) = [v'] := e6
      rw [c2] at e0 e1
      rw [c1] at e2 e3 e4 e5
      rw [c1'] at e6
      simp at e0 e1 e2 e3 e4 e5 e6
      refine ⟨⟨a0, b0', a1, b1, a2, a3, a4, a5⟩, v', l', ?_, hc⟩
      rw [e0.1, e0.2, e1.1, e1.2, e2, e3, e4, e5, e6]
end
end Go.Proofs.YtffgcphmakfikaaDoor
