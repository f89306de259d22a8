/- Part of a claim on cone. -/
import Derived.Lay
import Derived.Test.YtldimlnllmojiaaGreatVw
import Derived.Test.YtldimlnllmojiaaGreatVv
import Derived.ProofKit
import Derived.LaidMore
import Derived.OpenShut
import Derived.Stop.Joined
import Derived.ChangeSame
import Derived.ChangeSlices
import Derived.Deep.Slices
import Derived.Deep.Fields
import Derived.WideKeyArgs
import Derived.HandedShaped
set_option linter.unusedVariables false
set_option linter.unusedSimpArgs false
namespace Go.Proofs.YtldimlnllmojiaaGreat
open Go Go.ChangeShapes Go.WideShapes Go.ChangeAt Go.RowKit
structure Bt where
  llo : Int
  lhi : Int
  alo : Int
  ahi : Int
section
variable {H : Type} {enc : TypeId × Value → H} {P : Program}
theorem trodAll_stays (hl : laidOutB P = true) {W W' : World} {sp' : Nat → Bool} : ∀ {ts : List TypeId} {vs : List Value} {ds : List (DataW H)} {ps : List MemPlace},
    (∀ t ∈ ts, P.readableRec t = true ∧ t < P.types.size) → DataW.TrodAll enc P W 0 (fun _ => true) true ts vs ds ps → (∀ p ∈ ps, W.sameAt W' p) → (∀ p ∈ ps, sp' p.block = true) → DataW.TrodAll enc P W' 0 sp' true ts vs ds ps
  | [], [], [], _, _, h, _, _ => h
  | t :: ts, v :: vs, d :: ds, _, hT, ⟨p, q, h1, h2, e⟩, hs, hp => ⟨p, q,
      WideElems.Trod_stays hl (hT t mZ).1 (hT t mZ).2 h1 (fun x hx => hs x (by rw [e]; exact List.mem_append_left _ hx)) (fun x hx => hp x (by rw [e]; exact List.mem_append_left _ hx)),
      trodAll_stays hl (fun u hu => hT u (List.mem_cons_of_mem _ hu)) h2 (fun x hx => hs x (by rw [e]; exact List.mem_append_right _ hx)) (fun x hx => hp x (by rw [e]; exact List.mem_append_right _ hx)), e⟩
theorem post_of_below {f : Func} {s : ChangeSpec} {apart fresh handsOn again : Bool} {W W' : World} {args : Array Value} {v : Value} {ds gs : List (DataW H)} {before pa pv : List MemPlace}
    (hW : DataW.Whole enc P f.params.toList s.vars apart W args.toList ds gs before)
    (hres : ∀ (b : Nat) (sp : Nat → Bool) (hd : Bool), DataW.TrodAll enc P W' b sp hd f.resultTypes.toList (v.resultList f.resultTypes.size) (s.fn H (ds ++ gs)).results [])
    (hargs : ∀ sp : Nat → Bool, (∀ p ∈ before, sp p.block = true) → DataW.TrodAll enc P W' 0 sp true f.params.toList args.toList (s.fn H (ds ++ gs)).args pa)
    (hvars : ∀ sp : Nat → Bool, (∀ p ∈ before, sp p.block = true) → DataW.TrodVars enc P W' sp s.vars (s.fn H (ds ++ gs)).vars pv)
    (hps : before = pa ++ pv) (hb : Below W.heap.size W W')
    (hok : ∀ (j : Nat) (t : TypeId) (r : Value), f.resultTypes[j]? = some t → (v.resultList f.resultTypes.size)[j]? = some r → Value.okWide P W' .any 0 t r) :
    s.post enc P f apart fresh handsOn again W args v W' := by
  have hlt : ∀ p ∈ before, p.block < W.heap.size := fun p hp => hW.lt p hp
  have hold : ∀ p ∈ before, (fun b => decide (b < W.heap.size)) p.block = true := fun p hp => by simpa using hlt p hp
  refine ⟨ds, gs, before, [], pa, pv, hW, hres _ _ _, hargs _ hold, hvars _ hold, World.keptBut_mono (fun p hp => ⟨hp, ?_⟩) (hb.frame (· ∈ before)), fun _ => ?_⟩
  · rw [hps, List.mem_append] at hp
    exact Or.inr hp
  · obtain ⟨_, _, _, _, _, hz, hn⟩ := hW
    refine ⟨hok, _, _, ([] ++ pa) ++ pv, ⟨[] ++ pa, pv, trodAll_append (hargs _ (fun _ _ => rfl)) (hres _ _ _), hvars _ (fun _ _ => rfl), rfl, ?_, ?_⟩, ?_⟩
    · intro b off hp
      have hin : MemPlace.cell b off ∈ before := by rw [hps]; simpa using hp
      rw [hb.frozen (hlt _ hin)]
      exact hz b off hin
    · intro ha
      have := hn ha
      rw [hps] at this
      simpa using this
    · intro p hp _
      rw [hps]
      simpa using hp
theorem law_post (hl : laidOutB P = true) {f : Func} {s : ChangeSpec} {apart fresh handsOn again : Bool} {W W' : World} {args : Array Value} {ds gs : List (DataW H)} {before : List MemPlace} {tb : TypeId}
    (hv : s.vars = []) (hr : ∀ t ∈ f.params.toList, P.readableRec t = true ∧ t < P.types.size) (hrt : f.resultTypes = #[tb]) (htb : P.underlying tb = some .bool)
    (hs : s.fn H ds = { results := [.lit (.bool true)], args := ds })
    (hW : DataW.Whole enc P f.params.toList s.vars apart W args.toList ds gs before) (hb : Below W.heap.size W W') :
    s.post enc P f apart fresh handsOn again W args (.bool true) W' := by
  have hW' := hW
  obtain ⟨p, q, hA, hV, rfl, hz, hn⟩ := hW
  have hgs : gs = [] ∧ q = [] := by
    rw [hv] at hV
    cases gs with
    | nil => exact ⟨rfl, hV⟩
    | cons g r => exact absurd hV (by intro h; cases h)
  obtain ⟨rfl, rfl⟩ := hgs
  have hlt : ∀ x ∈ p, x.block < W.heap.size := fun x hx => hW'.lt x (by simp [hx])
  refine post_of_below (pa := p) (pv := []) hW' (fun _ _ _ => ?_) (fun sp hsp => ?_) (fun sp hsp => ?_) (by simp) hb ?_
  · rw [List.append_nil, hs, hrt]; exact trodAll_mk1 (shut_bool htb true)
  · rw [List.append_nil, hs]; exact trodAll_stays hl hr hA (fun x hx => hb.same (hlt x hx)) (fun x hx => hsp x (by simp [hx]))
  · rw [List.append_nil, hs, hv]; rfl
  · exact ok_one hrt rfl (okWide_bool_mk htb _)
end
theorem list_of {α : Type} {n : Nat} {Q : Nat → α → Prop} (h : ∀ i, i < n → ∃ c, Q i c) : ∃ l : List α, l.length = n ∧ ∀ i c, l[i]? = some c → Q i c := by
  induction n with
  | zero => exact ⟨[], rfl, fun i c hc => by simp at hc⟩
  | succ n ih =>
    obtain ⟨l, hl, hq⟩ := ih (fun i hi => h i (by omega))
    obtain ⟨c, hc⟩ := h n (by omega)
    refine ⟨l ++ [c], by simp [hl], fun i x hx => ?_⟩
    rcases Nat.lt_or_ge i n with hi | hi
    · rw [List.getElem?_append_left (by omega)] at hx
      exact hq i x hx
    · have hin : i < (l ++ [c]).length := (List.getElem?_eq_some_iff.1 hx).1
      have : i = n := by simp at hin; omega
      subst this
      rw [List.getElem?_append_right (by omega), hl] at hx
      simp at hx
      subst hx
      exact hc
theorem Tryz.own : ownKnob Tryz.prog.godebug = none := by kernel_rfl
theorem Tryz.laidOut : laidOutB Tryz.prog = true := by kernel_rfl
section
variable {H : Type} {enc : TypeId × Value → H} {w : World} {base : Nat} {spare : Nat → Bool} {held : Bool}
set_option maxRecDepth 100000 in
theorem span_cells {fuel : Nat} {cs : List Value} {x : DataW H × List MemPlace} (h : DataW.trod enc Tryz.prog w base spare held fuel 56 cs = some x) : ∃ a b : Int, cs = [.int .i64 a, .int .i64 b] := by
  obtain ⟨xs, n, _, _, hl, hlen, hf⟩ := DataW.trod_struct Tryz.underlying56 h
  have c2 : Tryz.prog.cellsOf 56 = 2 := by kernel_rfl
  have c1 : Tryz.prog.cellsOf 3 = 1 := by kernel_rfl
  rw [c2] at hl
  match cs, hl with
  | [u, v], _ =>
    match xs, hlen with
    | [x0, x1], _ =>
      have h0 := hf 0 _ rfl
      have h1 := hf 1 _ rfl
      obtain ⟨a, ha, _⟩ := DataW.trod_int Tryz.underlying3 h0
      obtain ⟨b, hb, _⟩ := DataW.trod_int Tryz.underlying3 h1
      replace ha : List.take (Tryz.prog.cellsOf 3) (List.drop 0 [u, v]) = [.int .i64 a] := ha
      replace hb : List.take (Tryz.prog.cellsOf 3) (List.drop 1 [u, v]) = [.int .i64 b] := hb
      rw [c1] at ha hb
      simp at ha hb
      exact ⟨a, b, by rw [ha, hb]⟩
set_option maxRecDepth 100000 in
theorem rep_fields {fuel : Nat} {cs : List Value} {x : DataW H × List MemPlace} (h : DataW.trod enc Tryz.prog w base spare held fuel 77 cs = some x) : ∃ c : Rep, cs = [.int .i64 c.st, .int .i64 c.tk, .int .i64 c.pr, .int .i64 c.dlo, .int .i64 c.dhi, .int .i64 c.ur, .int .i64 c.co] := by
  obtain ⟨xs, n, _, _, hl, hlen, hf⟩ := DataW.trod_struct Tryz.underlying77 h
  have cc : Tryz.prog.cellsOf 77 = 7 := by kernel_rfl
  have c2 : Tryz.prog.cellsOf 56 = 2 := by kernel_rfl
  have c1 : Tryz.prog.cellsOf 3 = 1 := by kernel_rfl
  rw [cc] at hl
  match cs, hl with
  | [u0, u1, u2, u3, u4, u5, u6], _ =>
    match xs, hlen with
    | [x0, x1, x2, x3, x4, x5], _ =>
      have h0 := hf 0 _ rfl
      obtain ⟨a0, e0, _⟩ := DataW.trod_int Tryz.underlying3 h0
      replace e0 : List.take (Tryz.prog.cellsOf 3) (List.drop 0 [u0, u1, u2, u3, u4, u5, u6]) = [.int .i64 a0] := e0
      rw [c1] at e0
      simp at e0
      have h1 := hf 1 _ rfl
      obtain ⟨a1, e1, _⟩ := DataW.trod_int Tryz.underlying3 h1
      replace e1 : List.take (Tryz.prog.cellsOf 3) (List.drop 1 [u0, u1, u2, u3, u4, u5, u6]) = [.int .i64 a1] := e1
      rw [c1] at e1
      simp at e1
      have h2 := hf 2 _ rfl
      obtain ⟨a2, e2, _⟩ := DataW.trod_int Tryz.underlying3 h2
      replace e2 : List.take (Tryz.prog.cellsOf 3) (List.drop 2 [u0, u1, u2, u3, u4, u5, u6]) = [.int .i64 a2] := e2
      rw [c1] at e2
      simp at e2
      have h3 := hf 3 _ rfl
      obtain ⟨a3, b3, e3⟩ := span_cells h3
      replace e3 : List.take (Tryz.prog.cellsOf 56) (List.drop 3 [u0, u1, u2, u3, u4, u5, u6]) = [.int .i64 a3, .int .i64 b3] := e3
      rw [c2] at e3
      simp at e3
      have h4 := hf 4 _ rfl
      obtain ⟨a4, e4, _⟩ := DataW.trod_int Tryz.underlying3 h4
      replace e4 : List.take (Tryz.prog.cellsOf 3) (List.drop 5 [u0, u1, u2, u3, u4, u5, u6]) = [.int .i64 a4] := e4
      rw [c1] at e4
      simp at e4
      have h5 := hf 5 _ rfl
      obtain ⟨a5, e5, _⟩ := DataW.trod_int Tryz.underlying3 h5
      replace e5 : List.take (Tryz.prog.cellsOf 3) (List.drop 6 [u0, u1, u2, u3, u4, u5, u6]) = [.int .i64 a5] := e5
      rw [c1] at e5
      simp at e5
      exact ⟨⟨a0, a1, a2, a3, b3, a4, a5⟩, by rw [e0, e1, e2, e3.1, e3.2, e4, e5]⟩
set_option maxRecDepth 100000 in
theorem lnk_fields {fuel : Nat} {cs : List Value} {x : DataW H × List MemPlace} (h : DataW.trod enc Tryz.prog w base spare held fuel 80 cs = some x) : ∃ c : Lnk, cs = [.int .i64 c.a, .int .i64 c.b, .int .i64 c.df] := by
  obtain ⟨xs, n, _, _, hl, hlen, hf⟩ := DataW.trod_struct Tryz.underlying80 h
  have cc : Tryz.prog.cellsOf 80 = 3 := by kernel_rfl
  have c2 : Tryz.prog.cellsOf 56 = 2 := by kernel_rfl
  have c1 : Tryz.prog.cellsOf 3 = 1 := by kernel_rfl
  rw [cc] at hl
  match cs, hl with
  | [u0, u1, u2], _ =>
    match xs, hlen with
    | [x0, x1, x2], _ =>
      have h0 := hf 0 _ rfl
      obtain ⟨a0, e0, _⟩ := DataW.trod_int Tryz.underlying3 h0
      replace e0 : List.take (Tryz.prog.cellsOf 3) (List.drop 0 [u0, u1, u2]) = [.int .i64 a0] := e0
      rw [c1] at e0
      simp at e0
      have h1 := hf 1 _ rfl
      obtain ⟨a1, e1, _⟩ := DataW.trod_int Tryz.underlying3 h1
      replace e1 : List.take (Tryz.prog.cellsOf 3) (List.drop 1 [u0, u1, u2]) = [.int .i64 a1] := e1
      rw [c1] at e1
      simp at e1
      have h2 := hf 2 _ rfl
      obtain ⟨a2, e2, _⟩ := DataW.trod_int Tryz.underlying3 h2
      replace e2 : List.take (Tryz.prog.cellsOf 3) (List.drop 2 [u0, u1, u2]) = [.int .i64 a2] := e2
      rw [c1] at e2
      simp at e2
      exact ⟨⟨a0, a1, a2⟩, by rw [e0, e1, e2]⟩
set_option maxRecDepth 100000 in
theorem prt_fields {fuel : Nat} {cs : List Value} {x : DataW H × List MemPlace} (h : DataW.trod enc Tryz.prog w base spare held fuel 58 cs = some x) : ∃ c : Prt, cs = [.int .i64 c.olo, .int .i64 c.ohi, .int .i64 c.dy, .int .i64 c.nt] := by
  obtain ⟨xs, n, _, _, hl, hlen, hf⟩ := DataW.trod_struct Tryz.underlying58 h
  have cc : Tryz.prog.cellsOf 58 = 4 := by kernel_rfl
  have c2 : Tryz.prog.cellsOf 56 = 2 := by kernel_rfl
  have c1 : Tryz.prog.cellsOf 3 = 1 := by kernel_rfl
  rw [cc] at hl
  match cs, hl with
  | [u0, u1, u2, u3], _ =>
    match xs, hlen with
    | [x0, x1, x2], _ =>
      have h0 := hf 0 _ rfl
      obtain ⟨a0, b0, e0⟩ := span_cells h0
      replace e0 : List.take (Tryz.prog.cellsOf 56) (List.drop 0 [u0, u1, u2, u3]) = [.int .i64 a0, .int .i64 b0] := e0
      rw [c2] at e0
      simp at e0
      have h1 := hf 1 _ rfl
      obtain ⟨a1, e1, _⟩ := DataW.trod_int Tryz.underlying3 h1
      replace e1 : List.take (Tryz.prog.cellsOf 3) (List.drop 2 [u0, u1, u2, u3]) = [.int .i64 a1] := e1
      rw [c1] at e1
      simp at e1
      have h2 := hf 2 _ rfl
      obtain ⟨a2, e2, _⟩ := DataW.trod_int Tryz.underlying3 h2
      replace e2 : List.take (Tryz.prog.cellsOf 3) (List.drop 3 [u0, u1, u2, u3]) = [.int .i64 a2] := e2
      rw [c1] at e2
      simp at e2
      exact ⟨⟨a0, b0, a1, a2⟩, by rw [e0.1, e0.2, e1, e2]⟩
set_option maxRecDepth 100000 in
theorem boat_fields {fuel : Nat} {cs : List Value} {x : DataW H × List MemPlace} (h : DataW.trod enc Tryz.prog w base spare held fuel 63 cs = some x) : ∃ c : Bt, cs = [.int .i64 c.llo, .int .i64 c.lhi, .int .i64 c.alo, .int .i64 c.ahi] := by
  obtain ⟨xs, n, _, _, hl, hlen, hf⟩ := DataW.trod_struct Tryz.underlying63 h
  have cc : Tryz.prog.cellsOf 63 = 4 := by kernel_rfl
  have c2 : Tryz.prog.cellsOf 56 = 2 := by kernel_rfl
  have c1 : Tryz.prog.cellsOf 3 = 1 := by kernel_rfl
  rw [cc] at hl
  match cs, hl with
  | [u0, u1, u2, u3], _ =>
    match xs, hlen with
    | [x0, x1], _ =>
      have h0 := hf 0 _ rfl
      obtain ⟨a0, b0, e0⟩ := span_cells h0
      replace e0 : List.take (Tryz.prog.cellsOf 56) (List.drop 0 [u0, u1, u2, u3]) = [.int .i64 a0, .int .i64 b0] := e0
      rw [c2] at e0
      simp at e0
      have h1 := hf 1 _ rfl
      obtain ⟨a1, b1, e1⟩ := span_cells h1
      replace e1 : List.take (Tryz.prog.cellsOf 56) (List.drop 2 [u0, u1, u2, u3]) = [.int .i64 a1, .int .i64 b1] := e1
      rw [c2] at e1
      simp at e1
      exact ⟨⟨a0, b0, a1, b1⟩, by rw [e0.1, e0.2, e1.1, e1.2]⟩
set_option maxRecDepth 100000 in
theorem rep_slice {fuel : Nat} {cs : List Value} {x : DataW H × List MemPlace} (h : DataW.trod enc Tryz.prog w base (fun _ => true) held fuel 22 cs = some x) : ∃ A c l, cs = [.slice A l.length c] ∧ Reps w (.slice A l.length c) l := by
  have cc : Tryz.prog.cellsOf 77 = 7 := by kernel_rfl
  rcases Go.Deep.open_slice Tryz.underlying22 h with ⟨rfl, _⟩ | ⟨a, len, cap, m, n, D, Pl, rfl, hb, hl, hm, hmm, hx, hi⟩
  · exact ⟨none, 0, [], rfl, none, 0, rfl, Nat.le_refl _, by unfold maxLen; omega, .inl rfl⟩
  · have hmc : m = cap := by simpa using hmm
    subst hmc
    rw [cc] at hi
    have hq : ∀ i, i < len → ∃ c : Rep, ∀ (j : Nat) z, (repL c)[j]? = some z → w.cell? (a.add (i * 7 + j)) = some (.int .i64 z) := fun i hil => by
      obtain ⟨cs', hc, ht⟩ := hi i (by omega)
      obtain ⟨_, hcl, hat⟩ := World.cells?_some hc
      obtain ⟨c, rfl⟩ := rep_fields ht
      refine ⟨c, fun j z hj => ?_⟩
      have hjl : j < 7 := (List.getElem?_eq_some_iff.1 hj).1
      have q := hat j hjl
      rw [Go.Deep.add_add] at q
      rw [q]
      match j, hjl, hj with
      | 0, _, hj => simp [repL] at hj ⊢; exact hj
      | 1, _, hj => simp [repL] at hj ⊢; exact hj
      | 2, _, hj => simp [repL] at hj ⊢; exact hj
      | 3, _, hj => simp [repL] at hj ⊢; exact hj
      | 4, _, hj => simp [repL] at hj ⊢; exact hj
      | 5, _, hj => simp [repL] at hj ⊢; exact hj
      | 6, _, hj => simp [repL] at hj ⊢; exact hj
    obtain ⟨l, hll, hlq⟩ := list_of hq
    refine ⟨some a, m, l, by rw [hll], some a, m, by rw [List.length_map], by rw [List.length_map]; omega, hm, ?_⟩
    rcases Nat.eq_zero_or_pos len with h0 | h0
    · exact .inl (by rw [List.length_eq_zero_iff.1 (show l.length = 0 by omega)]; rfl)
    · obtain ⟨b, off, spot⟩ := a
      have hc0 := hlq 0 l[0] (List.getElem?_eq_getElem (by omega)) 0 _ rfl
      have hspot : spot = none := by simpa [Addr.add] using World.cell?_spot hc0
      subst hspot
      refine .inr ⟨b, off, rfl, ?_, fun i row hrow j v hv => ?_⟩
      · have := World.block_lt_of_cell? _ _ hc0
        simpa [Go.WideShapes.add_plain] using this
      · rw [List.getElem?_map] at hrow
        obtain ⟨c, hc, rfl⟩ := Option.map_eq_some_iff.1 hrow
        have q0 := hlq i c hc j v hv
        rw [Go.WideShapes.add_plain, ← Nat.add_assoc] at q0
        exact q0
set_option maxRecDepth 100000 in
theorem lnk_slice {fuel : Nat} {cs : List Value} {x : DataW H × List MemPlace} (h : DataW.trod enc Tryz.prog w base (fun _ => true) held fuel 23 cs = some x) : ∃ A c l, cs = [.slice A l.length c] ∧ Lnks w (.slice A l.length c) l := by
  have cc : Tryz.prog.cellsOf 80 = 3 := by kernel_rfl
  rcases Go.Deep.open_slice Tryz.underlying23 h with ⟨rfl, _⟩ | ⟨a, len, cap, m, n, D, Pl, rfl, hb, hl, hm, hmm, hx, hi⟩
  · exact ⟨none, 0, [], rfl, none, 0, rfl, Nat.le_refl _, by unfold maxLen; omega, .inl rfl⟩
  · have hmc : m = cap := by simpa using hmm
    subst hmc
    rw [cc] at hi
    have hq : ∀ i, i < len → ∃ c : Lnk, ∀ (j : Nat) z, (lnkL c)[j]? = some z → w.cell? (a.add (i * 3 + j)) = some (.int .i64 z) := fun i hil => by
      obtain ⟨cs', hc, ht⟩ := hi i (by omega)
      obtain ⟨_, hcl, hat⟩ := World.cells?_some hc
      obtain ⟨c, rfl⟩ := lnk_fields ht
      refine ⟨c, fun j z hj => ?_⟩
      have hjl : j < 3 := (List.getElem?_eq_some_iff.1 hj).1
      have q := hat j hjl
      rw [Go.Deep.add_add] at q
      rw [q]
      match j, hjl, hj with
      | 0, _, hj => simp [lnkL] at hj ⊢; exact hj
      | 1, _, hj => simp [lnkL] at hj ⊢; exact hj
      | 2, _, hj => simp [lnkL] at hj ⊢; exact hj
    obtain ⟨l, hll, hlq⟩ := list_of hq
    refine ⟨some a, m, l, by rw [hll], some a, m, by rw [List.length_map], by rw [List.length_map]; omega, hm, ?_⟩
    rcases Nat.eq_zero_or_pos len with h0 | h0
    · exact .inl (by rw [List.length_eq_zero_iff.1 (show l.length = 0 by omega)]; rfl)
    · obtain ⟨b, off, spot⟩ := a
      have hc0 := hlq 0 l[0] (List.getElem?_eq_getElem (by omega)) 0 _ rfl
      have hspot : spot = none := by simpa [Addr.add] using World.cell?_spot hc0
      subst hspot
      refine .inr ⟨b, off, rfl, ?_, fun i row hrow j v hv => ?_⟩
      · have := World.block_lt_of_cell? _ _ hc0
        simpa [Go.WideShapes.add_plain] using this
      · rw [List.getElem?_map] at hrow
        obtain ⟨c, hc, rfl⟩ := Option.map_eq_some_iff.1 hrow
        have q0 := hlq i c hc j v hv
        rw [Go.WideShapes.add_plain, ← Nat.add_assoc] at q0
        exact q0
set_option maxRecDepth 100000 in
theorem prt_slice {fuel : Nat} {cs : List Value} {x : DataW H × List MemPlace} (h : DataW.trod enc Tryz.prog w base (fun _ => true) held fuel 24 cs = some x) : ∃ A c l, cs = [.slice A l.length c] ∧ Prts w (.slice A l.length c) l := by
  have cc : Tryz.prog.cellsOf 58 = 4 := by kernel_rfl
  rcases Go.Deep.open_slice Tryz.underlying24 h with ⟨rfl, _⟩ | ⟨a, len, cap, m, n, D, Pl, rfl, hb, hl, hm, hmm, hx, hi⟩
  · exact ⟨none, 0, [], rfl, none, 0, rfl, Nat.le_refl _, by unfold maxLen; omega, .inl rfl⟩
  · have hmc : m = cap := by simpa using hmm
    subst hmc
    rw [cc] at hi
    have hq : ∀ i, i < len → ∃ c : Prt, ∀ (j : Nat) z, (prtL c)[j]? = some z → w.cell? (a.add (i * 4 + j)) = some (.int .i64 z) := fun i hil => by
      obtain ⟨cs', hc, ht⟩ := hi i (by omega)
      obtain ⟨_, hcl, hat⟩ := World.cells?_some hc
      obtain ⟨c, rfl⟩ := prt_fields ht
      refine ⟨c, fun j z hj => ?_⟩
      have hjl : j < 4 := (List.getElem?_eq_some_iff.1 hj).1
      have q := hat j hjl
      rw [Go.Deep.add_add] at q
      rw [q]
      match j, hjl, hj with
      | 0, _, hj => simp [prtL] at hj ⊢; exact hj
      | 1, _, hj => simp [prtL] at hj ⊢; exact hj
      | 2, _, hj => simp [prtL] at hj ⊢; exact hj
      | 3, _, hj => simp [prtL] at hj ⊢; exact hj
    obtain ⟨l, hll, hlq⟩ := list_of hq
    refine ⟨some a, m, l, by rw [hll], some a, m, by rw [List.length_map], by rw [List.length_map]; omega, hm, ?_⟩
    rcases Nat.eq_zero_or_pos len with h0 | h0
    · exact .inl (by rw [List.length_eq_zero_iff.1 (show l.length = 0 by omega)]; rfl)
    · obtain ⟨b, off, spot⟩ := a
      have hc0 := hlq 0 l[0] (List.getElem?_eq_getElem (by omega)) 0 _ rfl
      have hspot : spot = none := by simpa [Addr.add] using World.cell?_spot hc0
      subst hspot
      refine .inr ⟨b, off, rfl, ?_, fun i row hrow j v hv => ?_⟩
      · have := World.block_lt_of_cell? _ _ hc0
        simpa [Go.WideShapes.add_plain] using this
      · rw [List.getElem?_map] at hrow
        obtain ⟨c, hc, rfl⟩ := Option.map_eq_some_iff.1 hrow
        have q0 := hlq i c hc j v hv
        rw [Go.WideShapes.add_plain, ← Nat.add_assoc] at q0
        exact q0
set_option maxRecDepth 100000 in
theorem ints_slice {fuel : Nat} {cs : List Value} {x : DataW H × List MemPlace} (h : DataW.trod enc Tryz.prog w base (fun _ => true) held fuel 36 cs = some x) : ∃ v zs, cs = [v] ∧ Ints w v zs := by
  rcases open_ints Tryz.underlying36 Tryz.underlying3 (by kernel_rfl) h with ⟨hcs, _⟩ | ⟨a', len', cap', zs, hcs, _, hl, hm, hzl, _, hcell, _⟩
  · subst hcs
    exact ⟨_, [], rfl, none, 0, rfl, Nat.le_refl _, by unfold maxLen; omega, .inl rfl⟩
  · subst hcs
    have hzc : zs.length = cap' := by simpa using hzl
    have hlt : (zs.take len').length = len' := by rw [List.length_take]; omega
    refine ⟨_, zs.take len', rfl, some a', cap', by rw [hlt], by omega, hm, ?_⟩
    rcases Nat.eq_zero_or_pos len' with h0 | h0
    · exact .inl (List.length_eq_zero_iff.1 (by omega))
    · obtain ⟨b, off, spot⟩ := a'
      have hc0 := hcell 0 (by omega)
      have hspot : spot = none := by simpa [Addr.add] using World.cell?_spot hc0
      subst hspot
      refine .inr ⟨b, off, rfl, ?_, fun i z hi => ?_⟩
      · have := World.block_lt_of_cell? _ _ hc0
        simpa [Go.WideShapes.add_plain] using this
      · have hil : i < len' := by have := (List.getElem?_eq_some_iff.1 hi).1; omega
        rw [List.getElem?_take_of_lt hil] at hi
        have := hcell i (by omega)
        rw [Go.WideShapes.add_plain] at this
        rw [this]
        simp [List.getD, hi]
set_option maxRecDepth 100000 in
theorem open_watch {v : Value} {d : DataW H} {ps : List MemPlace} {b0 : Nat} (hv : Value.okWide Tryz.prog w .any b0 26 v) (h : DataW.Trod enc Tryz.prog w base (fun _ => true) held 26 v d ps) :
    ∃ (m : Wn) (A1 A2 A3 : Option Addr) (c1 c2 c3 : Nat) (rs : List Rep) (ls : List Lnk) (qs : List Prt), v = wtV m (.slice A1 rs.length c1) (.slice A2 ls.length c2) (.slice A3 qs.length c3) ∧ Reps w (.slice A1 rs.length c1) rs ∧ Lnks w (.slice A2 ls.length c2) ls ∧ Prts w (.slice A3 qs.length c3) qs := by
  obtain ⟨fuel, h⟩ := h
  obtain ⟨cs, rfl, hsz⟩ := okWide_struct Tryz.underlying26 hv
  obtain ⟨xs, n, _, _, hl, hlen, hf⟩ := DataW.trod_struct Tryz.underlying26 h
  have cc : Tryz.prog.cellsOf 26 = 9 := by kernel_rfl
  have c1 : Tryz.prog.cellsOf 3 = 1 := by kernel_rfl
  have d1 : Tryz.prog.cellsOf 22 = 1 := by kernel_rfl
  have d2 : Tryz.prog.cellsOf 23 = 1 := by kernel_rfl
  have d3 : Tryz.prog.cellsOf 24 = 1 := by kernel_rfl
  obtain ⟨l⟩ := cs
  rw [cc] at hsz
  match l, hsz with
  | [u0, u1, u2, u3, u4, u5, u6, u7, u8], _ =>
    match xs, hlen with
    | [x0, x1, x2, x3, x4, x5, x6, x7, x8], _ =>
      have h0 := hf 0 _ rfl
      obtain ⟨a0, e0, _⟩ := DataW.trod_int Tryz.underlying3 h0
      replace e0 : List.take (Tryz.prog.cellsOf 3) (List.drop 0 [u0, u1, u2, u3, u4, u5, u6, u7, u8]) = [.int .i64 a0] := e0
      rw [c1] at e0
      simp at e0
      have h1 := hf 1 _ rfl
      obtain ⟨A1, k1, l1, e1, q1⟩ := rep_slice h1
      replace e1 : List.take (Tryz.prog.cellsOf 22) (List.drop 1 [u0, u1, u2, u3, u4, u5, u6, u7, u8]) = [.slice A1 l1.length k1] := e1
      rw [d1] at e1
      simp at e1
      have h2 := hf 2 _ rfl
      obtain ⟨A2, k2, l2, e2, q2⟩ := lnk_slice h2
      replace e2 : List.take (Tryz.prog.cellsOf 23) (List.drop 2 [u0, u1, u2, u3, u4, u5, u6, u7, u8]) = [.slice A2 l2.length k2] := e2
      rw [d2] at e2
      simp at e2
      have h3 := hf 3 _ rfl
      obtain ⟨A3, k3, l3, e3, q3⟩ := prt_slice h3
      replace e3 : List.take (Tryz.prog.cellsOf 24) (List.drop 3 [u0, u1, u2, u3, u4, u5, u6, u7, u8]) = [.slice A3 l3.length k3] := e3
      rw [d3] at e3
      simp at e3
      have h4 := hf 4 _ rfl
      obtain ⟨a4, e4, _⟩ := DataW.trod_int Tryz.underlying3 h4
      replace e4 : List.take (Tryz.prog.cellsOf 3) (List.drop 4 [u0, u1, u2, u3, u4, u5, u6, u7, u8]) = [.int .i64 a4] := e4
      rw [c1] at e4
      simp at e4
      have h5 := hf 5 _ rfl
      obtain ⟨a5, e5, _⟩ := DataW.trod_int Tryz.underlying3 h5
      replace e5 : List.take (Tryz.prog.cellsOf 3) (List.drop 5 [u0, u1, u2, u3, u4, u5, u6, u7, u8]) = [.int .i64 a5] := e5
      rw [c1] at e5
      simp at e5
      have h6 := hf 6 _ rfl
      obtain ⟨a6, e6, _⟩ := DataW.trod_int Tryz.underlying3 h6
      replace e6 : List.take (Tryz.prog.cellsOf 3) (List.drop 6 [u0, u1, u2, u3, u4, u5, u6, u7, u8]) = [.int .i64 a6] := e6
      rw [c1] at e6
      simp at e6
      have h7 := hf 7 _ rfl
      obtain ⟨a7, e7, _⟩ := DataW.trod_int Tryz.underlying3 h7
      replace e7 : List.take (Tryz.prog.cellsOf 3) (List.drop 7 [u0, u1, u2, u3, u4, u5, u6, u7, u8]) = [.int .i64 a7] := e7
      rw [c1] at e7
      simp at e7
      have h8 := hf 8 _ rfl
      obtain ⟨a8, e8, _⟩ := DataW.trod_int Tryz.underlying3 h8
      replace e8 : List.take (Tryz.prog.cellsOf 3) (List.drop 8 [u0, u1, u2, u3, u4, u5, u6, u7, u8]) = [.int .i64 a8] := e8
      rw [c1] at e8
      simp at e8
      refine ⟨⟨a0, a4, a5, a6, a7, a8⟩, A1, A2, A3, k1, k2, k3, l1, l2, l3, ?_, q1, q2, q3⟩
      rw [e0, e1, e2, e3, e4, e5, e6, e7, e8]
set_option maxRecDepth 100000 in
theorem open_boat {v : Value} {d : DataW H} {ps : List MemPlace} {b0 : Nat} (hv : Value.okWide Tryz.prog w .any b0 63 v) (h : DataW.Trod enc Tryz.prog w base (fun _ => true) held 63 v d ps) : ∃ s : Bt, v = .agg #[.int .i64 s.llo, .int .i64 s.lhi, .int .i64 s.alo, .int .i64 s.ahi] := by
  obtain ⟨fuel, h⟩ := h
  obtain ⟨cs, rfl, hsz⟩ := okWide_struct Tryz.underlying63 hv
  obtain ⟨s, hs⟩ := boat_fields h
  obtain ⟨l⟩ := cs
  have e : l = [.int .i64 s.llo, .int .i64 s.lhi, .int .i64 s.alo, .int .i64 s.ahi] := hs
  exact ⟨s, by rw [e]⟩
set_option maxRecDepth 100000 in
theorem open_list {v : Value} {d : DataW H} {ps : List MemPlace} {b0 : Nat} (hv : Value.okWide Tryz.prog w .any b0 36 v) (h : DataW.Trod enc Tryz.prog w base (fun _ => true) held 36 v d ps) : ∃ (A : Option Addr) (c : Nat) (zs : List Int), v = .slice A zs.length c ∧ Ints w (.slice A zs.length c) zs := by
  obtain ⟨fuel, h⟩ := h
  obtain ⟨v', zs, e, hz⟩ := ints_slice h
  obtain ⟨a, len, cap, rfl⟩ := okWide_slice Tryz.underlying36 hv
  have e' : Value.slice a len cap = v' := by simpa [Value.cells] using e
  subst e'
  have hz' := hz
  obtain ⟨A, c, hv', _⟩ := hz
  exact ⟨A, c, zs, hv', by rw [← hv']; exact hz'⟩
end
end Go.Proofs.YtldimlnllmojiaaGreat
