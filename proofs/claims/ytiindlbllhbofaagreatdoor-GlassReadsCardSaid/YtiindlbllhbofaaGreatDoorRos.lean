/- A list of readings handed in. -/
import Derived.Test.YtiindlbllhbofaaGreatDoorRow
import Derived.Test.YtiindlbllhbofaaGreatDoorPrn
import Derived.Shelf.Vars
import Derived.HandedShaped
set_option linter.unusedVariables false
set_option linter.unusedSimpArgs false
namespace Go.Proofs.YtiindlbllhbofaaGreatDoor
open Go Go.ChangeShapes Go.WideShapes Go.ChangeAt Go.RowKit
section
variable {H : Type} {enc : TypeId × Value → H} {w : World} {base : Nat} {spare : Nat → Bool} {held : Bool}
set_option maxRecDepth 100000 in
theorem reading_cells {fuel : Nat} {cs : List Value} {x : DataW H × List MemPlace} (h : DataW.trod enc Tryz.prog w base spare held fuel 51 cs = some x) : ∃ r : Rdg, cs = [.int .i64 r.day, .int .i64 r.mi, .int .i64 r.cl, .int .i64 r.me, .int .i64 r.al, .int .i64 r.ah, .int .i64 r.dl, .int .i64 r.dh, .int .i64 r.wl, .int .i64 r.wh] := by
  obtain ⟨xs, n, _, _, hl, hlen, hf⟩ := DataW.trod_struct Tryz.underlying51 h
  have cN : Tryz.prog.cellsOf 51 = 10 := by kernel_rfl
  have c2 : Tryz.prog.cellsOf 36 = 2 := by kernel_rfl
  have c1 : Tryz.prog.cellsOf 3 = 1 := by kernel_rfl
  have ck : Tryz.prog.cellsOf 49 = 1 := by kernel_rfl
  rw [cN] at hl
  match cs, hl with
  | [u0, u1, u2, u3, u4, u5, u6, u7, u8, u9], _ =>
    match xs, hlen with
    | [x0, x1, x2, x3, x4, x5, x6], _ =>
      have h0 := hf 0 _ rfl
      obtain ⟨a0, e0, _⟩ := DataW.trod_int Tryz.underlying3 h0
      replace e0 : List.take (Tryz.prog.cellsOf 3) (List.drop 0 [u0, u1, u2, u3, u4, u5, u6, u7, u8, u9]) = [.int .i64 a0] := e0
      rw [c1] at e0
      simp at e0
      have h1 := hf 1 _ rfl
      obtain ⟨a1, e1, _⟩ := DataW.trod_int Tryz.underlying3 h1
      replace e1 : List.take (Tryz.prog.cellsOf 3) (List.drop 1 [u0, u1, u2, u3, u4, u5, u6, u7, u8, u9]) = [.int .i64 a1] := e1
      rw [c1] at e1
      simp at e1
      have h2 := hf 2 _ rfl
      obtain ⟨a2, e2, _⟩ := DataW.trod_int Tryz.underlying49 h2
      replace e2 : List.take (Tryz.prog.cellsOf 49) (List.drop 2 [u0, u1, u2, u3, u4, u5, u6, u7, u8, u9]) = [.int .i64 a2] := e2
      rw [ck] at e2
      simp at e2
      have h3 := hf 3 _ rfl
      obtain ⟨a3, e3, _⟩ := DataW.trod_int Tryz.underlying3 h3
      replace e3 : List.take (Tryz.prog.cellsOf 3) (List.drop 3 [u0, u1, u2, u3, u4, u5, u6, u7, u8, u9]) = [.int .i64 a3] := e3
      rw [c1] at e3
      simp at e3
      have h4 := hf 4 _ rfl
      obtain ⟨a4, b4, e4⟩ := span_cells h4
      replace e4 : List.take (Tryz.prog.cellsOf 36) (List.drop 4 [u0, u1, u2, u3, u4, u5, u6, u7, u8, u9]) = [.int .i64 a4, .int .i64 b4] := e4
      rw [c2] at e4
      simp at e4
      have h5 := hf 5 _ rfl
      obtain ⟨a5, b5, e5⟩ := span_cells h5
      replace e5 : List.take (Tryz.prog.cellsOf 36) (List.drop 6 [u0, u1, u2, u3, u4, u5, u6, u7, u8, u9]) = [.int .i64 a5, .int .i64 b5] := e5
      rw [c2] at e5
      simp at e5
      have h6 := hf 6 _ rfl
      obtain ⟨a6, b6, e6⟩ := span_cells h6
      replace e6 : List.take (Tryz.prog.cellsOf 36) (List.drop 8 [u0, u1, u2, u3, u4, u5, u6, u7, u8, u9]) = [.int .i64 a6, .int .i64 b6] := e6
      rw [c2] at e6
      simp at e6
      refine ⟨⟨a0, a1, a2, a3, a4, b4, a5, b5, a6, b6⟩, ?_⟩
      rw [e0, e1, e2, e3, e4.1, e4.2, e5.1, e5.2, e6.1, e6.2]
set_option maxRecDepth 100000 in
theorem readings_slice {fuel : Nat} {cs : List Value} {x : DataW H × List MemPlace} (h : DataW.trod enc Tryz.prog w base (fun _ => true) held fuel 22 cs = some x) : ∃ v l, cs = [v] ∧ Rdgs w v l := by
  have c3 : Tryz.prog.cellsOf 51 = 10 := by kernel_rfl
  rcases Go.Deep.open_slice Tryz.underlying22 h with ⟨rfl, _⟩ | ⟨a, len, cap, m, n, D, Pl, rfl, hb, hl, hm, hmm, hx, hi⟩
  · exact ⟨_, [], rfl, none, 0, rfl, Nat.le_refl _, by unfold maxLen; omega, .inl rfl⟩
  · have hmc : m = cap := by simpa using hmm
    subst hmc
    rw [c3] at hi
    have hq : ∀ i, i < len → ∃ c : Rdg, w.cell? (a.add (i * 10)) = some (.int .i64 c.day) ∧ w.cell? (a.add (i * 10 + 1)) = some (.int .i64 c.mi) ∧ w.cell? (a.add (i * 10 + 2)) = some (.int .i64 c.cl) ∧ w.cell? (a.add (i * 10 + 3)) = some (.int .i64 c.me) ∧ w.cell? (a.add (i * 10 + 4)) = some (.int .i64 c.al) ∧ w.cell? (a.add (i * 10 + 5)) = some (.int .i64 c.ah) ∧ w.cell? (a.add (i * 10 + 6)) = some (.int .i64 c.dl) ∧ w.cell? (a.add (i * 10 + 7)) = some (.int .i64 c.dh) ∧ w.cell? (a.add (i * 10 + 8)) = some (.int .i64 c.wl) ∧ w.cell? (a.add (i * 10 + 9)) = some (.int .i64 c.wh) := fun i hil => by
      obtain ⟨cs', hc, ht⟩ := hi i (by omega)
      obtain ⟨_, hcl, hat⟩ := World.cells?_some hc
      obtain ⟨c, rfl⟩ := reading_cells ht
      have q0 := hat 0 (by omega); have q1 := hat 1 (by omega); have q2 := hat 2 (by omega); have q3 := hat 3 (by omega); have q4 := hat 4 (by omega); have q5 := hat 5 (by omega); have q6 := hat 6 (by omega); have q7 := hat 7 (by omega); have q8 := hat 8 (by omega); have q9 := hat 9 (by omega)
      rw [Go.Deep.add_add] at q0 q1 q2 q3 q4 q5 q6 q7 q8 q9
      exact ⟨c, q0, q1, q2, q3, q4, q5, q6, q7, q8, q9⟩
    obtain ⟨l, hll, hlq⟩ := list_of hq
    refine ⟨_, l, rfl, some a, m, by rw [hll], by omega, hm, ?_⟩
    rcases Nat.eq_zero_or_pos len with h0 | h0
    · exact .inl (List.length_eq_zero_iff.1 (by omega))
    · obtain ⟨b, off, spot⟩ := a
      have hc0 := (hlq 0 l[0] (List.getElem?_eq_getElem (by omega))).1
      have hspot : spot = none := by simpa [Addr.add] using World.cell?_spot hc0
      subst hspot
      refine .inr ⟨b, off, rfl, ?_, fun i c hc => ?_⟩
      · have := World.block_lt_of_cell? _ _ hc0
        simpa [Go.WideShapes.add_plain] using this
      · obtain ⟨q0, q1, q2, q3, q4, q5, q6, q7, q8, q9⟩ := hlq i c hc
        simp only [Go.WideShapes.add_plain] at q0 q1 q2 q3 q4 q5 q6 q7 q8 q9
        exact ⟨q0, q1, q2, q3, q4, q5, q6, q7, q8, q9⟩
set_option maxRecDepth 100000 in
theorem open_readings {v : Value} {d : DataW H} {ps : List MemPlace} {b0 : Nat} (hv : Value.okWide Tryz.prog w .any b0 22 v) (h : DataW.Trod enc Tryz.prog w base (fun _ => true) held 22 v d ps) :
    ∃ rs, Rdgs w v rs := by
  obtain ⟨fuel, h⟩ := h
  obtain ⟨a, len, cap, rfl⟩ := okWide_slice Tryz.underlying22 hv
  obtain ⟨v', l, hcs, hR⟩ := readings_slice h
  simp [Value.cells] at hcs
  subst hcs
  exact ⟨l, hR⟩
end
/-- The plain wrap, with what the row lists and with the world's shape. -/
theorem wrap_shaped {H : Type} {enc : TypeId × Value → H} {a : Assume} {C : Checked} {os : Os} {f : FuncId} {fn : Func} {s : ChangeSpec} {conds : List PathCond} {apart fresh handsOn again : Bool} {X : World → Array Value → Prop}
    (hX : ∀ (w w' : World) (args : Array Value), w.heap = w'.heap → X w args → X w' args)
    (own : ownKnob C.prog.godebug = none) (started : os.Started) (noInit : C.prog.inits.idxOf? f = none) (hfn : C.prog.funcs[f]? = some fn)
    (witness : ∃ (w : World) (tape : Tape) (i : Input), w.os = os ∧ (w.forCall tape i).Shaped C.prog ∧ i.vars = [] ∧ Input.okWide C.prog (w.forCall tape i) .any w.heap.size f i ∧
      ((s.pre enc C.prog fn conds apart (w.forCall tape i).memory i.args ∧ X (w.forCall tape i).memory i.args) ∧ sizedMet enc C.prog fn (OpenSpec.ofChange s) apart (w.forCall tape i).memory i.args) ∧ a.holds C.prog (lone (Frame.enter C.prog f i.args .normal) [] (w.forCall tape i)))
    (contract : ∀ (W : World) (base : Nat) (args : Array Value) (ds gs : List (DataW H)) (before : List MemPlace),
      (∀ (j : Nat) t v, fn.params[j]? = some t → args[j]? = some v → Value.okWide C.prog W .any base t v) →
      DataW.Whole enc C.prog fn.params.toList s.vars apart W args.toList ds gs before → X W args → W.ShapedOpen C.prog →
      Calls C.prog f args W fun e W' => ∃ v, e = .returned v ∧ s.post enc C.prog fn apart fresh handsOn again W args v W') :
    ReturnsInHanded a C os f .any (fun w args => (s.pre enc C.prog fn conds apart w args ∧ X w args) ∧ sizedMet enc C.prog fn (OpenSpec.ofChange s) apart w args) (s.post enc C.prog fn apart fresh handsOn again) := by
  refine returnsInHanded_of_calls own started noInit witness ?_
  intro w tape i _ hsh _ hok hpre hholds
  obtain ⟨_, _, _, fn', hfn', _, _, _, _, hval⟩ := hok
  have e : fn' = fn := Option.some.inj (hfn'.symm.trans hfn)
  subst e
  obtain ⟨⟨⟨ds, gs, before, hw, hc⟩, hx⟩, hz⟩ := hpre
  have hw' := DataW.Whole.of_heap (w' := w.forCall tape i) (by rfl) hw
  refine (contract (w.forCall tape i) w.heap.size i.args ds gs before hval hw' (hX _ _ _ (by rfl) hx) hsh).mono fun e W' ⟨v, he, hp⟩ => ?_
  subst he
  exact ChangeSpec.post_blind hp
theorem maxLen_of {w : World} (h : w.ShapedOpen Tryz.prog) : ∃ m, w.cell? ⟨1, 0, none⟩ = some (.int .i64 m) :=
  cell_of_shapedOpen_int (P := Tryz.prog) (g := 1) (t := 3) (zero := #[.int .i64 0]) h (of_decide_eq_true (by kernel_rfl)) (by kernel_rfl) rfl (by kernel_rfl) (by kernel_rfl) Tryz.underlying3
end Go.Proofs.YtiindlbllhbofaaGreatDoor
