/- A run worked out: slices, maps, append and calls. -/
import Derived.Test.YtknplcpjmpmblaaDoorZxf
import Derived.Great.BuildSlice
import Derived.Laws.MakeOwn
import Derived.MapKept
set_option linter.unusedVariables false
set_option linter.unusedSimpArgs false
namespace Go.Proofs.YtknplcpjmpmblaaDoor.GX
open Go Go.RowKit

/-- Keys of a type are compared as their numbers are. -/
def KeyOK (P : Program) (kt : TypeId) (n : Nat) : Prop :=
  ∀ (θ : Th) (k : AV) (es : List (AV × AV × Nat)) (r : Option (Nat × AV)), afindIn n k es = some r → ∀ (w : World) (b : Bool),
    (Instr.checkKey b 10000 kt (conc θ k)).run P w = .ok () w ∧ (Instr.findKey kt (conc θ k) (es.map (entryC θ))).run P w = .ok (r.map fun p => (p.1, conc θ p.2)) w ∧
      ∀ p v, r = some (p, v) → ∃ e, es[p]? = some e ∧ e.2.1 = v ∧ (Instr.keyThatStays (conc θ e.1) (conc θ k)).run P w = .ok (conc θ k) w

section
variable {P : Program} {tb : Tab} {θ : Th} {base : Bs} {h : AH} {ev : Operand → Option AV} {ρ : Operand → Value} {w : World}
theorem zeros_eq (z : Value) {l : List Value} (hz : z.cells.toList = l) (hl : 0 < l.length) (k : Nat) : (Array.range (k * l.length)).map (z.cells[· % z.cells.size]!) = ((rep (l.map AV.lit) k).map (conc θ)).toArray := by
  have hs : z.cells.size = l.length := by rw [← hz]; simp
  apply Array.toList_inj.1
  apply List.ext_getElem?
  intro j
  simp only [Array.toList_map, Array.toList_range, List.getElem?_map, List.toList_toArray]
  by_cases hj : j < k * l.length
  · have hlt : j % l.length < l.length := Nat.mod_lt _ hl
    rw [rep_get (by simpa using hl) k j (by simpa using hj), List.getElem?_range hj]
    simp only [Option.map_some, List.length_map, List.getElem?_map]
    have e : l[j % l.length]? = some l[j % l.length] := List.getElem?_eq_getElem hlt
    rw [e]
    simp only [Option.map_some, conc_lit, hs, Option.some.injEq]
    have hlt' : j % l.length < z.cells.size := by omega
    rw [getElem!_pos z.cells _ hlt', ← Array.getElem_toList (by simpa using hlt')]
    have : z.cells.toList[j % l.length]? = l[j % l.length]? := by rw [hz]
    rw [List.getElem?_eq_getElem (by rw [hz]; exact hlt), List.getElem?_eq_getElem hlt] at this
    exact Option.some.inj this
  · rw [List.getElem?_eq_none (by simp; omega), List.getElem?_eq_none (by rw [rep_len]; simp; omega)]
    rfl
theorem xBuildSlice_ok (hT : ∀ t i, tb.ty.get t = some i → TyOK P t i) (hE : EvOK θ h.next ev ρ) {t : TypeId} {len : Nat} {parts : Array (Nat × Operand)} :
    FOK P base θ h (do pure (Next.value (← Instr.buildSlice t len (parts.map fun (i, x) => (i, ρ x))))) (xBuildSlice tb h ev t len parts) := by
  unfold xBuildSlice
  split
  · rename_i el j ps hsl hps
    split
    · rename_i hc
      obtain ⟨hj0, hl0, hsm⟩ := hc
      split
      · rename_i cs hf
        obtain ⟨hu, hj⟩ := asliceOf_ok hT hsl
        obtain ⟨hb, he⟩ := evps_ok hE hps
        obtain ⟨inf, z, hinf, hsz, _, hz, hzc⟩ := hj.info
        have hlen := hj.len
        obtain ⟨a, b, c⟩ := afill_ok (θ := θ) hf (rep_bd (bd_lits _) _) hb
        have hcl : cs.length = len * j.size := by rw [b, rep_len]; simp [hlen]
        refine added_ok (row := some j.size) (c := len) (cur := (cs.map (conc θ)).toArray) (f := fun k => .slice (some ⟨k, 0, none⟩) len len) (mk := fun k => .slc k 0 len 0) a (by simp) ⟨len, hcl, rfl, by unfold maxLen; have : len ≤ len * j.size := Nat.le_mul_of_pos_right _ hj0; omega⟩ (fun w => run_val ?_) fun θ' b h' => ⟨by simp [bd, h'], by simp [conc, h']⟩
        refine run_buildSlice (P := P) w t el len _ _ inf z hu hinf hz (by rw [hsz]; omega) (by rw [hsz]; have := Nat.mul_pos hl0 hj0; omega) ?_
        have he' : (parts.map fun (i, x) => (i, ρ x)).toList = ps.map fun p => (p.1, conc θ p.2) := by rw [Array.toList_map]; exact he
        rw [he', hsz, ← c, ← hlen, zeros_eq (θ := θ) z hzc (by omega)]
      · trivial
    · split
      · rename_i hc
        obtain ⟨rfl, hp0⟩ := hc
        obtain ⟨hu, hj⟩ := asliceOf_ok hT hsl
        obtain ⟨hb, he⟩ := evps_ok hE hps
        obtain ⟨inf, z, hinf, hsz, _, hz, hzc⟩ := hj.info
        have hpe : parts.toList = [] := by
          have := congrArg List.length he
          simp only [List.length_map, hp0] at this
          exact List.eq_nil_of_length_eq_zero this
        refine added_ok (row := none) (c := 0) (cur := #[]) (f := fun k => .slice (some ⟨k, 0, none⟩) 0 0) (mk := fun k => .slx k 0 0 0) (fun x hx => by cases hx) rfl trivial (fun w => run_val ?_) fun θ' b h' => ⟨by simp [bd], by simp [conc, h']⟩
        have hpm : (parts.map fun (i, x) => (i, ρ x)).toList = [] := by rw [Array.toList_map, hpe]; rfl
        simp [Instr.buildSlice, Sem.run_bind, run_underlying hu, sizeOf, typeInfo, hinf, Result.andThen, hpm, Instr.fill, newRow, hpe, Array.range_zero']
      · trivial
  · trivial
theorem xMakeSlice_ok (hT : ∀ t i, tb.ty.get t = some i → TyOK P t i) (hE : EvOK θ h.next ev ρ) {t : TypeId} {l c : Operand} :
    FOK P base θ h (do pure (Next.value (← Instr.makeSlice t (ρ l) (ρ c)))) (xMakeSlice tb h t ((ev l).bind aint) ((ev c).bind aint)) := by
  unfold xMakeSlice
  split
  · rename_i el j k n k' m hsl hl hc
    split
    · rename_i hcc
      obtain ⟨h0, rfl, hn, hj0, hby⟩ := hcc
      obtain ⟨hu, hj⟩ := asliceOf_ok hT hsl
      obtain ⟨inf, z, hinf, hsz, hbz, hz, hzc⟩ := hj.info
      have hlen := hj.len
      have e1 := (hE l _ (bind_aint hl)).2
      have e2 := (hE c _ (bind_aint hc)).2
      rw [conc_lit] at e1 e2
      obtain ⟨N, rfl⟩ : ∃ N : Nat, n = (N : Int) := ⟨n.toNat, by omega⟩
      have hcl : (rep (j.zero.map AV.lit) (N : Int).toNat).length = N * j.size := by rw [rep_len]; simp [hlen]
      refine added_ok (row := some j.size) (c := N) (cur := ((rep (j.zero.map AV.lit) N).map (conc θ)).toArray) (f := fun k => .slice (some ⟨k, 0, none⟩) N N) (mk := fun k => .slc k 0 (N : Int).toNat 0) (rep_bd (bd_lits _) _) (by simp) ⟨N, by simpa using hcl, rfl, by unfold maxLen; omega⟩ (fun w => run_val ?_) fun θ' b h' => ⟨by simp [bd, h'], by simp [conc, h']⟩
      rw [e1, e2]
      have hb2 : (inf.bytes : Int) * (N : Int) ≤ 281474976710656 := by
        rw [hbz]
        have : j.bytes * N ≤ 65536 * 65536 := Nat.mul_le_mul hby (by omega)
        have h2 : ((j.bytes * N : Nat) : Int) ≤ 281474976710656 := by omega
        rwa [Int.natCast_mul] at h2
      have hr := run_make (P := P) w t el inf z hu hinf hz k k' (N : Int) (N : Int) (by omega) (Int.le_refl _) hb2 (by omega)
      rw [hr]
      simp only [Int.toNat_natCast, madeCells, hsz]
      rw [← hlen, zeros_eq (θ := θ) z hzc (by omega)]
    · trivial
  · trivial
theorem run_getObj_mp {r : Nat} {es : Array MapEntry} {clock : Nat} (hb : w.heap[r]? = some (.map es clock)) : (getObj r).run P w = .ok (.map es clock) w := by simp [getObj, Sem.run, hb]
theorem run_setObj_mp {r : Nat} {es : Array MapEntry} {clock : Nat} (o : Obj) (hb : w.heap[r]? = some (.map es clock)) : (setObj r o).run P w = .ok () (w.putObj r o) := by simp [setObj, Sem.run, hb, World.putObj]
theorem xMakeMap_ok {t : TypeId} : FOK P base θ h (do pure (Next.value (← Instr.makeMap t none))) (added h (.map [] 0) (.mp h.next)) := by
  unfold added
  split
  · rename_i h' ha
    obtain ⟨_, hm, hn⟩ := AH.add_spec ha
    refine ⟨hn, fun id hid => by rw [hm, T.get_set_other _ _ _ _ _ hid], .map #[] 0, 0, fun k => .map (some k), fun w => run_val (by rw [run_makeMap]), fun w b hR hw hbase hu => ?_⟩
    have hsame := upd_same θ h.next ⟨b, 0, none⟩
    exact ⟨hR.adopt ha hbase hu ⟨by simp, by rw [hsame]; exact hw⟩, by rw [hn]; simp [bd], by simp [conc, hsame]⟩
  · trivial
theorem amapOf_ok (hT : ∀ t i, tb.ty.get t = some i → TyOK P t i) (hK : ∀ t n, tb.keyEq.get t = some n → KeyOK P t n) {t : TypeId} {n : Nat} {j : TyI} (hx : amapOf tb t = some (n, j)) : ∃ kt el, P.underlying t = some (.map kt el) ∧ KeyOK P kt n ∧ TyOK P el j := by
  unfold amapOf at hx
  split at hx <;> try (cases hx; done)
  rename_i i hi
  split at hx <;> try (cases hx; done)
  rename_i kt el hd
  split at hx <;> try (cases hx; done)
  rename_i n' j' hn hj
  cases hx
  exact ⟨kt, el, by rw [(hT t i hi).und, hd], hK _ _ hn, hT _ _ hj⟩
theorem amapAt_ok {id : Nat} {es : List (AV × AV × Nat)} {clock : Nat} (hx : amapAt h id = some (es, clock)) : h.m.get id = some (.map es clock) := by
  unfold amapAt at hx
  split at hx
  · rename_i es' c' hm; cases hx; exact hm
  · cases hx
theorem zero_apart {j : TyI} {t : TypeId} (hj : TyOK P t j) {z : AV} (hz : apart j.agg (j.zero.map .lit) 0 j.size = some z) (n : Nat) : bd θ n z ∧ (zeroValue t).run P w = .ok (conc θ z) w := by
  obtain ⟨inf, z', hinf, _, _, h3, _⟩ := hj.info
  have hv := hj.zv inf hinf
  have hr : (zeroValue t).run P w = .ok (if j.agg then .agg j.zero.toArray else j.zero.headD undef) w := by simp [zeroValue, typeInfo, Sem.run_bind, hinf, hv, Result.andThen]
  rw [hr]
  unfold apart at hz
  cases ha : j.agg with
  | true =>
    rw [ha] at hz
    simp only [if_true, List.length_map, Nat.zero_add, List.drop_zero] at hz ⊢
    split at hz
    · cases hz
      rw [List.take_of_length_le (by simp [hj.len])]
      exact ⟨by simp only [bd]; exact bd_lits _, by simp only [conc, conc_lits]⟩
    · cases hz
  | false =>
    rw [ha] at hz
    simp only [Bool.false_eq_true, if_false] at hz ⊢
    cases hl : j.zero with
    | nil => rw [hl] at hz; cases hz
    | cons a l => rw [hl] at hz; cases hz; exact ⟨by simp [bd], by simp [conc]⟩
theorem afindIn_mem {t : TypeId} {n : Nat} {k : AV} {es : List (AV × AV × Nat)} {p : Nat} {v : AV} (hx : afindIn n k es = some (some (p, v))) (hK : KeyOK P t n) : ∃ e, es[p]? = some e ∧ e.2.1 = v := by
  obtain ⟨_, _, hc⟩ := hK (fun _ => ⟨0, 0, none⟩) k es _ hx default true
  obtain ⟨e, a, b, _⟩ := hc p v rfl
  exact ⟨e, a, b⟩
theorem xLookup_ok (hT : ∀ t i, tb.ty.get t = some i → TyOK P t i) (hK : ∀ t n, tb.keyEq.get t = some n → KeyOK P t n) (hR : R base θ h w) (hE : EvOK θ h.next ev ρ) {t : TypeId} {x ix : Operand} {ok : Bool} :
    XOK P base θ h w (do pure (Next.value (← Instr.lookup t (ρ x) (ρ ix) ok))) (xLookup tb h ev t x ix ok) := by
  unfold xLookup
  split
  · rename_i id hx
    unfold xLookup2
    split
    · rename_i k hk
      split
      · rename_i n j es clock hmo hma
        obtain ⟨kt, el, hu, hKO, hj⟩ := amapOf_ok hT hK hmo
        have hm := amapAt_ok hma
        obtain ⟨_, _, hbe, hheap⟩ := hR.obj id _ hm
        obtain ⟨hbk, hix⟩ := hE ix _ hk
        have hx' := (hE x _ hx).2
        split
        · rename_i p v hf
          obtain ⟨hck, hfk, hst⟩ := hKO θ k es _ hf w (es.map (entryC θ)).toArray.isEmpty
          obtain ⟨e, he1, rfl, _⟩ := hst p v rfl
          have hbv := (hbe e (List.mem_of_getElem? he1)).2
          refine ⟨θ, w, run_val ?_, ?_, Post.refl hR⟩
          · rw [hx', hix]
            simp only [Instr.lookup, Sem.run_bind, run_underlying hu w, Result.andThen, conc, run_getObj_mp hheap, Sem.run_pure, hck]
            simp only [List.toList_toArray, hfk, Result.andThen, Option.map_some, Sem.run_pure]
            cases ok <;> simp [conc]
          · cases ok
            · exact hbv
            · simp only [if_true, bd]
              intro y hy
              rcases List.mem_cons.1 hy with rfl | hy
              · exact hbv
              · obtain rfl := List.mem_singleton.1 hy; simp [bd]
        · rename_i hf
          split
          · rename_i z hz
            obtain ⟨hck, hfk, _⟩ := hKO θ k es _ hf w (es.map (entryC θ)).toArray.isEmpty
            obtain ⟨hbz, hrz⟩ := zero_apart (θ := θ) (w := w) hj hz h.next
            refine ⟨θ, w, run_val ?_, ?_, Post.refl hR⟩
            · rw [hx', hix]
              simp only [Instr.lookup, Sem.run_bind, run_underlying hu w, Result.andThen, conc, run_getObj_mp hheap, Sem.run_pure, hck]
              simp only [List.toList_toArray, hfk, Result.andThen, Option.map_none, Sem.run_pure, Sem.run_bind, hrz]
              cases ok <;> simp [conc]
            · cases ok
              · exact hbz
              · simp only [if_true, bd]
                intro y hy
                rcases List.mem_cons.1 hy with rfl | hy
                · exact hbz
                · obtain rfl := List.mem_singleton.1 hy; simp [bd]
          · trivial
        · trivial
      · trivial
    · trivial
  · trivial
end
end Go.Proofs.YtknplcpjmpmblaaDoor.GX
