/- A run worked out: slices, maps, append and calls. -/
import Derived.Test.YtknplcpjmpmblaaDoorUf
import Derived.Great.BuildSlice
import Derived.Laws.MakeOwn
import Derived.MapKept
set_option linter.unusedVariables false
set_option linter.unusedSimpArgs false
namespace Go.Proofs.YtknplcpjmpmblaaDoor.GY
open Go Go.RowKit

/-- Keys of a type are compared as their numbers are. -/
def KeyOK (P : Program) (kt : TypeId) (n : Nat) : Prop :=
  ∀ (θ : Th) (k : AV) (es : List (AV × AV × Nat)) (r : Option (Nat × AV)), afindIn n k es = some r → ∀ (w : World) (b : Bool),
    (Instr.checkKey b 10000 kt (conc θ k)).run P w = .ok () w ∧ (Instr.findKey kt (conc θ k) (es.map (entryC θ))).run P w = .ok (r.map fun p => (p.1, conc θ p.2)) w ∧
      ∀ p v, r = some (p, v) → ∃ e, es[p]? = some e ∧ e.2.1 = v ∧ (Instr.keyThatStays (conc θ e.1) (conc θ k)).run P w = .ok (conc θ k) w

section
variable {P : Program} {tb : Tab} {θ : Th} {base : Bs} {h : AH} {ev : Operand → Option AV} {ρ : Operand → Value} {w : World}
theorem zeros_eq (z : Value) {l : List Value} (hz : z.cells.toList = l) (hl : 0 < l.length) (k : Nat) : (Array.range (k * l.length)).map (z.cells[· % z.cells.size]!) = ((rep (l.map AV.lit) k).map (conc θ)).toArray := by
  have hs : z.cells.size = l.length := by rw [← hz]; simp
  apply Array.toList_inj.1
  apply List.ext_getElem?
  intro j
  simp only [Array.toList_map, Array.toList_range, List.getElem?_map, List.toList_toArray]
  by_cases hj : j < k * l.length
  · have hlt : j % l.length < l.length := Nat.mod_lt _ hl
    rw [rep_get (by simpa using hl) k j (by simpa using hj), List.getElem?_range hj]
    simp only [Option.map_some, List.length_map, List.getElem?_map]
    have e : l[j % l.length]? = some l[j % l.length] := List.getElem?_eq_getElem hlt
    rw [e]
    simp only [Option.map_some, conc_lit, hs, Option.some.injEq]
    have hlt' : j % l.length < z.cells.size := by omega
    rw [getElem!_pos z.cells _ hlt', ← Array.getElem_toList (by simpa using hlt')]
    have : z.cells.toList[j % l.length]? = l[j % l.length]? := by rw [hz]
    rw [List.getElem?_eq_getElem (by rw [hz]; exact hlt), List.getElem?_eq_getElem hlt] at this
    exact Option.some.inj this
  · rw [List.getElem?_eq_none (by simp; omega), List.getElem?_eq_none (by rw [rep_len]; simp; omega)]
    rfl
theorem FOK.also {ps : List Prop} {o : AO} {v : AV} {s : Sem Next} (hR : R base θ h w) (hF : All ps → FOK P base θ (h.also ps) s (added (h.also ps) o v)) : XOK P base θ h w s (added (h.also ps) o v) := by
  unfold added at hF ⊢
  split
  · rename_i h' ha
    rw [ha] at hF
    have hsp := AH.add_spec ha
    refine ⟨fun hs => (also_all.1 (by rw [← hsp.2.2.2.2]; exact hs)).2, fun hs => ?_⟩
    have hp := (also_all.1 (show All (h.also ps).sc by rw [← hsp.2.2.2.2]; exact hs)).1
    obtain ⟨θ', w', a, b, c⟩ := Fresh.post (hF hp) (w := w) (hR.same rfl rfl rfl)
    exact ⟨θ', w', a, b, c.of_also⟩
  · trivial
theorem rowOf_get {ns : List Int} {sz len : Nat} (hl : ns.length = len * sz) {k j : Nat} (hk : k < len) (hj : j < sz) : ((ns.map fun n => AV.lit (.int .i64 n)).map (conc θ)).toArray[k * sz + j]? = some (.int .i64 (rowOf ns sz k j)) := by
  have hlt : k * sz + j < ns.length := by
    rw [hl]
    have : (k + 1) * sz ≤ len * sz := Nat.mul_le_mul_right _ hk
    rw [Nat.succ_mul] at this; omega
  simp only [List.getElem?_toArray, List.getElem?_map, List.getElem?_eq_getElem hlt, Option.map_some, conc_lit, rowOf]
theorem xBuildSlice_ok (hT : ∀ t i, tb.ty.get t = some i → TyOK P t i) (hE : EvOK θ h.next ev ρ) {t : TypeId} {len : Nat} {parts : Array (Nat × Operand)} :
    FOK P base θ h (do pure (Next.value (← Instr.buildSlice t len (parts.map fun (i, x) => (i, ρ x))))) (xBuildSlice tb h ev t len parts) := by
  unfold xBuildSlice
  split
  · rename_i el j ps hsl hps
    split
    · rename_i hc
      obtain ⟨hj0, hl0, hsm⟩ := hc
      split
      · rename_i cs hf
        obtain ⟨hu, hj⟩ := asliceOf_ok hT hsl
        obtain ⟨hb, he⟩ := evps_ok hE hps
        obtain ⟨inf, z, hinf, hsz, _, hz, hzc⟩ := hj.info
        have hlen := hj.len
        obtain ⟨a, b, c⟩ := afill_ok (θ := θ) hf (rep_bd (bd_lits _) _) hb
        have hcl : cs.length = len * j.size := by rw [b, rep_len]; simp [hlen]
        have hrun : ∀ w : World, (do pure (Next.value (← Instr.buildSlice t len (parts.map fun (i, x) => (i, ρ x))) ) : Sem Next).run P w = .ok (.value (.slice (some ⟨w.heap.size, 0, none⟩) len len)) (w.alloc (.cells (cs.map (conc θ)).toArray el)) := fun w => by
          refine run_val ?_
          refine run_buildSlice (P := P) w t el len _ _ inf z hu hinf hz (by rw [hsz]; omega) (by rw [hsz]; have := Nat.mul_pos hl0 hj0; omega) ?_
          have he' : (parts.map fun (i, x) => (i, ρ x)).toList = ps.map fun p => (p.1, conc θ p.2) := by rw [Array.toList_map]; exact he
          rw [he', hsz, ← c, ← hlen, zeros_eq (θ := θ) z hzc (by omega)]
        have hmx : len ≤ maxLen := by unfold maxLen; have : len ≤ len * j.size := Nat.le_mul_of_pos_right _ hj0; omega
        unfold xBuildSlice2
        split
        · rename_i ns hns
          have hcs := ai64s_ok hns
          have hnl : ns.length = len * j.size := by rw [← hcl, hcs, List.length_map]
          refine addedR_ok hmx (by simp [hcl]) (fun k q hk hq => ?_) hrun
          rw [hcs]
          exact rowOf_get hnl hk hq
        · exact added_ok (row := some j.size) (c := len) (cur := (cs.map (conc θ)).toArray) (f := fun k => .slice (some ⟨k, 0, none⟩) len len) (mk := fun k => .slc k 0 len 0) a (by simp) ⟨len, hcl, rfl, hmx⟩ hrun fun θ' b h' => ⟨by simp [bd, h'], by simp [conc, h']⟩
      · trivial
    · split
      · rename_i hc
        obtain ⟨rfl, hp0⟩ := hc
        obtain ⟨hu, hj⟩ := asliceOf_ok hT hsl
        obtain ⟨hb, he⟩ := evps_ok hE hps
        obtain ⟨inf, z, hinf, hsz, _, hz, hzc⟩ := hj.info
        have hpe : parts.toList = [] := by
          have := congrArg List.length he
          simp only [List.length_map, hp0] at this
          exact List.eq_nil_of_length_eq_zero this
        refine added_ok (row := none) (c := 0) (cur := #[]) (f := fun k => .slice (some ⟨k, 0, none⟩) 0 0) (mk := fun k => .slx k 0 0 0) (fun x hx => by cases hx) rfl trivial (fun w => run_val ?_) fun θ' b h' => ⟨by simp [bd], by simp [conc, h']⟩
        have hpm : (parts.map fun (i, x) => (i, ρ x)).toList = [] := by rw [Array.toList_map, hpe]; rfl
        simp [Instr.buildSlice, Sem.run_bind, run_underlying hu, sizeOf, typeInfo, hinf, Result.andThen, hpm, Instr.fill, newRow, hpe, Array.range_zero']
      · trivial
  · trivial
theorem rep_int {ns : List Int} (hl : 0 < ns.length) (N k j : Nat) (hk : k < N) (hj : j < ns.length) : ((rep (ns.map fun n => AV.lit (.int .i64 n)) N).map (conc θ)).toArray[k * ns.length + j]? = some (.int .i64 (rowOf ns 0 0 j)) := by
  have hlt : k * ns.length + j < N * ns.length := by
    have : (k + 1) * ns.length ≤ N * ns.length := Nat.mul_le_mul_right _ hk
    rw [Nat.succ_mul] at this; omega
  have h1 := rep_get (l := ns.map fun n => AV.lit (.int .i64 n)) (by simpa using hl) N (k * ns.length + j) (by simpa using hlt)
  rw [List.getElem?_toArray, List.getElem?_map, h1]
  have hm : (k * ns.length + j) % ns.length = j := by rw [Nat.mul_comm, Nat.mul_add_mod]; exact Nat.mod_eq_of_lt hj
  simp only [List.length_map, hm, List.getElem?_map, List.getElem?_eq_getElem hj, Option.map_some, conc_lit, rowOf, Nat.zero_mul, Nat.zero_add]
theorem xMakeSlice_ok (hT : ∀ t i, tb.ty.get t = some i → TyOK P t i) (hR : R base θ h w) (hE : EvOK θ h.next ev ρ) {t : TypeId} {l c : Operand} :
    XOK P base θ h w (do pure (Next.value (← Instr.makeSlice t (ρ l) (ρ c)))) (xMakeSlice tb h t ((ev l).bind aint) ((ev c).bind aint)) := by
  unfold xMakeSlice
  split
  · rename_i el j k n k' m hsl hl hc
    split
    · rename_i ns hns
      split
      · rename_i hcc
        obtain ⟨hj0, hby⟩ := hcc
        refine FOK.also hR fun hsd => ?_
        obtain ⟨⟨h0⟩, ⟨hn⟩, ⟨rfl⟩, _⟩ := hsd
        obtain ⟨hu, hj⟩ := asliceOf_ok hT hsl
        obtain ⟨inf, z, hinf, hsz, hbz, hz, hzc⟩ := hj.info
        have hlen := hj.len
        have hcs := ai64s_ok hns
        have hnl : ns.length = j.size := by have := congrArg List.length hcs; simp at this; omega
        have e1 := (hE l _ (bind_aint hl)).2
        have e2 := (hE c _ (bind_aint hc)).2
        rw [conc_lit] at e1 e2
        obtain ⟨N, rfl⟩ : ∃ N : Nat, n = (N : Int) := ⟨n.toNat, by omega⟩
        have hcl : (rep (j.zero.map AV.lit) N).length = N * j.size := by rw [rep_len]; simp [hlen]
        refine addedR_ok (cur := ((rep (j.zero.map AV.lit) N).map (conc θ)).toArray) (by unfold maxLen; omega) (by simp [hcl]) (fun q i hq hi => ?_) (fun w => run_val ?_)
        · rw [hcs, ← hnl]
          exact rep_int (by omega) N q i (by simpa using hq) (by omega)
        · rw [e1, e2]
          have hb2 : (inf.bytes : Int) * (N : Int) ≤ 281474976710656 := by
            rw [hbz]
            have : j.bytes * N ≤ 65536 * 65536 := Nat.mul_le_mul hby (by omega)
            have h2 : ((j.bytes * N : Nat) : Int) ≤ 281474976710656 := by omega
            rwa [Int.natCast_mul] at h2
          have hr := run_make (P := P) w t el inf z hu hinf hz k k' (N : Int) (N : Int) (by omega) (Int.le_refl _) hb2 (by omega)
          rw [hr]
          simp only [Int.toNat_natCast, madeCells, hsz]
          rw [← hlen, zeros_eq (θ := θ) z hzc (by omega)]
      · trivial
    · trivial
  · trivial
theorem run_getObj_mp {r : Nat} {es : Array MapEntry} {clock : Nat} (hb : w.heap[r]? = some (.map es clock)) : (getObj r).run P w = .ok (.map es clock) w := by simp [getObj, Sem.run, hb]
theorem run_setObj_mp {r : Nat} {es : Array MapEntry} {clock : Nat} (o : Obj) (hb : w.heap[r]? = some (.map es clock)) : (setObj r o).run P w = .ok () (w.putObj r o) := by simp [setObj, Sem.run, hb, World.putObj]
theorem xMakeMap_ok {t : TypeId} : FOK P base θ h (do pure (Next.value (← Instr.makeMap t none))) (added h (.map [] 0) (.mp h.next)) := by
  unfold added
  split
  · rename_i h' ha
    obtain ⟨_, hm, hn, hro, hsc⟩ := AH.add_spec ha
    refine ⟨⟨hn, hro, hsc⟩, fun id hid => by rw [hm, T.get_set_other _ _ _ _ _ hid], .map #[] 0, 0, fun k => .map (some k), fun w => run_val (by rw [run_makeMap]), fun w b hR hw hbase hu => ?_⟩
    have hsame := upd_same θ h.next ⟨b, 0, some ⟨b, 0, none⟩⟩
    exact ⟨hR.adopt ha hbase hu ⟨by simp, by rw [hsame]; exact hw⟩, by rw [hn]; simp [bd], by simp [conc, hsame]⟩
  · trivial
theorem amapOf_ok (hT : ∀ t i, tb.ty.get t = some i → TyOK P t i) (hK : ∀ t n, tb.keyEq.get t = some n → KeyOK P t n) {t : TypeId} {n : Nat} {j : TyI} (hx : amapOf tb t = some (n, j)) : ∃ kt el, P.underlying t = some (.map kt el) ∧ KeyOK P kt n ∧ TyOK P el j := by
  unfold amapOf at hx
  split at hx <;> try (cases hx; done)
  rename_i i hi
  split at hx <;> try (cases hx; done)
  rename_i kt el hd
  split at hx <;> try (cases hx; done)
  rename_i n' j' hn hj
  cases hx
  exact ⟨kt, el, by rw [(hT t i hi).und, hd], hK _ _ hn, hT _ _ hj⟩
theorem amapAt_ok {id : Nat} {es : List (AV × AV × Nat)} {clock : Nat} (hx : amapAt h id = some (es, clock)) : h.m.get id = some (.map es clock) := by
  unfold amapAt at hx
  split at hx
  · rename_i es' c' hm; cases hx; exact hm
  · cases hx
theorem zero_apart {j : TyI} {t : TypeId} (hj : TyOK P t j) {z : AV} (hz : apart j.agg (j.zero.map .lit) 0 j.size = some z) (n : Nat) : bd θ n z ∧ (zeroValue t).run P w = .ok (conc θ z) w := by
  obtain ⟨inf, z', hinf, _, _, h3, _⟩ := hj.info
  have hv := hj.zv inf hinf
  have hr : (zeroValue t).run P w = .ok (if j.agg then .agg j.zero.toArray else j.zero.headD undef) w := by simp [zeroValue, typeInfo, Sem.run_bind, hinf, hv, Result.andThen]
  rw [hr]
  unfold apart at hz
  cases ha : j.agg with
  | true =>
    rw [ha] at hz
    simp only [if_true, List.length_map, Nat.zero_add, List.drop_zero] at hz ⊢
    split at hz
    · cases hz
      rw [List.take_of_length_le (by simp [hj.len])]
      exact ⟨by simp only [bd]; exact bd_lits _, by simp only [conc, conc_lits]⟩
    · cases hz
  | false =>
    rw [ha] at hz
    simp only [Bool.false_eq_true, if_false] at hz ⊢
    cases hl : j.zero with
    | nil => rw [hl] at hz; cases hz
    | cons a l => rw [hl] at hz; cases hz; exact ⟨by simp [bd], by simp [conc]⟩
theorem afindIn_mem {t : TypeId} {n : Nat} {k : AV} {es : List (AV × AV × Nat)} {p : Nat} {v : AV} (hx : afindIn n k es = some (some (p, v))) (hK : KeyOK P t n) : ∃ e, es[p]? = some e ∧ e.2.1 = v := by
  obtain ⟨_, _, hc⟩ := hK (fun _ => ⟨0, 0, none⟩) k es _ hx default true
  obtain ⟨e, a, b, _⟩ := hc p v rfl
  exact ⟨e, a, b⟩
theorem xLookup_ok (hT : ∀ t i, tb.ty.get t = some i → TyOK P t i) (hK : ∀ t n, tb.keyEq.get t = some n → KeyOK P t n) (hR : R base θ h w) (hE : EvOK θ h.next ev ρ) {t : TypeId} {x ix : Operand} {ok : Bool} :
    XOK P base θ h w (do pure (Next.value (← Instr.lookup t (ρ x) (ρ ix) ok))) (xLookup tb h ev t x ix ok) := by
  unfold xLookup
  split
  · rename_i id hx
    unfold xLookup2
    split
    · rename_i k hk
      split
      · rename_i n j es clock hmo hma
        obtain ⟨kt, el, hu, hKO, hj⟩ := amapOf_ok hT hK hmo
        have hm := amapAt_ok hma
        obtain ⟨_, _, hbe, hheap⟩ := hR.obj id _ hm
        obtain ⟨hbk, hix⟩ := hE ix _ hk
        have hx' := (hE x _ hx).2
        split
        · rename_i p v hf
          obtain ⟨hck, hfk, hst⟩ := hKO θ k es _ hf w (es.map (entryC θ)).toArray.isEmpty
          obtain ⟨e, he1, rfl, _⟩ := hst p v rfl
          have hbv := (hbe e (List.mem_of_getElem? he1)).2
          refine ⟨fun hs => hs, fun _ => ⟨θ, w, run_val ?_, ?_, Post.refl hR⟩⟩
          · rw [hx', hix]
            simp only [Instr.lookup, Sem.run_bind, run_underlying hu w, Result.andThen, conc, run_getObj_mp hheap, Sem.run_pure, hck]
            simp only [List.toList_toArray, hfk, Result.andThen, Option.map_some, Sem.run_pure]
            cases ok <;> simp [conc]
          · cases ok
            · exact hbv
            · simp only [if_true, bd]
              intro y hy
              rcases List.mem_cons.1 hy with rfl | hy
              · exact hbv
              · obtain rfl := List.mem_singleton.1 hy; simp [bd]
        · rename_i hf
          split
          · rename_i z hz
            obtain ⟨hck, hfk, _⟩ := hKO θ k es _ hf w (es.map (entryC θ)).toArray.isEmpty
            obtain ⟨hbz, hrz⟩ := zero_apart (θ := θ) (w := w) hj hz h.next
            refine ⟨fun hs => hs, fun _ => ⟨θ, w, run_val ?_, ?_, Post.refl hR⟩⟩
            · rw [hx', hix]
              simp only [Instr.lookup, Sem.run_bind, run_underlying hu w, Result.andThen, conc, run_getObj_mp hheap, Sem.run_pure, hck]
              simp only [List.toList_toArray, hfk, Result.andThen, Option.map_none, Sem.run_pure, Sem.run_bind, hrz]
              cases ok <;> simp [conc]
            · cases ok
              · exact hbz
              · simp only [if_true, bd]
                intro y hy
                rcases List.mem_cons.1 hy with rfl | hy
                · exact hbz
                · obtain rfl := List.mem_singleton.1 hy; simp [bd]
          · trivial
        · trivial
      · trivial
    · trivial
  · trivial
end
end Go.Proofs.YtknplcpjmpmblaaDoor.GY
