/- A general tool, which names no program: a canonical machine for the model's own code (rows of cells by number, no world, no open order), proved: what it comes to is what every run comes to. -/
import Derived.Test.YtimbciadadjhiaaDoorAm3
set_option linter.unusedVariables false
set_option linter.unusedSimpArgs false
set_option linter.unusedSectionVars false
namespace Go.AM
open Go.RowKit (Below)

variable {P : Program} {n0 : Nat} {m : Map} {H : Heap} {w : World}

def isAggD : TypeDesc → Bool
  | .struct _ | .array _ _ => true
  | _ => false

theorem run_typeInfo' {t : TypeId} {i : TypeInfo} (h : P.info? t = some i) (w : World) : (typeInfo t).run P w = .ok i w := by
  simp [typeInfo, h]
theorem run_underlying' {t : TypeId} {d : TypeDesc} (h : P.underlying t = some d) (w : World) : (underlying t).run P w = .ok d w := by
  simp [underlying, h]
theorem run_sizeOf' {t : TypeId} {i : TypeInfo} (h : P.info? t = some i) (w : World) : (sizeOf t).run P w = .ok i.size w := by
  simp [sizeOf, run_typeInfo' h]
theorem run_zero' {t : TypeId} {i : TypeInfo} {z : Value} (h : P.info? t = some i) (hz : i.zero = some z) (w : World) : (zeroValue t).run P w = .ok z w := by
  simp [zeroValue, run_typeInfo' h, hz]
theorem run_isAgg' {t : TypeId} {d : TypeDesc} (h : P.underlying t = some d) (w : World) : (isAgg t).run P w = .ok (isAggD d) w := by
  simp only [isAgg, Sem.run_bind, run_underlying' h, Result.andThen_ok]
  cases d <;> rfl

def Sim (P : Program) (n0 : Nat) (m : Map) (H : Heap) (w : World) (s : Sem Value) (v : Value) (H' : Heap) : Prop :=
  ∃ v' m' w', s.run P w = .ok v' w' ∧ Ext n0 m H w m' H' w' ∧ VR m' v v' ∧ HF H H'
def SimU (P : Program) (n0 : Nat) (m : Map) (H : Heap) (w : World) (s : Sem Unit) (H' : Heap) : Prop :=
  ∃ m' w', s.run P w = .ok () w' ∧ Ext n0 m H w m' H' w' ∧ HF H H'

theorem Sim.same (h : HR n0 m H w) {s : Sem Value} {v v' : Value} (hr : s.run P w = .ok v' w) (hv : VR m v v') : Sim P n0 m H w s v H :=
  ⟨v', m, w, hr, .refl h, hv, .refl H⟩

theorem VR.ptr_inv {r o : Nat} {v' : Value} (h : VR m (.pointer (some ⟨r, o, none⟩)) v') : ∃ rm, m r = some rm ∧ v' = .pointer (some ⟨rm.blk, rm.sh + o, none⟩) := by
  cases h with
  | plain h => simp [AM.plain] at h
  | ptr h => exact ⟨_, h, rfl⟩

theorem VR.slice_inv {r o n c : Nat} {v' : Value} (h : VR m (.slice (some ⟨r, o, none⟩) n c) v') : ∃ rm o' c', m r = some rm ∧ v' = .slice (some ⟨rm.blk, o', none⟩) n c' ∧
    ((rm.exact = true ∧ o' = rm.sh + o ∧ c' = c) ∨ (rm.exact = false ∧ n ≤ c ∧ c ≤ c' ∧ ((o' = rm.sh + o ∧ o' + c' * rm.esz ≤ rm.ext) ∨ c' = 0))) := by
  cases h with
  | plain h => simp [AM.plain] at h
  | sliceE h e => exact ⟨_, _, _, h, rfl, .inl ⟨e, rfl, rfl⟩⟩
  | sliceL h e a b c => exact ⟨_, _, _, h, rfl, .inr ⟨e, a, b, c⟩⟩

def Heap.read (H : Heap) (r off n : Nat) : Option (List Value) := match H.rows.get r with
  | some row => cond (H.alive r row && Nat.ble (off + n) row.cells.length) (some ((row.cells.drop off).take n)) none
  | none => none

theorem read_inv {r off n : Nat} {l : List Value} (e : H.read r off n = some l) : ∃ row, H.rows.get r = some row ∧ H.alive r row = true ∧ off + n ≤ row.cells.length ∧ l = (row.cells.drop off).take n := by
  unfold Heap.read at e
  cases hr : H.rows.get r with
  | none => rw [hr] at e; cases e
  | some row =>
    rw [hr] at e
    simp only [] at e
    cases hb : (H.alive r row && Nat.ble (off + n) row.cells.length) with
    | false => rw [hb] at e; cases e
    | true =>
      rw [hb, cond_true] at e
      simp only [Bool.and_eq_true] at hb
      exact ⟨row, rfl, hb.1, Nat.le_of_ble_eq_true hb.2, by injection e with e; exact e.symm⟩

theorem read_sound (h : HR n0 m H w) {r off n : Nat} {rm : RowMap} {l : List Value} (hm : m r = some rm) (e : H.read r off n = some l) :
    ∃ l', VRs m l l' ∧ l'.length = n ∧ l.length = n ∧ (∀ (j : Nat) (v : Value), l'[j]? = some v → w.cell? ⟨rm.blk, rm.sh + off + j, none⟩ = some v) ∧ rm.sh + off + n ≤ rm.ext := by
  obtain ⟨row, hrow, hal, hle, rfl⟩ := read_inv e
  obtain ⟨cs, fz, hb, _, hsz, hsh, hcell⟩ := (h.rowOf hm hrow).blkC (alive_loop hal)
  have hv := VRs.content (off := off) (n := n) (cs := cs.toList) (fun j v hj => by simpa using hcell hal j v hj) (by simpa [hsz] using hsh)
  rw [show min n (row.cells.length - off) = n by omega] at hv
  have hlen : ((row.cells.drop off).take n).length = n := by simp; omega
  refine ⟨_, hv, by rw [← hv.length, hlen], hlen, fun j v hj => ?_, by omega⟩
  rw [cell_of_row w rm.blk _ cs row.elem fz hb]
  rw [List.getElem?_take] at hj
  split at hj
  · rw [List.getElem?_drop] at hj; simpa using hj
  · cases hj

theorem addr_add (b o n : Nat) : (⟨b, o, none⟩ : Addr).add n = ⟨b, o + n, none⟩ := by
  unfold Addr.add; split <;> simp_all

theorem run_loadCells_of {b o n : Nat} {l' : List Value} (hl : l'.length = n) (hc : ∀ (j : Nat) (v : Value), l'[j]? = some v → w.cell? ⟨b, o + j, none⟩ = some v) :
    (loadCells ⟨b, o, none⟩ n).run P w = .ok l'.toArray w := by
  subst hl
  exact run_loadCells_list w _ l' fun j v hj => by rw [addr_add]; exact hc j v hj

def one1 : List Value → Option Value
  | [x] => some x
  | _ => none

def aLoad (P : Program) (H : Heap) (t : TypeId) : Value → Option Value
  | .pointer (some ⟨r, o, none⟩) => match P.info? t, P.underlying t with
    | some i, some d => cond (isAggD d) ((H.read r o i.size).map fun l => .agg ⟨l⟩) ((H.read r o 1).bind one1)
    | _, _ => none
  | _ => none

theorem aLoad_sound (h : HR n0 m H w) {t : TypeId} {a a' v : Value} (ha : VR m a a') (e : aLoad P H t a = some v) : ∃ v', (Instr.loadAt t a').run P w = .ok v' w ∧ VR m v v' := by
  unfold aLoad at e
  split at e
  · rename_i r o
    obtain ⟨rm, hm, rfl⟩ := ha.ptr_inv
    split at e
    · rename_i i d hi hd
      cases hg : isAggD d with
      | true =>
        rw [hg, cond_true] at e
        simp only [Option.map_eq_some_iff] at e
        obtain ⟨l, hl, rfl⟩ := e
        obtain ⟨l', hv, hlen, _, hc, _⟩ := read_sound h hm hl
        refine ⟨.agg ⟨l'⟩, ?_, .agg hv⟩
        simp [Instr.loadAt, Instr.sureAddr, loadVar, run_isAgg' hd, hg, run_sizeOf' hi, run_loadCells_of (P := P) hlen hc]
      | false =>
        rw [hg, cond_false] at e
        simp only [Option.bind_eq_some_iff] at e
        obtain ⟨l, hl, hx⟩ := e
        obtain ⟨l', hv, hlen, _, hc, _⟩ := read_sound h hm hl
        match l, l', hv, hlen, hx with
        | [x], [x'], .cons hv _, _, hx =>
          cases hx
          have := hc 0 x' rfl
          refine ⟨x', ?_, hv⟩
          simp [Instr.loadAt, Instr.sureAddr, loadVar, run_isAgg' hd, hg]
          simp at this
          rw [this]
    · cases e
  · cases e

def ones : List Value → Bool
  | [] => true
  | .agg _ :: _ => false
  | .tuple _ :: _ => false
  | _ :: l => ones l

theorem ones_mem : ∀ {l l'}, VRs m l l' → ones l = true → ∀ v ∈ l', v.oneCell' = true
  | _, _, .nil, _, v, hv => by cases hv
  | x :: l, _, .cons hx k, h, v, hv => by
    rcases List.mem_cons.1 hv with rfl | hv
    · cases hx with
      | plain hp => cases x <;> first | rfl | simp [ones] at h
      | agg _ => simp [ones] at h
      | tuple _ => simp [ones] at h
      | _ => rfl
    · refine ones_mem k ?_ v hv
      cases x <;> first | exact h | simp [ones] at h

def aStore (P : Program) (H : Heap) (t : TypeId) (a v : Value) : Option Heap := match a with
  | .pointer (some ⟨r, o, none⟩) => match P.info? t, H.rows.get r with
    | some i, some row => cond (!row.ro && (H.alive r row && (Nat.beq v.cells.toList.length i.size && (ones v.cells.toList && Nat.ble (o + v.cells.toList.length) row.cells.length))))
        (some (H.store r row o v.cells.toList)) none
    | _, _ => none
  | _ => none

theorem aStore_sound (h : HR n0 m H w) {t : TypeId} {a a' v v' : Value} {H' : Heap} (ha : VR m a a') (hv : VR m v v') (e : aStore P H t a v = some H') :
    SimU P n0 m H w (Instr.storeAt t a' v') H' := by
  unfold aStore at e
  split at e
  · rename_i r o
    obtain ⟨rm, hm, rfl⟩ := ha.ptr_inv
    split at e
    · rename_i i row hi hrow
      cases hb : (!row.ro && (H.alive r row && (Nat.beq v.cells.toList.length i.size && (ones v.cells.toList && Nat.ble (o + v.cells.toList.length) row.cells.length)))) with
      | false => rw [hb] at e; cases e
      | true =>
        rw [hb, cond_true] at e
        cases e
        simp only [Bool.and_eq_true, Bool.not_eq_true'] at hb
        obtain ⟨hro, hal, hsz, hones, hle⟩ := hb
        have hsz := Nat.eq_of_beq_eq_true hsz
        have hle := Nat.le_of_ble_eq_true hle
        have hc := hv.cells
        obtain ⟨cs, hb, hroom, hext⟩ := Ext.store h hm hrow hro hal o _ _ hc hle
        refine ⟨m, _, ?_, hext, HF.store H r row o _⟩
        have hst := run_storeCells_at P rm.blk (rm.sh + o) row.elem v'.cells.toList 0 cs w hb (by simpa using hroom) (ones_mem hc hones)
        have hsz' : v'.cells.size = i.size := by rw [← hsz, hc.length]; simp
        simp only [Instr.storeAt, Instr.sureAddr, storeVar, Sem.run_bind, Sem.run_pure, Result.andThen_ok, run_sizeOf' hi, hsz', ne_eq, not_true_eq_false, if_false]
        rw [hst]
        simp only [Nat.add_zero, toList_splice]
    · cases e
  · cases e

def Heap.newExact (H : Heap) (l : List Value) (e : TypeId) : Heap := H.add { cells := l, elem := e, exact := true, ro := false, esz := 0, grp := 2 * H.size, gpos := 0 }

theorem newExact_sound (h : HR n0 m H w) {l l' : List Value} (hl : VRs m l l') (e : TypeId) :
    Ext n0 m H w (m.put H.size ⟨w.heap.size, 0, l'.length, 0, true, false⟩) (H.newExact l e) (w.alloc (.cells l'.toArray e)) ∧ HF H (H.newExact l e) := by
  have := Ext.add h { cells := l, elem := e, exact := true, ro := false, esz := 0, grp := 2 * H.size, gpos := 0 } l' [] rfl rfl hl (.inl ⟨rfl, rfl⟩) w (.inl rfl)
  refine ⟨by simpa [Heap.newExact] using this, HF.add H _ (.inl rfl) h.inv⟩

theorem newVar_sim (h : HR n0 m H w) {v v' : Value} (hv : VR m v v') (t : TypeId) :
    Sim P n0 m H w (do pure (.pointer (some (← newVar t v')))) (.pointer (some ⟨H.size, 0, none⟩)) (H.newExact v.cells.toList t) := by
  obtain ⟨hext, hf⟩ := newExact_sound h hv.cells t
  refine ⟨_, _, _, ?_, hext, .ptr (Map.put_same _ _ _), hf⟩
  simp [newVar, newRow]

def aAlloc (P : Program) (H : Heap) (t : TypeId) : Option (Value × Heap) := match (P.info? t).bind (·.zero) with
  | some z => cond (plain z) (some (.pointer (some ⟨H.size, 0, none⟩), H.newExact z.cells.toList t)) none
  | none => none

theorem aAlloc_sound (h : HR n0 m H w) {t : TypeId} {v : Value} {H' : Heap} (e : aAlloc P H t = some (v, H')) : Sim P n0 m H w (Instr.alloc t true (.tuple #[])) v H' := by
  unfold aAlloc at e
  split at e
  · rename_i z hz
    simp only [Option.bind_eq_some_iff] at hz
    obtain ⟨i, hi, hz⟩ := hz
    cases hp : plain z with
    | false => rw [hp] at e; cases e
    | true =>
      rw [hp, cond_true] at e
      cases e
      obtain ⟨v', m', w', hr, hx⟩ := newVar_sim (P := P) h (.plain hp) t
      refine ⟨v', m', w', ?_, hx⟩
      simp only [Instr.alloc, Sem.run_bind, run_zero' hi hz, Result.andThen_ok]
      exact hr
  · cases e

def aFieldAt (P : Program) (s : TypeId) (f : Nat) : Value → Option Value
  | .pointer (some ⟨r, o, none⟩) => match P.underlying s with
    | some (.struct fields) => match fields[f]? with
      | some fd => match P.info? fd.type with
        | some i => cond (Nat.beq i.size 0) none (some (.pointer (some ⟨r, o + fd.offset, none⟩)))
        | none => none
      | none => none
    | _ => none
  | _ => none

theorem aFieldAt_sound {s : TypeId} {f : Nat} {a a' v : Value} (ha : VR m a a') (e : aFieldAt P s f a = some v) :
    ∃ v', (Instr.fieldAt s a' f).run P w = .ok v' w ∧ VR m v v' := by
  unfold aFieldAt at e
  split at e
  · rename_i r o
    obtain ⟨rm, hm, rfl⟩ := ha.ptr_inv
    split at e
    · rename_i fields hu
      split at e
      · rename_i fd hfd
        split at e
        · rename_i i hi
          cases hz : Nat.beq i.size 0 with
          | true => rw [hz] at e; cases e
          | false =>
            rw [hz, cond_false] at e
            cases e
            have hz' : i.size ≠ 0 := fun e => by rw [e] at hz; cases hz
            refine ⟨.pointer (some ⟨rm.blk, rm.sh + (o + fd.offset), none⟩), ?_, .ptr hm⟩
            simp [Instr.fieldAt, run_underlying' hu, hfd, Instr.sureAddr, fieldPlace, run_sizeOf' hi, hz', addr_add, Nat.add_assoc]
        · cases e
      · cases e
    · cases e
  · cases e

end Go.AM
