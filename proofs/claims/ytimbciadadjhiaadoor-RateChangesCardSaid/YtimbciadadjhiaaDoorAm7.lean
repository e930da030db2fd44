/- A general tool, which names no program: a canonical machine for the model's own code (rows of cells by number, no world, no open order), proved: what it comes to is what every run comes to. -/
import Derived.Test.YtimbciadadjhiaaDoorAm6
set_option linter.unusedVariables false
set_option linter.unusedSimpArgs false
set_option linter.unusedSectionVars false
namespace Go.AM
open Go.RowKit (Below)

variable {P : Program} {n0 : Nat} {m : Map} {H : Heap} {w : World}

/-! make, composite literals. -/

def zeroRow (zs : List Value) (n : Nat) : List Value := match zs with
  | [x] => List.replicate n x
  | _ => (List.range n).map fun j => (zs[j % zs.length]?).getD default

theorem zeroRow_eq (zs : List Value) (n : Nat) : ((Array.range n).map (fun j => (zs.toArray)[j % zs.toArray.size]!)) = (zeroRow zs n).toArray := by
  have h : ((Array.range n).map (fun j => (zs.toArray)[j % zs.toArray.size]!)) = ((List.range n).map fun j => (zs[j % zs.length]?).getD default).toArray := by
    apply Array.ext'
    simp
  rw [h]
  unfold zeroRow
  split
  · rename_i x
    congr 1
    apply List.ext_getElem?
    intro j
    by_cases hj : j < n
    · simp [hj, Nat.mod_one]
    · simp [hj]
  · rfl

theorem zeroRow_length (zs : List Value) (n : Nat) : (zeroRow zs n).length = n := by unfold zeroRow; split <;> simp

theorem plains_mem : ∀ {l}, plains l = true → ∀ v ∈ l, plain v = true
  | x :: l, h, v, hv => by
    simp only [plains, Bool.and_eq_true] at h
    rcases List.mem_cons.1 hv with rfl | hv
    · exact h.1
    · exact plains_mem h.2 v hv
theorem plains_of : ∀ {l}, (∀ v ∈ l, plain v = true) → plains l = true
  | [], _ => rfl
  | x :: l, h => by simp only [plains, Bool.and_eq_true]; exact ⟨h x (by simp), plains_of fun v hv => h v (by simp [hv])⟩

theorem plains_cells {z : Value} (h : plain z = true) : plains z.cells.toList = true := by
  cases z with
  | agg cs => cases cs; exact plain_agg h
  | _ => simp only [Value.cells, plains, Bool.and_true]; exact h

theorem zeroRow_zero (zs : List Value) : zeroRow zs 0 = [] := by unfold zeroRow; split <;> simp

theorem zeroRow_plain {zs : List Value} {n : Nat} (h : plains zs = true) (hn : zs ≠ [] ∨ n = 0) : plains (zeroRow zs n) = true := by
  apply plains_of
  intro v hv
  unfold zeroRow at hv
  split at hv
  · rename_i x
    rw [List.eq_of_mem_replicate hv]
    exact plains_mem h _ (by simp)
  · simp only [List.mem_map, List.mem_range] at hv
    obtain ⟨j, hj, rfl⟩ := hv
    have hz : zs ≠ [] := hn.resolve_right (by omega)
    have hl : 0 < zs.length := List.length_pos_iff.2 hz
    have : j % zs.length < zs.length := Nat.mod_lt _ hl
    rw [List.getElem?_eq_getElem this]
    exact plains_mem h _ (by simp)

def small (n bytes : Nat) : Bool := Nat.ble n 268435456 && Nat.ble bytes 65536

theorem small_le {n b : Nat} (h : small n b = true) : n ≤ 268435456 ∧ b ≤ 65536 := by
  unfold small at h
  simp only [Bool.and_eq_true] at h
  exact ⟨Nat.le_of_ble_eq_true h.1, Nat.le_of_ble_eq_true h.2⟩
theorem small_mul {n b : Nat} (h : small n b = true) : n * b ≤ 17592186044416 := by
  obtain ⟨h1, h2⟩ := small_le h
  exact Nat.le_trans (Nat.mul_le_mul h1 h2) (by decide)

def aMakeSlice (P : Program) (H : Heap) (t : TypeId) (len cap : Value) : Option (Value × Heap) := match len, cap, P.underlying t with
  | .int _ l, .int _ c, some (.slice e) => match P.info? e with
    | some inf => match inf.zero with
      | some z => if 0 ≤ l ∧ l ≤ c then
          cond (small c.toNat inf.bytes && (plain z && (Nat.beq z.cells.toList.length inf.size))) (some (.slice (some ⟨H.size, 0, none⟩) l.toNat c.toNat, H.newExact (zeroRow z.cells.toList (c.toNat * inf.size)) e)) none
        else none
      | none => none
    | none => none
  | _, _, _ => none

theorem aMakeSlice_sound (h : HR n0 m H w) {t : TypeId} {len len' cap cap' v : Value} {H' : Heap} (hl : VR m len len') (hc : VR m cap cap') (e : aMakeSlice P H t len cap = some (v, H')) :
    Sim P n0 m H w (Instr.makeSlice t len' cap') v H' := by
  unfold aMakeSlice at e
  split at e
  · rename_i k l k' c e' hu
    rw [hl.int_inv, hc.int_inv]
    split at e
    · rename_i inf hinf
      split at e
      · rename_i z hz
        split at e
        · rename_i hlc
          cases hb : (small c.toNat inf.bytes && (plain z && (Nat.beq z.cells.toList.length inf.size))) with
          | false => rw [hb] at e; cases e
          | true =>
            rw [hb, cond_true] at e
            cases e
            simp only [Bool.and_eq_true] at hb
            obtain ⟨hs, hp, hsz⟩ := hb
            have hsz := Nat.eq_of_beq_eq_true hsz
            obtain ⟨hs1, _⟩ := small_le hs
            have hs2 := small_mul hs
            have hwc : IntKind.i64.wrap c = c := IntWalk.i64_in c (by omega)
            have hwl : IntKind.i64.wrap l = l := IntWalk.i64_in l (by omega)
            have hbig : ¬ (inf.bytes : Int) * c > 2 ^ 48 := by
              have : ((c.toNat * inf.bytes : Nat) : Int) ≤ 17592186044416 := by
                have := Int.ofNat_le.2 hs2
                simpa using this
              rw [Int.natCast_mul, Int.toNat_of_nonneg (by omega)] at this
              rw [Int.mul_comm]
              have h48 : (2 : Int) ^ 48 = 281474976710656 := by decide
              rw [h48]; omega
            have hplain : plains (zeroRow z.cells.toList (c.toNat * inf.size)) = true := by
              apply zeroRow_plain (plains_cells hp)
              by_cases h0 : inf.size = 0
              · right; rw [h0, Nat.mul_zero]
              · left; intro hnil; rw [hnil] at hsz; exact h0 hsz.symm
            obtain ⟨hext, hf⟩ := newExact_sound h (VRs.of_plain (m := m) hplain) e'
            refine ⟨.slice (some ⟨w.heap.size, 0, none⟩) l.toNat c.toNat, _, _, ?_, hext, ?_, hf⟩
            · have hneg : ¬ c < 0 := by omega
              have hneg2 : ¬ l < 0 := by omega
              have hgt : ¬ l > c := by omega
              have hbig' : ¬ (281474976710656 : Int) < (inf.bytes : Int) * c := by
                have h48 : (2 : Int) ^ 48 = 281474976710656 := by decide
                rw [← h48]; exact hbig
              have hgt' : ¬ c < l := by omega
              simp only [Instr.makeSlice, asInt, asIntOf, Sem.run_bind, run_underlying' hu, Result.andThen_ok, Sem.run_pure, run_typeInfo' hinf, hwc, hwl]
              simp only [hneg, hneg2, hgt', decide_false, hbig', Bool.or_false, Bool.false_eq_true, if_false, Int.reducePow, gt_iff_lt, Sem.run_bind, run_askRoom, Result.andThen_ok, run_sizeOf' hinf]
              by_cases h0 : c.toNat * inf.size = 0
              · simp only [h0, if_true, Sem.run_bind, Sem.run_pure, Result.andThen_ok, newRow, run_newObj, zeroRow_zero]
                have hr0 : (Array.map (fun x => (#[] : Array Value)[x % (#[] : Array Value).size]!) (Array.range 0)) = #[] := by simp
                rw [hr0]
                rfl
              · simp only [h0, if_false, Sem.run_bind, Sem.run_pure, Result.andThen_ok, newRow, run_newObj, run_zero' hinf hz]
                rw [← zeroRow_eq]
                rfl
            · exact .sliceE (rm := ⟨w.heap.size, 0, _, 0, true, false⟩) (Map.put_same _ _ _) rfl
        · cases e
      · cases e
    · cases e
  · cases e

/-! Filling in parts. -/

def aFill (place : Nat → Option (Nat × Nat)) (cells : List Value) : List (Nat × Value) → Option (List Value)
  | [] => some cells
  | (i, v) :: rest => match place i with
    | none => none
    | some (off, size) => cond (Nat.beq v.cells.toList.length size && Nat.ble (off + v.cells.toList.length) cells.length) (aFill place (splice cells off v.cells.toList) rest) none

inductive PR (m : Map) : List (Nat × Value) → List (Nat × Value) → Prop
  | nil : PR m [] []
  | cons {i v v' l l'} : VR m v v' → PR m l l' → PR m ((i, v) :: l) ((i, v') :: l')

theorem foldl_set : ∀ (vs : List Value) (k off : Nat) (cs : Array Value), off + k + vs.length ≤ cs.size →
    ((vs.zipIdx k).foldl (fun (cs : Array Value) x => cs.setIfInBounds (off + x.2) x.1) cs).toList = splice cs.toList (off + k) vs
  | [], k, off, cs, _ => by simp [splice]
  | v :: vs, k, off, cs, h => by
    simp only [List.length_cons] at h
    rw [List.zipIdx_cons, List.foldl_cons, foldl_set vs (k + 1) off _ (by simp; omega)]
    unfold splice
    simp only [Array.toList_setIfInBounds]
    have e := list_seg_step cs.toList (off + k) v vs (by simp; omega)
    simpa [Nat.add_assoc, Nat.add_comm, Nat.add_left_comm] using e

theorem VRs.splice {a a' vs vs' : List Value} {off : Nat} (h : VRs m a a') (hv : VRs m vs vs') : VRs m (splice a off vs) (splice a' off vs') := by
  unfold AM.splice
  rw [← hv.length]
  exact (h.take off).append (hv.append (h.drop _))

theorem aFill_sound {place : Nat → Option (Nat × Nat)} : ∀ {parts parts' : List (Nat × Value)} {cells cells' l : List Value}, PR m parts parts' → VRs m cells cells' → aFill place cells parts = some l →
    ∃ l', Instr.fill place cells'.toArray parts' = some l'.toArray ∧ VRs m l l'
  | _, _, cells, cells', l, .nil, hc, e => by cases e; exact ⟨cells', rfl, hc⟩
  | _, _, cells, cells', l, .cons (i := i) (v := v) (v' := v') hv hp, hc, e => by
    unfold aFill at e
    cases hpl : place i with
    | none => rw [hpl] at e; cases e
    | some os =>
      obtain ⟨off, size⟩ := os
      rw [hpl] at e
      simp only [] at e
      cases hb : (Nat.beq v.cells.toList.length size && Nat.ble (off + v.cells.toList.length) cells.length) with
      | false => rw [hb] at e; cases e
      | true =>
        rw [hb, cond_true] at e
        simp only [Bool.and_eq_true] at hb
        have h1 := Nat.eq_of_beq_eq_true hb.1
        have h2 := Nat.le_of_ble_eq_true hb.2
        have hvc := hv.cells
        have hlen := hvc.length
        have hcl := hc.length
        obtain ⟨l', hf, hl⟩ := aFill_sound hp (hc.splice (off := off) hvc) e
        refine ⟨l', ?_, hl⟩
        unfold Instr.fill
        simp only [hpl]
        have hsz : v'.cells.size = size := by rw [← h1, hlen]; simp
        have hle : ¬ off + v'.cells.size > cells'.toArray.size := by simp; simp at hlen; omega
        rw [if_neg (by simp only [hsz, ne_eq, not_true_eq_false, decide_false, Bool.false_or, decide_eq_true_eq]; rw [← hsz]; exact hle)]
        rw [← hf]
        congr 1
        apply Array.ext'
        have := foldl_set v'.cells.toList 0 off cells'.toArray (by simp; simp at hlen; omega)
        simp only [Nat.add_zero] at this
        rw [← this, ← Array.foldl_toList]
        simp only [Array.toList_zipIdx]

def aBuild (P : Program) (t : TypeId) (parts : List (Nat × Value)) : Option Value := match P.info? t, P.underlying t with
  | some it, some (.array _ e) => match it.zero, P.info? e with
    | some z, some ie => cond (plain z) ((aFill (fun i => some (i * ie.size, ie.size)) z.cells.toList parts).map fun l => .agg ⟨l⟩) none
    | _, _ => none
  | some it, some (.struct fields) => match it.zero, fields.toList.mapM (fun f => (P.info? f.type).map fun i => (f.offset, i.size)) with
    | some z, some places => cond (plain z) ((aFill (fun i => places[i]?) z.cells.toList parts).map fun l => .agg ⟨l⟩) none
    | _, _ => none
  | _, _ => none

theorem aBuild_sound {t : TypeId} {parts : List (Nat × Value)} {parts' : Array (Nat × Value)} {v : Value} (hp : PR m parts parts'.toList) (e : aBuild P t parts = some v) :
    ∃ v', (Instr.build t parts').run P w = .ok v' w ∧ VR m v v' := by
  unfold aBuild at e
  split at e
  · rename_i it n e' hit hu
    split at e
    · rename_i z ie hz hie
      cases hpz : plain z with
      | false => rw [hpz] at e; cases e
      | true =>
        rw [hpz, cond_true, Option.map_eq_some_iff] at e
        obtain ⟨l, hl, rfl⟩ := e
        obtain ⟨l', hf, hv⟩ := aFill_sound hp (VRs.of_plain (plains_cells hpz)) hl
        refine ⟨.agg ⟨l'⟩, run_build w t parts' l'.toArray ?_, .agg hv⟩
        unfold Program.built
        simp only [hit, hu, hz, hie]
        simpa using hf
    · cases e
  · rename_i it fields hit hu
    split at e
    · rename_i z places hz hpl
      cases hpz : plain z with
      | false => rw [hpz] at e; cases e
      | true =>
        rw [hpz, cond_true, Option.map_eq_some_iff] at e
        obtain ⟨l, hl, rfl⟩ := e
        obtain ⟨l', hf, hv⟩ := aFill_sound hp (VRs.of_plain (plains_cells hpz)) hl
        refine ⟨.agg ⟨l'⟩, run_build w t parts' l'.toArray ?_, .agg hv⟩
        unfold Program.built
        simp only [hit, hu, hz, hpl]
        simpa using hf
    · cases e
  · cases e

def aBuildSlice (P : Program) (H : Heap) (t : TypeId) (len : Nat) (parts : List (Nat × Value)) : Option (Value × Heap) := match P.underlying t with
  | some (.slice e) => match P.info? e with
    | some inf => match inf.zero with
      | some z => cond (plain z && (Nat.beq z.cells.toList.length inf.size && Nat.ble (len * inf.size) 100000))
          ((aFill (fun i => some (i * inf.size, inf.size)) (zeroRow z.cells.toList (len * inf.size)) parts).map fun l => (.slice (some ⟨H.size, 0, none⟩) len len, H.newExact l e)) none
      | none => none
    | none => none
  | _ => none

theorem aBuildSlice_sound (h : HR n0 m H w) {t : TypeId} {len : Nat} {parts : List (Nat × Value)} {parts' : Array (Nat × Value)} {v : Value} {H' : Heap} (hp : PR m parts parts'.toList)
    (e : aBuildSlice P H t len parts = some (v, H')) : Sim P n0 m H w (Instr.buildSlice t len parts') v H' := by
  unfold aBuildSlice at e
  split at e
  · rename_i e' hu
    split at e
    · rename_i inf hinf
      split at e
      · rename_i z hz
        cases hb : (plain z && (Nat.beq z.cells.toList.length inf.size && Nat.ble (len * inf.size) 100000)) with
        | false => rw [hb] at e; cases e
        | true =>
          rw [hb, cond_true, Option.map_eq_some_iff] at e
          obtain ⟨l, hl, hv⟩ := e
          cases hv
          simp only [Bool.and_eq_true] at hb
          obtain ⟨hpz, hsz, hle⟩ := hb
          have hsz := Nat.eq_of_beq_eq_true hsz
          have hle := Nat.le_of_ble_eq_true hle
          have hplain : plains (zeroRow z.cells.toList (len * inf.size)) = true := by
            apply zeroRow_plain (plains_cells hpz)
            by_cases h0 : inf.size = 0
            · right; rw [h0, Nat.mul_zero]
            · left; intro hnil; rw [hnil] at hsz; exact h0 hsz.symm
          obtain ⟨l', hf, hvl⟩ := aFill_sound hp (VRs.of_plain hplain) hl
          obtain ⟨hext, hff⟩ := newExact_sound h hvl e'
          refine ⟨.slice (some ⟨w.heap.size, 0, none⟩) len len, _, _, ?_, hext, .sliceE (rm := ⟨w.heap.size, 0, _, 0, true, false⟩) (Map.put_same _ _ _) rfl, hff⟩
          have hbig : ¬ 2 ^ 24 < len * inf.size := by omega
          simp only [Instr.buildSlice, Sem.run_bind, run_underlying' hu, Result.andThen_ok, run_sizeOf' hinf, Sem.run_pure, gt_iff_lt, hbig, if_false]
          by_cases h0 : len * inf.size = 0
          · rw [h0, zeroRow_zero] at hf
            have hf' : Instr.fill (fun i => some (i * inf.size, inf.size)) #[] parts'.toList = some l'.toArray := hf
            simp only [h0, if_true, Sem.run_bind, Sem.run_pure, Result.andThen_ok]
            have hr0 : (Array.map (fun x => (#[] : Array Value)[x % (#[] : Array Value).size]!) (Array.range 0)) = #[] := by simp
            rw [hr0, hf']
            rfl
          · have hr0 : (Array.map (fun x => z.cells[x % z.cells.size]!) (Array.range (len * inf.size))) = (zeroRow z.cells.toList (len * inf.size)).toArray := by
              rw [← zeroRow_eq]
            simp only [h0, if_false, Sem.run_bind, Sem.run_pure, Result.andThen_ok, run_zero' hinf hz]
            rw [hr0, hf]
            rfl
      · cases e
    · cases e
  · cases e

end Go.AM
