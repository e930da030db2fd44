/- A general tool, which names no program: what must be shown of a piece of code for symbolic values, on the canonical machine; each rule proved. -/
import Derived.Test.YtimbciadadjhiaaDoorSx6
set_option linter.unusedVariables false
set_option linter.unusedSimpArgs false
set_option linter.unusedSectionVars false
namespace Go.AM
open Go.RowKit (Below)

variable {P : Program} {S : Sys} {n0 : Nat}

/-! The machine's memory, built from what came in. -/

theorem cell_block {w : World} {b o : Nat} {v : Value} (h : w.cell? ⟨b, o, none⟩ = some v) : ∃ cs t fz, w.heap[b]? = some (.cells cs t fz) ∧ cs[o]? = some v := by
  unfold World.cell? at h
  split at h
  · rename_i cs t fz hb
    simp only [Option.isSome_none] at h
    exact ⟨cs, t, fz, hb, h⟩
  · cases h

/-- What is built so far: rows that nobody writes. -/
structure Ins (P : Program) (n0 : Nat) (m : Map) (H : Heap) (w : World) : Prop where
  hr : HR n0 m H w
  ro : ∀ r rm, m r = some rm → rm.ro = true
  low : H.low ≤ H.size

theorem Keep.addRow (H : Heap) (row : Row) (hx : row.exact = true) : Keep H (H.add row) where
  size := by rw [Heap.add_size]; omega
  low := fun h => by rw [Heap.add_size, Heap.add_low]; omega
  lo := by rw [Heap.add_low]; omega
  row := fun r x hr hrow => by
    refine ⟨by rw [Heap.add_get, if_neg (by omega)]; exact hrow, ?_⟩
    unfold Heap.alive; rw [Heap.add_grps, hx]; rfl

theorem Ins.add {m : Map} {H : Heap} {w : World} (h : Ins P n0 m H w) {b sh : Nat} {cs : Array Value} {t : TypeId} {fz : Nat × Nat} (hb : w.heap[b]? = some (.cells cs t fz))
    {cells : List Value} (hlen : sh + cells.length ≤ cs.size) (hv : ∀ (j : Nat) (v : Value), cells[j]? = some v → ∃ v', cs[sh + j]? = some v' ∧ VR m v v') :
    Ins P n0 (m.put H.size ⟨b, sh, cs.size, 0, true, true⟩) (H.add { cells := cells, elem := t, exact := true, ro := true, esz := 0, grp := 2 * H.size, gpos := 0 }) w where
  hr := h.hr.addRo h.ro hb hlen hv
  ro := fun r rm hr => by
    rcases Map.put_inv hr with ⟨_, rfl⟩ | ⟨_, hr⟩
    · rfl
    · exact h.ro r rm hr
  low := by rw [Heap.add_size, Heap.add_low]; have := h.low; omega

/-- What is known of a slice of plain cells that came in. -/
def Came (w : World) (a : Option Addr) (len cap sz : Nat) (c : Nat → Value) : Prop :=
  (a = none ∧ len = 0 ∧ cap = 0) ∨ ∃ x, a = some x ∧ len ≤ cap ∧ ∀ j, j < cap * sz → w.cell? (x.add j) = some (c j)

theorem Ins.slice {m : Map} {H : Heap} {w : World} (h : Ins P n0 m H w) {a : Option Addr} {len cap sz : Nat} {c : Nat → Value} (hsz : 0 < sz) (hp : ∀ j, plain (c j) = true) (hc : Came w a len cap sz c) :
    ∃ m' H' v r, Ins P n0 m' H' w ∧ m.le m' ∧ Keep H H' ∧ VR m' v (.slice a len cap) ∧
      ((∃ a', v = .slice a' len cap ∧ len = 0) ∨ (v = .slice (some ⟨r, 0, none⟩) len cap ∧ r < H'.size ∧ ∀ j, j < len * sz → H'.read r (0 + j) 1 = some [c j])) := by
  rcases hc with ⟨rfl, rfl, rfl⟩ | ⟨⟨b, off, sp⟩, rfl, hle, hcell⟩
  · exact ⟨m, H, .slice none 0 0, 0, h, Map.le_refl _, Keep.refl _, .plain rfl, .inl ⟨none, rfl, rfl⟩⟩
  · rcases Nat.eq_zero_or_pos cap with h0 | h0
    · subst h0
      obtain rfl : len = 0 := by omega
      exact ⟨m, H, .slice (some ⟨0, 0, some 0⟩) 0 0, 0, h, Map.le_refl _, Keep.refl _, .sliceZ, .inl ⟨_, rfl, rfl⟩⟩
    · have hpos : 0 < cap * sz := Nat.mul_pos h0 hsz
      have hc0 := hcell 0 hpos
      have hsp : sp = none := by simpa [Addr.add] using World.cell?_spot hc0
      subst hsp
      have hat : ∀ j, j < cap * sz → w.cell? ⟨b, off + j, none⟩ = some (c j) := fun j hj => by
        have := hcell j hj; rwa [addr_add] at this
      obtain ⟨cs, t, fz, hb, _⟩ := cell_block (hat 0 hpos)
      have hcs : ∀ j, j < cap * sz → cs[off + j]? = some (c j) := fun j hj => by
        obtain ⟨cs', t', fz', hb', h'⟩ := cell_block (hat j hj)
        rw [hb] at hb'; cases hb'; exact h'
      have hls : len * sz ≤ cap * sz := Nat.mul_le_mul_right sz hle
      have hend : off + cap * sz ≤ cs.size := by
        have h1 := hcs (cap * sz - 1) (by omega)
        have h2 := (Array.getElem?_eq_some_iff.1 h1).1
        omega
      refine ⟨_, _, .slice (some ⟨H.size, 0, none⟩) len cap, H.size, h.add (sh := off) (cells := (List.range (len * sz)).map c) hb (by simp; omega) ?_, Map.le_put h.hr.none, Keep.addRow H _ rfl, ?_, .inr ⟨rfl, ?_, ?_⟩⟩
      · intro j v hj
        simp only [List.getElem?_map, Option.map_eq_some_iff] at hj
        obtain ⟨j', h1, rfl⟩ := hj
        obtain ⟨hlt, h2⟩ := List.getElem?_eq_some_iff.1 h1
        simp only [List.getElem_range] at h2
        subst h2
        simp only [List.length_range] at hlt
        exact ⟨c j, hcs j (by omega), .plain (hp j)⟩
      · exact .sliceE (rm := ⟨b, off, cs.size, 0, true, true⟩) (Map.put_same _ _ _) rfl
      · rw [Heap.add_size]; omega
      · intro j hj
        unfold Heap.read
        rw [Heap.add_get, if_pos rfl]
        simp only []
        rw [show (H.add _).alive H.size { cells := (List.range (len * sz)).map c, elem := t, exact := true, ro := true, esz := 0, grp := 2 * H.size, gpos := 0 } = true from rfl]
        rw [show Nat.ble (0 + j + 1) ((List.range (len * sz)).map c).length = true from Nat.ble_eq_true_of_le (by simp; omega)]
        simp only [Bool.and_self, cond_true, Nat.zero_add]
        congr 1
        apply List.ext_getElem?
        intro i
        by_cases hi : i = 0
        · subst hi
          simp [hj]
        · rw [List.getElem?_eq_none (by simp; omega), List.getElem?_eq_none (by simp; omega)]

/-- FROM THE MACHINE TO EVERY WORLD. -/
theorem calls_of_runs (hp : okProg P S.G = true) (hmix : P.follows .mixedOrders = true) (hO : OrcOk P S) {f : FuncId} {args args' : List Value} {H H' : Heap} {v : Value} (hr : Runs P S (.fn f) args H v H')
    {m : Map} {w : World} (h : HR n0 m H w) (hG : Glob m S.G) (ha : VRs m args args') (hv : plain v = true) :
    Calls P f args'.toArray w fun e w' => e = .returned v ∧ Below n0 w w' := by
  obtain ⟨D, d, e⟩ := hr
  refine ((oCallN_ok hp hmix hO D d).goes f args H v H' e n0 m w args' h hG ha).mono ?_
  rintro e w' ⟨v', m', rfl, hext, hvr⟩
  exact ⟨by rw [hvr.eq_of_plain hv], hext.below⟩

end Go.AM
