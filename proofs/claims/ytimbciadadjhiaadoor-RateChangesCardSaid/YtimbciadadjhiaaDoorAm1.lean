/- A general tool, which names no program: a canonical machine for the model's own code (rows of cells by number, no world, no open order), proved: what it comes to is what every run comes to. -/
import Derived.Orders
import Derived.Laws.Rows
import Derived.Laws.Cells
import Derived.Below
set_option linter.unusedVariables false
set_option linter.unusedSimpArgs false
set_option linter.unusedSectionVars false
namespace Go.AM
open Go.RowKit (Below)

/-! The canonical memory: rows of cells by number. -/

inductive Trie (α : Type) where
  | leaf
  | node (l : Trie α) (v : Option α) (r : Trie α)

namespace Trie
variable {α : Type}
def get : Trie α → Nat → Option α
  | .leaf, _ => none
  | .node l v r, i => cond (Nat.beq i 0) v (cond (Nat.beq (i % 2) 1) (l.get (i / 2)) (r.get (i / 2 - 1)))

def set : Nat → Trie α → Nat → α → Trie α
  | 0, t, _, _ => t
  | n + 1, .leaf, i, x => cond (Nat.beq i 0) (.node .leaf (some x) .leaf) (cond (Nat.beq (i % 2) 1) (.node (set n .leaf (i / 2) x) none .leaf) (.node .leaf none (set n .leaf (i / 2 - 1) x)))
  | n + 1, .node l v r, i, x => cond (Nat.beq i 0) (.node l (some x) r) (cond (Nat.beq (i % 2) 1) (.node (set n l (i / 2) x) v r) (.node l v (set n r (i / 2 - 1) x)))

/-- The same, with its path written out: the kernel then keeps no unfinished tree. -/
def setK {R : Type} : Nat → Trie α → Nat → α → (Trie α → R) → R
  | 0, t, _, _, k => k t
  | n + 1, .leaf, i, x, k => cond (Nat.beq i 0) (k (.node .leaf (some x) .leaf)) (cond (Nat.beq (i % 2) 1) (setK n .leaf (i / 2) x fun l => k (.node l none .leaf)) (setK n .leaf (i / 2 - 1) x fun r => k (.node .leaf none r)))
  | n + 1, .node l v r, i, x, k => cond (Nat.beq i 0) (k (.node l (some x) r)) (cond (Nat.beq (i % 2) 1) (setK n l (i / 2) x fun l => k (.node l v r)) (setK n r (i / 2 - 1) x fun r => k (.node l v r)))

theorem setK_eq {R : Type} : ∀ (n : Nat) (t : Trie α) (i : Nat) (x : α) (k : Trie α → R), setK n t i x k = k (set n t i x)
  | 0, t, i, x, k => rfl
  | n + 1, .leaf, i, x, k => by
    simp only [setK, set, setK_eq n]
    cases Nat.beq i 0 <;> cases Nat.beq (i % 2) 1 <;> rfl
  | n + 1, .node l v r, i, x, k => by
    simp only [setK, set, setK_eq n]
    cases Nat.beq i 0 <;> cases Nat.beq (i % 2) 1 <;> rfl

def put (t : Trie α) (i : Nat) (x : α) : Trie α := setK (i + 1) t i x fun t => t
theorem put_eq (t : Trie α) (i : Nat) (x : α) : t.put i x = set (i + 1) t i x := setK_eq _ _ _ _ _

theorem beq_ff {a b : Nat} (h : a ≠ b) : Nat.beq a b = false := by
  cases e : Nat.beq a b with
  | false => rfl
  | true => exact absurd (Nat.eq_of_beq_eq_true e) h
theorem beq_tt {a b : Nat} (h : a = b) : Nat.beq a b = true := by subst h; simp

theorem get_set_same : ∀ (n : Nat) (t : Trie α) (i : Nat) (x : α), i < n → (set n t i x).get i = some x := by
  intro n
  induction n with
  | zero => intro t i x h; omega
  | succ n ih =>
    intro t i x h
    rcases Nat.eq_zero_or_pos i with rfl | h0
    · cases t <;> rfl
    · have hb : Nat.beq i 0 = false := beq_ff (by omega)
      by_cases hp : i % 2 = 1
      · have hq := beq_tt hp
        cases t <;> simp only [set, get, hb, hq, cond_true, cond_false] <;> exact ih _ (i / 2) x (by omega)
      · have hq := beq_ff hp
        cases t <;> simp only [set, get, hb, hq, cond_false] <;> exact ih _ (i / 2 - 1) x (by omega)

theorem get_set_ne : ∀ (n : Nat) (t : Trie α) (i j : Nat) (x : α), i < n → j ≠ i → (set n t i x).get j = t.get j := by
  intro n
  induction n with
  | zero => intro t i j x h; omega
  | succ n ih =>
    intro t i j x h hne
    rcases Nat.eq_zero_or_pos i with rfl | h0
    · have hj : Nat.beq j 0 = false := beq_ff hne
      have h00 : Nat.beq 0 0 = true := rfl
      cases t <;> simp only [set, get, hj, h00, cond_true, cond_false] <;> cases Nat.beq (j % 2) 1 <;> rfl
    · have hb : Nat.beq i 0 = false := beq_ff (by omega)
      rcases Nat.eq_zero_or_pos j with rfl | hj0
      · have h00 : Nat.beq 0 0 = true := rfl
        cases t <;> simp only [set, hb, cond_false] <;> cases Nat.beq (i % 2) 1 <;> simp only [get, h00, cond_true, cond_false]
      · have hj : Nat.beq j 0 = false := beq_ff (by omega)
        by_cases hp : i % 2 = 1 <;> by_cases hq : j % 2 = 1
        · have hp' := beq_tt hp
          have hq' := beq_tt hq
          cases t <;> simp only [set, get, hb, hp', hj, hq', cond_true, cond_false]
          · rw [ih _ (i / 2) (j / 2) x (by omega) (by omega)]; rfl
          · rw [ih _ (i / 2) (j / 2) x (by omega) (by omega)]
        · have hp' := beq_tt hp
          have hq' := beq_ff hq
          cases t <;> simp only [set, get, hb, hp', hj, hq', cond_true, cond_false]
        · have hp' := beq_ff hp
          have hq' := beq_tt hq
          cases t <;> simp only [set, get, hb, hp', hj, hq', cond_true, cond_false]
        · have hp' := beq_ff hp
          have hq' := beq_ff hq
          cases t <;> simp only [set, get, hb, hp', hj, hq', cond_false]
          · rw [ih _ (i / 2 - 1) (j / 2 - 1) x (by omega) (by omega)]; rfl
          · rw [ih _ (i / 2 - 1) (j / 2 - 1) x (by omega) (by omega)]

@[simp] theorem get_put_same (t : Trie α) (i : Nat) (x : α) : (t.put i x).get i = some x := by rw [put_eq]; exact get_set_same _ _ _ _ (by omega)
theorem get_put_ne (t : Trie α) {i j : Nat} (x : α) (h : j ≠ i) : (t.put i x).get j = t.get j := by rw [put_eq]; exact get_set_ne _ _ _ _ _ (by omega) h
theorem get_put (t : Trie α) (i j : Nat) (x : α) : (t.put i x).get j = if j = i then some x else t.get j := by
  split
  · rename_i h; rw [h, get_put_same]
  · rename_i h; exact get_put_ne t x h
end Trie

/-! Words that write a term out and change nothing. -/

def forceN {R : Type} (n : Nat) (k : Nat → R) : R := @Nat.casesOn (fun _ => R) n (k 0) (fun m => k (Nat.succ m))
theorem forceN_eq {R : Type} (n : Nat) (k : Nat → R) : forceN n k = k n := by cases n <;> rfl
def forceL {α R : Type} : List α → (List α → R) → R
  | [], k => k []
  | x :: l, k => forceL l fun l => k (x :: l)
theorem forceL_eq {α R : Type} : ∀ (l : List α) (k : List α → R), forceL l k = k l
  | [], k => rfl
  | x :: l, k => forceL_eq l _
def forceT {α R : Type} (t : Trie α) (k : Trie α → R) : R := @Trie.casesOn α (fun _ => R) t (k .leaf) (fun l v r => k (.node l v r))
theorem forceT_eq {α R : Type} (t : Trie α) (k : Trie α → R) : forceT t k = k t := by cases t <;> rfl

/-- A loop over a function, as its record stands in the memory. -/
structure LoopRec where
  tmps : Array Value
  params : Array Tmp
  assign : Code
  body : Code
  state : LoopState
  pending : Option Code

structure Row where
  cells : List Value
  elem : TypeId
  exact : Bool
  ro : Bool
  esz : Nat
  grp : Nat
  gpos : Nat
  loop : Option LoopRec := none

structure Heap where
  size : Nat
  rows : Trie Row
  grps : Trie (List Nat)
  low : Nat

def memN (r : Nat) : List Nat → Bool
  | [] => false
  | x :: l => cond (Nat.beq x r) true (memN r l)

def Heap.alive (H : Heap) (r : Nat) (row : Row) : Bool := match row.loop with
  | none => row.exact || memN r ((H.grps.get row.grp).getD [])
  | some _ => false

/-! Values that hold no address. -/

def notYield : Fn → Bool
  | .yield _ => false
  | _ => true

mutual
def plain : Value → Bool
  | .bool _ | .int _ _ | .float _ _ | .complex _ _ _ | .string _ | .nilFunc | .nilIface => true
  | .pointer none | .slice none _ _ | .map none | .chan none => true
  | .pointer (some _) | .slice (some _) _ _ | .map (some _) | .chan (some _) => false
  | .func fn a b => notYield fn && (plainA a && plainA b)
  | .iface _ v => plain v
  | .agg cs => plainA cs
  | .tuple cs => plainA cs
def plainA : Array Value → Bool
  | ⟨l⟩ => plains l
def plains : List Value → Bool
  | [] => true
  | v :: l => plain v && plains l
end

structure RowMap where
  blk : Nat
  sh : Nat
  ext : Nat
  esz : Nat
  exact : Bool
  ro : Bool

abbrev Map := Nat → Option RowMap

mutual
inductive VR (m : Map) : Value → Value → Prop
  | plain {v} : plain v = true → VR m v v
  | ptr {r o rm} : m r = some rm → VR m (.pointer (some ⟨r, o, none⟩)) (.pointer (some ⟨rm.blk, rm.sh + o, none⟩))
  | sliceE {r o n c rm} : m r = some rm → rm.exact = true → VR m (.slice (some ⟨r, o, none⟩) n c) (.slice (some ⟨rm.blk, rm.sh + o, none⟩) n c)
  | sliceL {r o n c c' o' rm} : m r = some rm → rm.exact = false → n ≤ c → c ≤ c' → ((o' = rm.sh + o ∧ o' + c' * rm.esz ≤ rm.ext) ∨ c' = 0) →
      VR m (.slice (some ⟨r, o, none⟩) n c) (.slice (some ⟨rm.blk, o', none⟩) n c')
  | sliceZ {r o sp a'} : VR m (.slice (some ⟨r, o, some sp⟩) 0 0) (.slice (some a') 0 0)
  | iface {t v v'} : VR m v v' → VR m (.iface t v) (.iface t v')
  | agg {l l'} : VRs m l l' → VR m (.agg ⟨l⟩) (.agg ⟨l'⟩)
  | tuple {l l'} : VRs m l l' → VR m (.tuple ⟨l⟩) (.tuple ⟨l'⟩)
  | yield {l rm} : m l = some rm → VR m (.func (.yield l) ⟨[]⟩ ⟨[]⟩) (.func (.yield rm.blk) ⟨[]⟩ ⟨[]⟩)
  | func {fn a a' b b'} : notYield fn = true → VRs m a a' → VRs m b b' → VR m (.func fn ⟨a⟩ ⟨b⟩) (.func fn ⟨a'⟩ ⟨b'⟩)
inductive VRs (m : Map) : List Value → List Value → Prop
  | nil : VRs m [] []
  | cons {v v' l l'} : VR m v v' → VRs m l l' → VRs m (v :: l) (v' :: l')
end

def Map.le (m m' : Map) : Prop := ∀ r rm, m r = some rm → m' r = some rm

theorem Map.le_refl (m : Map) : m.le m := fun _ _ h => h
theorem Map.le_trans {a b c : Map} (h : a.le b) (k : b.le c) : a.le c := fun r rm e => k r rm (h r rm e)

mutual
theorem VR.mono {m m' : Map} (hm : m.le m') : ∀ {v v'}, VR m v v' → VR m' v v'
  | _, _, .plain h => .plain h
  | _, _, .ptr h => .ptr (hm _ _ h)
  | _, _, .yield h => .yield (hm _ _ h)
  | _, _, .sliceE h e => .sliceE (hm _ _ h) e
  | _, _, .sliceL h e a b c => .sliceL (hm _ _ h) e a b c
  | _, _, .sliceZ => .sliceZ
  | _, _, .iface h => .iface (VR.mono hm h)
  | _, _, .agg h => .agg (VRs.mono hm h)
  | _, _, .tuple h => .tuple (VRs.mono hm h)
  | _, _, .func hn h k => .func hn (VRs.mono hm h) (VRs.mono hm k)
theorem VRs.mono {m m' : Map} (hm : m.le m') : ∀ {l l'}, VRs m l l' → VRs m' l l'
  | _, _, .nil => .nil
  | _, _, .cons h k => .cons (VR.mono hm h) (VRs.mono hm k)
end

theorem VRs.length {m : Map} : ∀ {l l'}, VRs m l l' → l.length = l'.length
  | _, _, .nil => rfl
  | _, _, .cons _ k => by simp [k.length]

theorem VRs.get {m : Map} : ∀ {l l'}, VRs m l l' → ∀ (j : Nat) (v : Value), l[j]? = some v → ∃ v', l'[j]? = some v' ∧ VR m v v'
  | _, _, .nil, j, v, h => by simp at h
  | _, _, .cons h k, 0, v, e => by simp at e; subst e; exact ⟨_, rfl, h⟩
  | _, _, .cons h k, j + 1, v, e => by simp at e; simpa using k.get j v e

theorem VRs.of_get {m : Map} : ∀ {l l' : List Value}, l.length = l'.length → (∀ (j : Nat) (v : Value), l[j]? = some v → ∃ v', l'[j]? = some v' ∧ VR m v v') → VRs m l l'
  | [], [], _, _ => .nil
  | v :: l, v' :: l', hl, h => by
    obtain ⟨u, hu, hv⟩ := h 0 v rfl
    simp at hu; subst hu
    exact .cons hv (VRs.of_get (by simpa using hl) fun j v e => by simpa using h (j + 1) v (by simpa using e))

theorem VRs.append {m : Map} : ∀ {a a' b b'}, VRs m a a' → VRs m b b' → VRs m (a ++ b) (a' ++ b')
  | _, _, _, _, .nil, h => h
  | _, _, _, _, .cons h k, h' => .cons h (k.append h')

theorem VRs.drop {m : Map} : ∀ (n : Nat) {a a'}, VRs m a a' → VRs m (a.drop n) (a'.drop n)
  | 0, _, _, h => by simpa using h
  | n + 1, _, _, .nil => .nil
  | n + 1, _, _, .cons _ k => by simpa using k.drop n

theorem VRs.take {m : Map} : ∀ (n : Nat) {a a'}, VRs m a a' → VRs m (a.take n) (a'.take n)
  | 0, _, _, h => by simpa using VRs.nil
  | n + 1, _, _, .nil => .nil
  | n + 1, _, _, .cons h k => by simpa using VRs.cons h (k.take n)

theorem VRs.of_plain {m : Map} : ∀ {l}, plains l = true → VRs m l l
  | [], _ => .nil
  | v :: l, h => by simp only [plains, Bool.and_eq_true] at h; exact .cons (.plain h.1) (VRs.of_plain h.2)

theorem VRs.eq_of_plain {m : Map} : ∀ {l l'}, (∀ v v', v ∈ l → VR m v v' → v' = v) → VRs m l l' → l' = l
  | _, _, _, .nil => rfl
  | _, _, hv, .cons h k => by
    rw [hv _ _ (by simp) h, VRs.eq_of_plain (fun v v' hm => hv v v' (by simp [hm])) k]

mutual
theorem VR.eq_of_plain {m : Map} : ∀ {v v'}, VR m v v' → plain v = true → v' = v
  | _, _, .plain _, _ => rfl
  | _, _, .ptr _, h => by simp [AM.plain] at h
  | _, _, .yield _, h => by simp [AM.plain, notYield] at h
  | _, _, .sliceE _ _, h => by simp [AM.plain] at h
  | _, _, .sliceL _ _ _ _ _, h => by simp [AM.plain] at h
  | _, _, .sliceZ, h => by simp [AM.plain] at h
  | _, _, .iface k, h => by simp only [AM.plain] at h; rw [VR.eq_of_plain k h]
  | _, _, .agg k, h => by simp only [AM.plain, plainA] at h; rw [VRs.eq_plain k h]
  | _, _, .tuple k, h => by simp only [AM.plain, plainA] at h; rw [VRs.eq_plain k h]
  | _, _, .func _ k k', h => by simp only [AM.plain, plainA, Bool.and_eq_true] at h; rw [VRs.eq_plain k h.2.1, VRs.eq_plain k' h.2.2]
theorem VRs.eq_plain {m : Map} : ∀ {l l'}, VRs m l l' → plains l = true → l' = l
  | _, _, .nil, _ => rfl
  | _, _, .cons h k, e => by simp only [plains, Bool.and_eq_true] at e; rw [VR.eq_of_plain h e.1, VRs.eq_plain k e.2]
end

theorem VR.cells {m : Map} {v v' : Value} (h : VR m v v') : VRs m v.cells.toList v'.cells.toList := by
  cases h with
  | @plain v h =>
    cases v <;> first
      | exact .cons (.plain h) .nil
      | (rename_i cs; cases cs; simp only [AM.plain, plainA] at h; exact VRs.of_plain h)
  | agg h => exact h
  | ptr h => exact .cons (.ptr h) .nil
  | yield h => exact .cons (.yield h) .nil
  | sliceE h e => exact .cons (.sliceE h e) .nil
  | sliceL h e a b c => exact .cons (.sliceL h e a b c) .nil
  | sliceZ => exact .cons .sliceZ .nil
  | iface h => exact .cons (.iface h) .nil
  | tuple h => exact .cons (.tuple h) .nil
  | func hn h k => exact .cons (.func hn h k) .nil

/-- What the block of a row holds. -/
def BlkOk (m : Map) (w : World) (rm : RowMap) (row : Row) (alive : Bool) : Prop :=
  (row.loop = none ∧ ∃ cs fz, w.heap[rm.blk]? = some (.cells cs row.elem fz) ∧ (row.ro = false → fz = (0, 0)) ∧ cs.size = rm.ext ∧ rm.sh + row.cells.length ≤ rm.ext ∧
    (alive = true → ∀ (j : Nat) (v : Value), row.cells[j]? = some v → ∃ v', cs[rm.sh + j]? = some v' ∧ VR m v v')) ∨
  (∃ lr tm fn d, row.loop = some lr ∧ row.exact = true ∧ w.heap[rm.blk]? = some (.loop { state := lr.state, pending := lr.pending, fn := fn, tmps := tm, params := lr.params, assign := lr.assign, body := lr.body, defers := d }) ∧
    VRs m lr.tmps.toList tm.toList)

structure Fits (n0 : Nat) (m : Map) (w : World) (r : Nat) (rm : RowMap) (row : Row) (alive : Bool) : Prop where
  ex : rm.exact = row.exact
  es : rm.esz = row.esz
  ro : rm.ro = row.ro
  grpE : row.exact = true → row.grp = 2 * r
  grpL : row.exact = false → row.grp % 2 = 1
  grpB : row.grp ≤ 2 * r + 1
  roE : row.ro = true → row.exact = true
  own : row.ro = false → n0 ≤ rm.blk
  blk : BlkOk m w rm row alive

structure HR (n0 : Nat) (m : Map) (H : Heap) (w : World) : Prop where
  base : n0 ≤ w.heap.size
  row : ∀ r rm, m r = some rm → ∃ row, H.rows.get r = some row ∧ r < H.size ∧ Fits n0 m w r rm row (H.alive r row)
  apart : ∀ r r' rm rm' row row', m r = some rm → m r' = some rm' → H.rows.get r = some row → H.rows.get r' = some row' → rm.blk = rm'.blk →
    (row.grp = row'.grp ∧ rm.sh + row'.gpos = rm'.sh + row.gpos) ∨ (row.ro = true ∧ row'.ro = true)
  inv : ∀ r x, H.rows.get r = some x → (x.exact = true ∨ x.grp < 2 * H.size) ∧ r < H.size

structure Ext (n0 : Nat) (m : Map) (H : Heap) (w : World) (m' : Map) (H' : Heap) (w' : World) : Prop where
  mono : m.le m'
  hr : HR n0 m' H' w'
  below : Below n0 w w'
  fr : ∀ b, b < w.heap.size → (∀ r rm, m r = some rm → rm.blk = b → rm.ro = true ∨ r < H'.low) → w'.heap[b]? = w.heap[b]?
  new : ∀ r rm, m' r = some rm → m r = some rm ∨ (H.size ≤ r ∧ rm.ro = false ∧
    (w.heap.size ≤ rm.blk ∨ ∃ r0 rm0, m r0 = some rm0 ∧ rm0.blk = rm.blk ∧ rm0.ro = false ∧ H'.low ≤ r0))
  loops : ∀ (b : Nat) (L : Loop), w.heap[b]? = some (Obj.loop L) → ∃ L', w'.heap[b]? = some (Obj.loop L')

/-- What a step of the canonical machine leaves as it was. -/
structure HF (H H' : Heap) : Prop where
  size : H.size ≤ H'.size
  low : H'.low ≤ H.low
  keep : ∀ r, r < H.size → r < H'.low → H'.rows.get r = H.rows.get r ∧ ∀ row, H.rows.get r = some row → H'.alive r row = H.alive r row

theorem HF.refl (H : Heap) : HF H H := ⟨Nat.le_refl _, Nat.le_refl _, fun _ _ _ => ⟨rfl, fun _ _ => rfl⟩⟩
theorem HF.trans {A B C : Heap} (h : HF A B) (k : HF B C) : HF A C where
  size := Nat.le_trans h.size k.size
  low := Nat.le_trans k.low h.low
  keep := fun r hr hl => by
    obtain ⟨e1, a1⟩ := h.keep r hr (Nat.lt_of_lt_of_le hl k.low)
    obtain ⟨e2, a2⟩ := k.keep r (Nat.lt_of_lt_of_le hr h.size) hl
    exact ⟨e2.trans e1, fun row hrow => (a2 row (e1.trans hrow)).trans (a1 row hrow)⟩

theorem Ext.refl {n0 m H w} (h : HR n0 m H w) : Ext n0 m H w m H w :=
  ⟨Map.le_refl _, h, Below.refl _ _, fun _ _ _ => rfl, fun _ _ h => .inl h, fun _ L h => ⟨L, h⟩⟩

theorem Ext.trans {n0 m H w m' H' w' m'' H'' w''} (h : Ext n0 m H w m' H' w') (k : Ext n0 m' H' w' m'' H'' w'') (hf : HF H H') (hk : HF H' H'') :
    Ext n0 m H w m'' H'' w'' where
  loops := fun b L hb => by
    obtain ⟨L1, h1⟩ := h.loops b L hb
    exact k.loops b L1 h1
  mono := Map.le_trans h.mono k.mono
  hr := k.hr
  below := h.below.trans k.below
  fr := fun b hb hm => by
    have e1 := h.fr b hb fun r rm hr he => (hm r rm hr he).imp id fun hl => Nat.lt_of_lt_of_le hl hk.low
    have e2 := k.fr b (Nat.lt_of_lt_of_le hb h.below.size) fun r rm hr he => by
      rcases h.new r rm hr with h0 | ⟨_, _, hn | ⟨r0, rm0, h0, hb0, hro, hlow⟩⟩
      · exact hm r rm h0 he
      · omega
      · rcases hm r0 rm0 h0 (hb0.trans he) with hh | hh
        · rw [hro] at hh; cases hh
        · have := hk.low; omega
    exact e2.trans e1
  new := fun r rm hr => by
    rcases k.new r rm hr with h1 | ⟨hs, hro, hn⟩
    · rcases h.new r rm h1 with h0 | ⟨a, b, c⟩
      · exact .inl h0
      · refine .inr ⟨a, b, c.imp id ?_⟩
        rintro ⟨r0, rm0, h0, hb0, hro0, hl⟩
        exact ⟨r0, rm0, h0, hb0, hro0, Nat.le_trans hk.low hl⟩
    · refine .inr ⟨Nat.le_trans hf.size hs, hro, ?_⟩
      rcases hn with hn | ⟨r0, rm0, h0, hb0, hro0, hl⟩
      · exact .inl (Nat.le_trans h.below.size hn)
      · rcases h.new r0 rm0 h0 with h00 | ⟨_, _, hn | ⟨r1, rm1, h1, hb1, hro1, hl1⟩⟩
        · exact .inr ⟨r0, rm0, h00, hb0, hro0, hl⟩
        · exact .inl (by omega)
        · exact .inr ⟨r1, rm1, h1, hb1.trans hb0, hro1, Nat.le_trans hk.low hl1⟩

end Go.AM
