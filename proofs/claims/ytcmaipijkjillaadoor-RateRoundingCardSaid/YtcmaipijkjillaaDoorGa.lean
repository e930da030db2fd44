/- A general tool, which names no program: memory of a canonical machine for the model's own code, proved: what it comes to is what every run comes to. -/
import Derived.Orders
import Derived.Laws.Rows
import Derived.Laws.Cells
import Derived.Below
import Derived.Laws.CopyRow
import Derived.Laws.Build
import Derived.IntWalk
set_option linter.unusedVariables false
set_option linter.unusedSimpArgs false
set_option linter.unusedSectionVars false

namespace Go.AM
open Go.RowKit (Below)

/-! The canonical memory: rows of cells by number. -/

inductive Trie (α:Type) where
  | leaf
  | node (l:Trie α) (v:Option α) (r:Trie α)

namespace Trie
variable {α:Type}
def get:Trie α → Nat → Option α
  | .leaf,_ => none
  | .node l v r,i => cond (Nat.beq i 0) v (cond (Nat.beq (i % 2) 1) (l.get (i / 2)) (r.get (i / 2 - 1)))

def set:Nat → Trie α → Nat → α → Trie α
  | 0,t,_,_ => t
  | n + 1,.leaf,i,x => cond (Nat.beq i 0) (.node .leaf (some x) .leaf) (cond (Nat.beq (i % 2) 1) (.node (set n .leaf (i / 2) x) none .leaf) (.node .leaf none (set n .leaf (i / 2 - 1) x)))
  | n + 1,.node l v r,i,x => cond (Nat.beq i 0) (.node l (some x) r) (cond (Nat.beq (i % 2) 1) (.node (set n l (i / 2) x) v r) (.node l v (set n r (i / 2 - 1) x)))

def setK {R:Type}:Nat → Trie α → Nat → α → (Trie α → R) → R
  | 0,t,_,_,k => k t
  | n + 1,.leaf,i,x,k => cond (Nat.beq i 0) (k (.node .leaf (some x) .leaf)) (cond (Nat.beq (i % 2) 1) (setK n .leaf (i / 2) x fun l => k (.node l none .leaf)) (setK n .leaf (i / 2 - 1) x fun r => k (.node .leaf none r)))
  | n + 1,.node l v r,i,x,k => cond (Nat.beq i 0) (k (.node l (some x) r)) (cond (Nat.beq (i % 2) 1) (setK n l (i / 2) x fun l => k (.node l v r)) (setK n r (i / 2 - 1) x fun r => k (.node l v r)))

theorem setK_eq {R:Type}:∀ (n:Nat) (t:Trie α) (i:Nat) (x:α) (k:Trie α → R),setK n t i x k = k (set n t i x)
  | 0,t,i,x,k => rfl
  | n + 1,.leaf,i,x,k => by
    simp only [setK,set,setK_eq n];cases Nat.beq i 0 <;> cases Nat.beq (i % 2) 1 <;> rfl
  | n + 1,.node l v r,i,x,k => by
    simp only [setK,set,setK_eq n];cases Nat.beq i 0 <;> cases Nat.beq (i % 2) 1 <;> rfl

def put (t:Trie α) (i:Nat) (x:α):Trie α:=setK (i + 1) t i x fun t => t
theorem put_eq (t:Trie α) (i:Nat) (x:α):t.put i x = set (i + 1) t i x:=setK_eq _ _ _ _ _

theorem beq_ff {a b:Nat} (h:a ≠ b):Nat.beq a b = false:=by
  cases e:Nat.beq a b with
  | false => rfl
  | true => exact absurd (Nat.eq_of_beq_eq_true e) h
theorem beq_tt {a b:Nat} (h:a = b):Nat.beq a b = true:=by subst h; simp

theorem get_set_same:∀ (n:Nat) (t:Trie α) (i:Nat) (x:α),i < n → (set n t i x).get i = some x:=by
  intro n
  induction n with
  | zero => intro t i x h; omega
  | succ n ih =>
    intro t i x h;rcases Nat.eq_zero_or_pos i with rfl | h0
    · cases t <;> rfl
    · have hb:Nat.beq i 0 = false:=beq_ff (by omega)
      by_cases hp:i % 2 = 1
      · have hq:=beq_tt hp;cases t <;> simp only [set,get,hb,hq,cond_true,cond_false] <;> exact ih _ (i / 2) x (by omega)
      · have hq:=beq_ff hp;cases t <;> simp only [set,get,hb,hq,cond_false] <;> exact ih _ (i / 2 - 1) x (by omega)

theorem get_set_ne:∀ (n:Nat) (t:Trie α) (i j:Nat) (x:α),i < n → j ≠ i → (set n t i x).get j = t.get j:=by
  intro n
  induction n with
  | zero => intro t i j x h; omega
  | succ n ih =>
    intro t i j x h hne;rcases Nat.eq_zero_or_pos i with rfl | h0
    · have hj:Nat.beq j 0 = false:=beq_ff hne;have h00:Nat.beq 0 0 = true:=rfl;cases t <;> simp only [set,get,hj,h00,cond_true,cond_false] <;> cases Nat.beq (j % 2) 1 <;> rfl
    · have hb:Nat.beq i 0 = false:=beq_ff (by omega)
      rcases Nat.eq_zero_or_pos j with rfl | hj0
      · have h00:Nat.beq 0 0 = true:=rfl;cases t <;> simp only [set,hb,cond_false] <;> cases Nat.beq (i % 2) 1 <;> simp only [get,h00,cond_true,cond_false]
      · have hj:Nat.beq j 0 = false:=beq_ff (by omega)
        by_cases hp:i % 2 = 1 <;> by_cases hq:j % 2 = 1
        · have hp':=beq_tt hp;have hq':=beq_tt hq;cases t <;> simp only [set,get,hb,hp',hj,hq',cond_true,cond_false]
          · rw [ih _ (i / 2) (j / 2) x (by omega) (by omega)]; rfl
          · rw [ih _ (i / 2) (j / 2) x (by omega) (by omega)]
        · have hp':=beq_tt hp;have hq':=beq_ff hq;cases t <;> simp only [set,get,hb,hp',hj,hq',cond_true,cond_false]
        · have hp':=beq_ff hp;have hq':=beq_tt hq;cases t <;> simp only [set,get,hb,hp',hj,hq',cond_true,cond_false]
        · have hp':=beq_ff hp;have hq':=beq_ff hq;cases t <;> simp only [set,get,hb,hp',hj,hq',cond_false]
          · rw [ih _ (i / 2 - 1) (j / 2 - 1) x (by omega) (by omega)]; rfl
          · rw [ih _ (i / 2 - 1) (j / 2 - 1) x (by omega) (by omega)]

@[simp] theorem get_put_same (t:Trie α) (i:Nat) (x:α):(t.put i x).get i = some x:=by rw [put_eq]; exact get_set_same _ _ _ _ (by omega)
theorem get_put_ne (t:Trie α) {i j:Nat} (x:α) (h:j ≠ i):(t.put i x).get j = t.get j:=by rw [put_eq]; exact get_set_ne _ _ _ _ _ (by omega) h
theorem get_put (t:Trie α) (i j:Nat) (x:α):(t.put i x).get j = if j = i then some x else t.get j:=by
  split
  · rename_i h; rw [h,get_put_same]
  · rename_i h; exact get_put_ne t x h
end Trie

/-! Words that write a term out and change nothing. -/

def forceN {R:Type} (n:Nat) (k:Nat → R):R:=@Nat.casesOn (fun _ => R) n (k 0) (fun m => k (Nat.succ m))
theorem forceN_eq {R:Type} (n:Nat) (k:Nat → R):forceN n k = k n:=by cases n <;> rfl
def forceL {α R:Type}:List α → (List α → R) → R
  | [],k => k []
  | x :: l,k => forceL l fun l => k (x :: l)
theorem forceL_eq {α R:Type}:∀ (l:List α) (k:List α → R),forceL l k = k l
  | [],k => rfl
  | x :: l,k => forceL_eq l _
def forceT {α R:Type} (t:Trie α) (k:Trie α → R):R:=@Trie.casesOn α (fun _ => R) t (k .leaf) (fun l v r => k (.node l v r))
theorem forceT_eq {α R:Type} (t:Trie α) (k:Trie α → R):forceT t k = k t:=by cases t <;> rfl

structure LoopRec where
  tmps:Array Value
  params:Array Tmp
  assign:Code
  body:Code
  state:LoopState
  pending:Option Code

inductive IterRec where
  | str (s:ByteArray) (pos:Nat)
  | mp (r:Option Nat) (since:Nat) (seen:Array Nat) (last:Nat)
inductive Spec where
  | lp (lr:LoopRec)
  | mp (es:List MapEntry) (clk:Nat)
  | it (i:IterRec)

structure Row where
  cells:List Value
  elem:TypeId
  exact:Bool
  ro:Bool
  esz:Nat
  grp:Nat
  gpos:Nat
  loop:Option Spec:=none

structure Heap where
  size:Nat
  rows:Trie Row
  grps:Trie (List Nat)
  low:Nat

def memN (r:Nat):List Nat → Bool
  | [] => false
  | x :: l => cond (Nat.beq x r) true (memN r l)

def Heap.alive (H:Heap) (r:Nat) (row:Row):Bool:=match row.loop with
  | none => row.exact || memN r ((H.grps.get row.grp).getD [])
  | some _ => false

/-! Values that hold no address. -/

def notYield:Fn → Bool
  | .yield _ => false
  | _ => true

mutual
def plain:Value → Bool
  | .bool _ | .int _ _ | .float _ _ | .complex _ _ _ | .string _ | .nilFunc | .nilIface => true
  | .pointer none | .slice none _ _ | .map none | .chan none => true
  | .pointer (some _) | .slice (some _) _ _ | .map (some _) | .chan (some _) => false
  | .func fn a b => notYield fn && (plainA a && plainA b)
  | .iface _ v => plain v
  | .agg cs => plainA cs
  | .tuple cs => plainA cs
def plainA:Array Value → Bool
  | ⟨l⟩ => plains l
def plains:List Value → Bool
  | [] => true
  | v :: l => plain v && plains l
end

structure RowMap where
  blk:Nat
  sh:Nat
  ext:Nat
  esz:Nat
  exact:Bool
  ro:Bool

abbrev Map:=Nat → Option RowMap

mutual
inductive VR (m:Map):Value → Value → Prop
  | plain {v}:plain v = true → VR m v v
  | ptr {r o rm}:m r = some rm → VR m (.pointer (some ⟨r,o,none⟩)) (.pointer (some ⟨rm.blk,rm.sh + o,none⟩))
  | sliceE {r o n c rm}:m r = some rm → rm.exact = true → VR m (.slice (some ⟨r,o,none⟩) n c) (.slice (some ⟨rm.blk,rm.sh + o,none⟩) n c)
  | sliceL {r o n c c' o' rm}:m r = some rm → rm.exact = false → n ≤ c → c ≤ c' → ((o' = rm.sh + o ∧ o' + c' * rm.esz ≤ rm.ext) ∨ c' = 0) →
      VR m (.slice (some ⟨r,o,none⟩) n c) (.slice (some ⟨rm.blk,o',none⟩) n c')
  | sliceZ {r o sp a'}:VR m (.slice (some ⟨r,o,some sp⟩) 0 0) (.slice (some a') 0 0)
  | map {r rm}:m r = some rm → VR m (.map (some r)) (.map (some rm.blk))
  | iface {t v v'}:VR m v v' → VR m (.iface t v) (.iface t v')
  | agg {l l'}:VRs m l l' → VR m (.agg ⟨l⟩) (.agg ⟨l'⟩)
  | tuple {l l'}:VRs m l l' → VR m (.tuple ⟨l⟩) (.tuple ⟨l'⟩)
  | yield {l rm}:m l = some rm → VR m (.func (.yield l) ⟨[]⟩ ⟨[]⟩) (.func (.yield rm.blk) ⟨[]⟩ ⟨[]⟩)
  | func {fn a a' b b'}:notYield fn = true → VRs m a a' → VRs m b b' → VR m (.func fn ⟨a⟩ ⟨b⟩) (.func fn ⟨a'⟩ ⟨b'⟩)
inductive VRs (m:Map):List Value → List Value → Prop
  | nil:VRs m [] []
  | cons {v v' l l'}:VR m v v' → VRs m l l' → VRs m (v :: l) (v' :: l')
end

def Map.le (m m':Map):Prop:=∀ r rm,m r = some rm → m' r = some rm

theorem Map.le_refl (m:Map):m.le m:=fun _ _ h => h
theorem Map.le_trans {a b c:Map} (h:a.le b) (k:b.le c):a.le c:=fun r rm e => k r rm (h r rm e)

mutual
theorem VR.mono {m m':Map} (hm:m.le m'):∀ {v v'},VR m v v' → VR m' v v'
  | _,_,.plain h => .plain h
  | _,_,.ptr h => .ptr (hm _ _ h)
  | _,_,.yield h => .yield (hm _ _ h)
  | _,_,.sliceE h e => .sliceE (hm _ _ h) e
  | _,_,.sliceL h e a b c => .sliceL (hm _ _ h) e a b c
  | _,_,.sliceZ => .sliceZ
  | _,_,.map h => .map (hm _ _ h)
  | _,_,.iface h => .iface (VR.mono hm h)
  | _,_,.agg h => .agg (VRs.mono hm h)
  | _,_,.tuple h => .tuple (VRs.mono hm h)
  | _,_,.func hn h k => .func hn (VRs.mono hm h) (VRs.mono hm k)
theorem VRs.mono {m m':Map} (hm:m.le m'):∀ {l l'},VRs m l l' → VRs m' l l'
  | _,_,.nil => .nil
  | _,_,.cons h k => .cons (VR.mono hm h) (VRs.mono hm k)
end

theorem VRs.length {m:Map}:∀ {l l'},VRs m l l' → l.length = l'.length
  | _,_,.nil => rfl
  | _,_,.cons _ k => by simp [k.length]

theorem VRs.get {m:Map}:∀ {l l'},VRs m l l' → ∀ (j:Nat) (v:Value),l[j]? = some v → ∃ v',l'[j]? = some v' ∧ VR m v v'
  | _,_,.nil,j,v,h => by simp at h
  | _,_,.cons h k,0,v,e => by simp at e; subst e; exact ⟨_,rfl,h⟩
  | _,_,.cons h k,j + 1,v,e => by simp at e; simpa using k.get j v e

theorem VRs.of_get {m:Map}:∀ {l l':List Value},l.length = l'.length → (∀ (j:Nat) (v:Value),l[j]? = some v → ∃ v',l'[j]? = some v' ∧ VR m v v') → VRs m l l'
  | [],[],_,_ => .nil
  | v :: l,v' :: l',hl,h => by
    obtain ⟨u,hu,hv⟩:=h 0 v rfl;simp at hu; subst hu;exact .cons hv (VRs.of_get (by simpa using hl) fun j v e => by simpa using h (j + 1) v (by simpa using e))

theorem VRs.append {m:Map}:∀ {a a' b b'},VRs m a a' → VRs m b b' → VRs m (a ++ b) (a' ++ b')
  | _,_,_,_,.nil,h => h
  | _,_,_,_,.cons h k,h' => .cons h (k.append h')

theorem VRs.drop {m:Map}:∀ (n:Nat) {a a'},VRs m a a' → VRs m (a.drop n) (a'.drop n)
  | 0,_,_,h => by simpa using h
  | n + 1,_,_,.nil => .nil
  | n + 1,_,_,.cons _ k => by simpa using k.drop n

theorem VRs.take {m:Map}:∀ (n:Nat) {a a'},VRs m a a' → VRs m (a.take n) (a'.take n)
  | 0,_,_,h => by simpa using VRs.nil
  | n + 1,_,_,.nil => .nil
  | n + 1,_,_,.cons h k => by simpa using VRs.cons h (k.take n)

theorem VRs.of_plain {m:Map}:∀ {l},plains l = true → VRs m l l
  | [],_ => .nil
  | v :: l,h => by simp only [plains,Bool.and_eq_true] at h; exact .cons (.plain h.1) (VRs.of_plain h.2)

theorem VRs.eq_of_plain {m:Map}:∀ {l l'},(∀ v v',v ∈ l → VR m v v' → v' = v) → VRs m l l' → l' = l
  | _,_,_,.nil => rfl
  | _,_,hv,.cons h k => by
    rw [hv _ _ (by simp) h,VRs.eq_of_plain (fun v v' hm => hv v v' (by simp [hm])) k]

mutual
theorem VR.eq_of_plain {m:Map}:∀ {v v'},VR m v v' → plain v = true → v' = v
  | _,_,.plain _,_ => rfl
  | _,_,.ptr _,h => by simp [AM.plain] at h
  | _,_,.yield _,h => by simp [AM.plain,notYield] at h
  | _,_,.sliceE _ _,h => by simp [AM.plain] at h
  | _,_,.sliceL _ _ _ _ _,h => by simp [AM.plain] at h
  | _,_,.sliceZ,h => by simp [AM.plain] at h
  | _,_,.map _,h => by simp [AM.plain] at h
  | _,_,.iface k,h => by simp only [AM.plain] at h; rw [VR.eq_of_plain k h]
  | _,_,.agg k,h => by simp only [AM.plain,plainA] at h; rw [VRs.eq_plain k h]
  | _,_,.tuple k,h => by simp only [AM.plain,plainA] at h; rw [VRs.eq_plain k h]
  | _,_,.func _ k k',h => by simp only [AM.plain,plainA,Bool.and_eq_true] at h; rw [VRs.eq_plain k h.2.1,VRs.eq_plain k' h.2.2]
theorem VRs.eq_plain {m:Map}:∀ {l l'},VRs m l l' → plains l = true → l' = l
  | _,_,.nil,_ => rfl
  | _,_,.cons h k,e => by simp only [plains,Bool.and_eq_true] at e; rw [VR.eq_of_plain h e.1,VRs.eq_plain k e.2]
end

theorem VR.cells {m:Map} {v v':Value} (h:VR m v v'):VRs m v.cells.toList v'.cells.toList:=by
  cases h with
  | @plain v h =>
    cases v <;> first
      | exact .cons (.plain h) .nil
      | (rename_i cs; cases cs; simp only [AM.plain,plainA] at h; exact VRs.of_plain h)
  | agg h => exact h
  | ptr h => exact .cons (.ptr h) .nil
  | yield h => exact .cons (.yield h) .nil
  | sliceE h e => exact .cons (.sliceE h e) .nil
  | sliceL h e a b c => exact .cons (.sliceL h e a b c) .nil
  | sliceZ => exact .cons .sliceZ .nil
  | map h => exact .cons (.map h) .nil
  | iface h => exact .cons (.iface h) .nil
  | tuple h => exact .cons (.tuple h) .nil
  | func hn h k => exact .cons (.func hn h k) .nil

inductive ER (m:Map):List MapEntry → List MapEntry → Prop
  | nil:ER m [] []
  | cons {k v v' b l l'}:plain k = true → VR m v v' → ER m l l' → ER m (⟨k,v,b⟩ :: l) (⟨k,v',b⟩ :: l')
theorem ER.mono {m m':Map} (hm:m.le m'):∀ {l l'},ER m l l' → ER m' l l'
  | _,_,.nil => .nil
  | _,_,.cons hk hv h => .cons hk (hv.mono hm) (h.mono hm)

inductive SR (m:Map):Spec → Obj → Prop
  | mp {es:List MapEntry} {clk:Nat} {es':Array MapEntry}:ER m es es'.toList → SR m (.mp es clk) (.map es' clk)
  | str {s:ByteArray} {p:Nat}:SR m (.it (.str s p)) (.stringIter s p)
  | itN {a:Nat} {b:Array Nat} {c:Nat}:SR m (.it (.mp none a b c)) (.mapIter none a b c)
  | it {r:Nat} {rm:RowMap} {a:Nat} {b:Array Nat} {c:Nat}:m r = some rm → SR m (.it (.mp (some r) a b c)) (.mapIter (some rm.blk) a b c)
theorem SR.mono {m m':Map} (hm:m.le m') {sp:Spec} {o:Obj} (h:SR m sp o):SR m' sp o:=by
  cases h with
  | mp h => exact .mp (h.mono hm)
  | str => exact .str
  | itN => exact .itN
  | it h => exact .it (hm _ _ h)
theorem SR.noLoop {m:Map} {sp:Spec} {o:Obj} (h:SR m sp o):∀ L,o ≠ .loop L:=by cases h <;> (intro L e; cases e)

def BlkOk (m:Map) (w:World) (rm:RowMap) (row:Row) (alive:Bool):Prop:=
  (row.loop = none ∧ ∃ cs fz,w.heap[rm.blk]? = some (.cells cs row.elem fz) ∧ (row.ro = false → fz = (0,0)) ∧ cs.size = rm.ext ∧ rm.sh + row.cells.length ≤ rm.ext ∧
    (alive = true → ∀ (j:Nat) (v:Value),row.cells[j]? = some v → ∃ v',cs[rm.sh + j]? = some v' ∧ VR m v v')) ∨
  (∃ lr tm fn d,row.loop = some (.lp lr) ∧ row.exact = true ∧ w.heap[rm.blk]? = some (.loop { state:=lr.state,pending:=lr.pending,fn:=fn,tmps:=tm,params:=lr.params,assign:=lr.assign,body:=lr.body,defers:=d }) ∧
    VRs m lr.tmps.toList tm.toList) ∨
  (∃ sp o,row.loop = some sp ∧ row.exact = true ∧ w.heap[rm.blk]? = some o ∧ SR m sp o ∧ rm.sh = 0)

structure Fits (n0:Nat) (m:Map) (w:World) (r:Nat) (rm:RowMap) (row:Row) (alive:Bool):Prop where
  ex:rm.exact = row.exact
  es:rm.esz = row.esz
  ro:rm.ro = row.ro
  grpE:row.exact = true → row.grp = 2 * r
  grpL:row.exact = false → row.grp % 2 = 1
  grpB:row.grp ≤ 2 * r + 1
  roE:row.ro = true → row.exact = true
  own:row.ro = false → n0 ≤ rm.blk
  blk:BlkOk m w rm row alive

structure HR (n0:Nat) (m:Map) (H:Heap) (w:World):Prop where
  base:n0 ≤ w.heap.size
  row:∀ r rm,m r = some rm → ∃ row,H.rows.get r = some row ∧ r < H.size ∧ Fits n0 m w r rm row (H.alive r row)
  apart:∀ r r' rm rm' row row',m r = some rm → m r' = some rm' → H.rows.get r = some row → H.rows.get r' = some row' → rm.blk = rm'.blk →
    (row.grp = row'.grp ∧ rm.sh + row'.gpos = rm'.sh + row.gpos) ∨ (row.ro = true ∧ row'.ro = true)
  inv:∀ r x,H.rows.get r = some x → (x.exact = true ∨ x.grp < 2 * H.size) ∧ r < H.size

structure Ext (n0:Nat) (m:Map) (H:Heap) (w:World) (m':Map) (H':Heap) (w':World):Prop where
  mono:m.le m'
  hr:HR n0 m' H' w'
  below:Below n0 w w'
  fr:∀ b,b < w.heap.size → (∀ r rm,m r = some rm → rm.blk = b → rm.ro = true ∨ r < H'.low) → w'.heap[b]? = w.heap[b]?
  new:∀ r rm,m' r = some rm → m r = some rm ∨ (H.size ≤ r ∧ rm.ro = false ∧
    (w.heap.size ≤ rm.blk ∨ ∃ r0 rm0,m r0 = some rm0 ∧ rm0.blk = rm.blk ∧ rm0.ro = false ∧ H'.low ≤ r0))
  loops:∀ (b:Nat) (L:Loop),w.heap[b]? = some (Obj.loop L) → ∃ L',w'.heap[b]? = some (Obj.loop L')

structure HF (H H':Heap):Prop where
  size:H.size ≤ H'.size
  low:H'.low ≤ H.low
  keep:∀ r,r < H.size → r < H'.low → H'.rows.get r = H.rows.get r ∧ ∀ row,H.rows.get r = some row → H'.alive r row = H.alive r row

theorem HF.refl (H:Heap):HF H H:=⟨Nat.le_refl _,Nat.le_refl _,fun _ _ _ => ⟨rfl,fun _ _ => rfl⟩⟩
theorem HF.trans {A B C:Heap} (h:HF A B) (k:HF B C):HF A C where
  size:=Nat.le_trans h.size k.size
  low:=Nat.le_trans k.low h.low
  keep:=fun r hr hl => by
    obtain ⟨e1,a1⟩:=h.keep r hr (Nat.lt_of_lt_of_le hl k.low);obtain ⟨e2,a2⟩:=k.keep r (Nat.lt_of_lt_of_le hr h.size) hl;exact ⟨e2.trans e1,fun row hrow => (a2 row (e1.trans hrow)).trans (a1 row hrow)⟩

theorem Ext.refl {n0 m H w} (h:HR n0 m H w):Ext n0 m H w m H w:=
  ⟨Map.le_refl _,h,Below.refl _ _,fun _ _ _ => rfl,fun _ _ h => .inl h,fun _ L h => ⟨L,h⟩⟩

theorem Ext.trans {n0 m H w m' H' w' m'' H'' w''} (h:Ext n0 m H w m' H' w') (k:Ext n0 m' H' w' m'' H'' w'') (hf:HF H H') (hk:HF H' H'') :
    Ext n0 m H w m'' H'' w'' where
  loops:=fun b L hb => by
    obtain ⟨L1,h1⟩:=h.loops b L hb;exact k.loops b L1 h1
  mono:=Map.le_trans h.mono k.mono
  hr:=k.hr
  below:=h.below.trans k.below
  fr:=fun b hb hm => by
    have e1:=h.fr b hb fun r rm hr he => (hm r rm hr he).imp id fun hl => Nat.lt_of_lt_of_le hl hk.low
    have e2:=k.fr b (Nat.lt_of_lt_of_le hb h.below.size) fun r rm hr he => by
      rcases h.new r rm hr with h0 | ⟨_,_,hn | ⟨r0,rm0,h0,hb0,hro,hlow⟩⟩
      · exact hm r rm h0 he
      · omega
      · rcases hm r0 rm0 h0 (hb0.trans he) with hh | hh
        · rw [hro] at hh; cases hh
        · have:=hk.low; omega
    exact e2.trans e1
  new:=fun r rm hr => by
    rcases k.new r rm hr with h1 | ⟨hs,hro,hn⟩
    · rcases h.new r rm h1 with h0 | ⟨a,b,c⟩
      · exact .inl h0
      · refine .inr ⟨a,b,c.imp id ?_⟩;rintro ⟨r0,rm0,h0,hb0,hro0,hl⟩;exact ⟨r0,rm0,h0,hb0,hro0,Nat.le_trans hk.low hl⟩
    · refine .inr ⟨Nat.le_trans hf.size hs,hro,?_⟩;rcases hn with hn | ⟨r0,rm0,h0,hb0,hro0,hl⟩
      · exact .inl (Nat.le_trans h.below.size hn)
      · rcases h.new r0 rm0 h0 with h00 | ⟨_,_,hn | ⟨r1,rm1,h1,hb1,hro1,hl1⟩⟩
        · exact .inr ⟨r0,rm0,h00,hb0,hro0,hl⟩
        · exact .inl (by omega)
        · exact .inr ⟨r1,rm1,h1,hb1.trans hb0,hro1,Nat.le_trans hk.low hl1⟩

end Go.AM

namespace Go.AM
open Go.RowKit (Below)

def Map.put (m:Map) (k:Nat) (rm:RowMap):Map:=fun r => if r = k then some rm else m r

theorem Map.le_put {m:Map} {k:Nat} {rm:RowMap} (h:m k = none):m.le (m.put k rm):=fun r x e => by
  unfold Map.put;split
  · rename_i hk; subst hk; rw [h] at e; cases e
  · exact e
theorem Map.put_same (m:Map) (k:Nat) (rm:RowMap):m.put k rm k = some rm:=by simp [Map.put]
theorem Map.put_inv {m:Map} {k r:Nat} {rm x:RowMap} (h:m.put k rm r = some x):(r = k ∧ x = rm) ∨ (r ≠ k ∧ m r = some x):=by
  unfold Map.put at h;split at h
  · rename_i hk; exact .inl ⟨hk,by injection h with h; exact h.symm⟩
  · rename_i hk; exact .inr ⟨hk,h⟩

theorem Fits.lt {n0 m w r rm row al} (h:Fits n0 m w r rm row al):rm.blk < w.heap.size:=by
  rcases h.blk with ⟨_,cs,fz,hb,_⟩ | ⟨_,_,_,_,_,_,hb,_⟩ | ⟨_,_,_,_,hb,_⟩
  · exact (Array.getElem?_eq_some_iff.1 hb).1
  · exact (Array.getElem?_eq_some_iff.1 hb).1
  · exact (Array.getElem?_eq_some_iff.1 hb).1

theorem Fits.later {n0 m m' w w' r rm row al al'} (h:Fits n0 m w r rm row al) (hm:m.le m') (hw:w'.heap[rm.blk]? = w.heap[rm.blk]?) (ha:al' = true → al = true) :
    Fits n0 m' w' r rm row al' where
  ex:=h.ex
  es:=h.es
  ro:=h.ro
  grpE:=h.grpE
  grpL:=h.grpL
  grpB:=h.grpB
  roE:=h.roE
  own:=h.own
  blk:=by
    rcases h.blk with ⟨hn,cs,fz,hb,h1,h2,h3,h4⟩ | ⟨lr,tm,fn,d,h1,h2,hb,hv⟩ | ⟨sp,o,h1,h2,hb,hv⟩
    · refine .inl ⟨hn,cs,fz,hw.trans hb,h1,h2,h3,fun hal j v hj => ?_⟩
      obtain ⟨v',e,hv⟩:=h4 (ha hal) j v hj;exact ⟨v',e,hv.mono hm⟩
    · exact .inr (.inl ⟨lr,tm,fn,d,h1,h2,hw.trans hb,hv.mono hm⟩)
    · exact .inr (.inr ⟨sp,o,h1,h2,hw.trans hb,hv.1.mono hm,hv.2⟩)

theorem Fits.cells {n0 m w r rm row al} (h:Fits n0 m w r rm row al) {cs:Array Value} {e:TypeId} {fz:Nat × Nat} (hb:w.heap[rm.blk]? = some (.cells cs e fz)):row.loop = none:=by
  rcases h.blk with ⟨hn,_⟩ | ⟨_,_,_,_,_,_,hb',_⟩ | ⟨_,_,_,_,hb',hv⟩
  · exact hn
  · rw [hb] at hb'; cases hb'
  · rw [hb] at hb'; cases hb'; cases hv.1

theorem alive_loop {H:Heap} {r:Nat} {row:Row} (h:H.alive r row = true):row.loop = none:=by
  unfold Heap.alive at h;cases e:row.loop with
  | none => rfl
  | some _ => rw [e] at h; cases h

theorem Fits.blkC {n0 m w r rm row al} (h:Fits n0 m w r rm row al) (hl:row.loop = none):∃ cs fz,w.heap[rm.blk]? = some (.cells cs row.elem fz) ∧ (row.ro = false → fz = (0,0)) ∧ cs.size = rm.ext ∧ rm.sh + row.cells.length ≤ rm.ext ∧
    (al = true → ∀ (j:Nat) (v:Value),row.cells[j]? = some v → ∃ v',cs[rm.sh + j]? = some v' ∧ VR m v v'):=by
  rcases h.blk with ⟨_,h⟩ | ⟨_,_,_,_,hs,_⟩ | ⟨_,_,hs,_⟩
  · exact h
  · rw [hl] at hs; cases hs
  · rw [hl] at hs; cases hs

theorem HR.lt {n0 m H w} (h:HR n0 m H w) {r rm} (hm:m r = some rm):r < H.size:=by
  obtain ⟨_,_,h2,_⟩:=h.row r rm hm;exact h2
theorem HR.none {n0 m H w} (h:HR n0 m H w):m H.size = none:=by
  cases e:m H.size with
  | none => rfl
  | some rm => exact absurd (h.lt e) (Nat.lt_irrefl _)

def Heap.add (H:Heap) (row:Row):Heap:=
  forceL row.cells fun cells => forceT (H.rows.put H.size { row with cells:=cells }) fun rows =>
  { size:=H.size + 1,rows:=rows,grps:=cond row.exact H.grps (H.grps.put row.grp [H.size]),low:=H.low }
theorem Heap.add_eq (H:Heap) (row:Row):H.add row = { size:=H.size + 1,rows:=H.rows.put H.size row,grps:=cond row.exact H.grps (H.grps.put row.grp [H.size]),low:=H.low }:=by
  unfold Heap.add; rw [forceL_eq,forceT_eq]
theorem Heap.add_rows (H:Heap) (row:Row):(H.add row).rows = H.rows.put H.size row:=by rw [Heap.add_eq]
theorem Heap.add_grps (H:Heap) (row:Row):(H.add row).grps = cond row.exact H.grps (H.grps.put row.grp [H.size]):=by rw [Heap.add_eq]
theorem Heap.add_size (H:Heap) (row:Row):(H.add row).size = H.size + 1:=by rw [Heap.add_eq]
theorem Heap.add_low (H:Heap) (row:Row):(H.add row).low = H.low:=by rw [Heap.add_eq]

theorem memN_self (r:Nat) (l:List Nat):memN r (r :: l) = true:=by simp [memN]
theorem memN_one {r k:Nat} (h:r ≠ k):memN r [k] = false:=by simp [memN,Trie.beq_ff (Ne.symm h)]

theorem Heap.add_get (H:Heap) (row:Row) (r:Nat):(H.add row).rows.get r = if r = H.size then some row else H.rows.get r:=by rw [Heap.add_rows]; exact Trie.get_put _ _ _ _
theorem HF.add (H:Heap) (row:Row) (hg:row.exact = true ∨ row.grp = 2 * H.size + 1) (hold:∀ r x,H.rows.get r = some x → (x.exact = true ∨ x.grp < 2 * H.size) ∧ r < H.size):HF H (H.add row) where
  size:=by rw [Heap.add_size]; exact Nat.le_succ _
  low:=by rw [Heap.add_low]; exact Nat.le_refl _
  keep:=fun r hr _ => by
    have e:(H.add row).rows.get r = H.rows.get r:=by rw [Heap.add_get,if_neg (by omega)]
    refine ⟨e,fun x hx => ?_⟩
    unfold Heap.alive;cases hxe:x.exact with
    | true => simp
    | false =>
      have hlt:=(hold r x hx).1.resolve_left (by simp [hxe])
      cases hre:row.exact with
      | true => simp [Heap.add_grps,hre]
      | false =>
        have hgr:=hg.resolve_left (by simp [hre])
        simp only [Heap.add_grps,hre,cond_false];rw [Trie.get_put_ne _ _ (by omega)]

theorem HR.rowOf {n0 m H w} (h:HR n0 m H w) {r rm} (hm:m r = some rm) {row} (hr:H.rows.get r = some row):Fits n0 m w r rm row (H.alive r row):=by
  obtain ⟨row',e,_,hf⟩:=h.row r rm hm;rw [hr] at e; cases e; exact hf

theorem Ext.add {n0 m H w} (h:HR n0 m H w) (row:Row) (l' spare:List Value) (hro:row.ro = false) (hlp:row.loop = none) (hl:VRs m row.cells l')
    (hg:(row.exact = true ∧ row.grp = 2 * H.size) ∨ (row.exact = false ∧ row.grp = 2 * H.size + 1)) (wd:World) (hwd:wd = w ∨ wd = w.drew) :
    Ext n0 m H w (m.put H.size ⟨w.heap.size,0,(l' ++ spare).length,row.esz,row.exact,false⟩) (H.add row) (wd.alloc (.cells (l' ++ spare).toArray row.elem)):=by
  have hs:wd.heap = w.heap:=by rcases hwd with rfl | rfl <;> rfl
  have hnew:(wd.alloc (.cells (l' ++ spare).toArray row.elem)).heap[w.heap.size]? = some (.cells (l' ++ spare).toArray row.elem):=by
    have:=heap_alloc_new wd (.cells (l' ++ spare).toArray row.elem);rwa [hs] at this
  have hold:∀ b,b < w.heap.size → (wd.alloc (.cells (l' ++ spare).toArray row.elem)).heap[b]? = w.heap[b]?:=fun b hb => by
    have:=heap_alloc_old wd (.cells (l' ++ spare).toArray row.elem) b (by rw [hs]; exact hb)
    rwa [hs] at this
  have hle:=Map.le_put (rm:=⟨w.heap.size,0,(l' ++ spare).length,row.esz,row.exact,false⟩) h.none;have halive:∀ r x,r < H.size → H.rows.get r = some x → x.grp ≤ 2 * r + 1 → (H.add row).alive r x = H.alive r x:=fun r x hr _ hgb => by
    unfold Heap.alive;rcases hg with ⟨he,_⟩ | ⟨he,_⟩
    · simp [Heap.add_grps,he]
    · simp only [Heap.add_grps,he,cond_false];rw [Trie.get_put_ne _ _ (by omega)]
  have hsame:(H.add row).rows.get H.size = some row:=by rw [Heap.add_get,if_pos rfl]
  have hother:∀ r,r < H.size → (H.add row).rows.get r = H.rows.get r:=fun r hr => by rw [Heap.add_get,if_neg (by omega)]
  refine ⟨hle,⟨?_,?_,?_,?inv⟩,?_,fun b hb _ => hold b hb,?_,fun b L hb => ⟨L,by rw [hold b (Array.getElem?_eq_some_iff.1 hb).1]; exact hb⟩⟩
  case inv =>
    intro r x hx;rw [Heap.add_get] at hx;rw [Heap.add_size];split at hx
    · cases hx;refine ⟨?_,by omega⟩
      rcases hg with ⟨h1,_⟩ | ⟨_,h1⟩
      · exact .inl h1
      · right; rw [h1]; omega
    · refine ⟨(h.inv r x hx).1.imp id fun hlt => ?_,?_⟩
      · omega
      · have:=(h.inv r x hx).2; omega
  · have:=h.base; simp [hs]; omega
  · intro r rm hr;rcases Map.put_inv hr with ⟨rfl,rfl⟩ | ⟨hne,hr⟩
    · refine ⟨row,hsame,by rw [Heap.add_size]; exact Nat.lt_succ_self _,?_⟩
      refine ⟨rfl,rfl,hro.symm,?_,?_,?_,?_,fun _ => h.base,?_⟩
      · intro he; rcases hg with ⟨_,e⟩ | ⟨e,_⟩
        · exact e
        · rw [he] at e; cases e
      · intro he; rcases hg with ⟨e,_⟩ | ⟨_,e⟩
        · rw [he] at e; cases e
        · omega
      · rcases hg with ⟨_,e⟩ | ⟨_,e⟩ <;> omega
      · intro e; rw [hro] at e; cases e
      · refine .inl ⟨hlp,_,_,hnew,fun _ => rfl,by simp,by simp [hl.length],fun _ j v hj => ?_⟩
        obtain ⟨v',e,hv⟩:=hl.get j v hj;refine ⟨v',?_,hv.mono hle⟩;have hlt:j < l'.length:=(List.getElem?_eq_some_iff.1 e).1
        simpa [List.getElem?_append_left hlt] using e
    · obtain ⟨x,hx,hlt,hf⟩:=h.row r rm hr;exact ⟨x,(hother r hlt).trans hx,by rw [Heap.add_size]; exact Nat.lt_succ_of_lt hlt,hf.later hle (hold _ hf.lt) (by rw [halive r x hlt hx hf.grpB]; exact id)⟩
  · intro r r' rm rm' x x' hr hr' hx hx' hb;rcases Map.put_inv hr with ⟨rfl,rfl⟩ | ⟨hne,hr⟩ <;> rcases Map.put_inv hr' with ⟨rfl,rfl⟩ | ⟨hne',hr'⟩
    · rw [hx] at hx'; cases hx'; exact .inl ⟨rfl,rfl⟩
    · obtain ⟨y,hy,hlt,hf⟩:=h.row r' rm' hr';have:=hf.lt; simp at hb; omega
    · obtain ⟨y,hy,hlt,hf⟩:=h.row r rm hr;have:=hf.lt; simp at hb; omega
    · exact h.apart r r' rm rm' x x' hr hr' ((hother r (h.lt hr)).symm.trans hx) ((hother r' (h.lt hr')).symm.trans hx') hb
  · rcases hwd with rfl | rfl
    · exact (Below.refl _ _).alloc h.base _
    · exact (Below.refl _ _).drew.alloc h.base _
  · intro r rm hr;rcases Map.put_inv hr with ⟨rfl,rfl⟩ | ⟨_,hr⟩
    · exact .inr ⟨Nat.le_refl _,rfl,.inl (Nat.le_refl _)⟩
    · exact .inl hr

/-! Stores. -/

def minL (a:Nat):List Nat → Nat
  | [] => a
  | x :: l => Nat.min x (minL a l)
theorem minL_le (a:Nat):∀ l,minL a l ≤ a
  | [] => Nat.le_refl _
  | x :: l => Nat.le_trans (Nat.min_le_right _ _) (minL_le a l)
theorem minL_mem {r a:Nat}:∀ {l},memN r l = true → minL a l ≤ r
  | x :: l,h => by
    unfold memN at h;cases e:Nat.beq x r with
    | true => rw [Nat.eq_of_beq_eq_true e]; exact Nat.min_le_left _ _
    | false => rw [e] at h; exact Nat.le_trans (Nat.min_le_right _ _) (minL_mem h)

def splice (l:List Value) (off:Nat) (vs:List Value):List Value:=l.take off ++ (vs ++ l.drop (off + vs.length))

theorem splice_length {l:List Value} {off:Nat} {vs:List Value} (h:off + vs.length ≤ l.length):(splice l off vs).length = l.length:=by
  simp [splice]; omega

theorem splice_get {l:List Value} {off:Nat} {vs:List Value} (h:off + vs.length ≤ l.length) (j:Nat) :
    (splice l off vs)[j]? = if j < off then l[j]? else if j < off + vs.length then vs[j - off]? else l[j]?:=by
  unfold splice;rw [List.getElem?_append,List.length_take,show min off l.length = off by omega]
  split
  · rename_i hj; rw [List.getElem?_take,if_pos hj]
  · rename_i hj;rw [List.getElem?_append]
    by_cases h2:j < off + vs.length
    · rw [if_pos (by omega),if_pos h2]
    · rw [if_neg (by omega),if_neg h2,List.getElem?_drop]; congr 1; omega

def Heap.store (H:Heap) (r:Nat) (row:Row) (off:Nat) (vs:List Value):Heap:=
  forceL (splice row.cells off vs) fun cells => forceT (H.rows.put r { row with cells:=cells }) fun rows =>
  { size:=H.size,rows:=rows,
    grps:=cond row.exact H.grps (H.grps.put row.grp [r]),
    low:=cond row.exact (Nat.min r H.low) (minL (Nat.min r H.low) ((H.grps.get row.grp).getD [])) }
theorem Heap.store_eq (H:Heap) (r:Nat) (row:Row) (off:Nat) (vs:List Value):H.store r row off vs =
  { size:=H.size,rows:=H.rows.put r { row with cells:=splice row.cells off vs },
    grps:=cond row.exact H.grps (H.grps.put row.grp [r]),
    low:=cond row.exact (Nat.min r H.low) (minL (Nat.min r H.low) ((H.grps.get row.grp).getD [])) }:=by
  unfold Heap.store; rw [forceL_eq,forceT_eq]
theorem Heap.store_rows (H:Heap) (r:Nat) (row:Row) (off:Nat) (vs:List Value):(H.store r row off vs).rows = H.rows.put r { row with cells:=splice row.cells off vs }:=by rw [Heap.store_eq]
theorem Heap.store_grps (H:Heap) (r:Nat) (row:Row) (off:Nat) (vs:List Value):(H.store r row off vs).grps = cond row.exact H.grps (H.grps.put row.grp [r]):=by rw [Heap.store_eq]
theorem Heap.store_size (H:Heap) (r:Nat) (row:Row) (off:Nat) (vs:List Value):(H.store r row off vs).size = H.size:=by rw [Heap.store_eq]
theorem Heap.store_low (H:Heap) (r:Nat) (row:Row) (off:Nat) (vs:List Value):(H.store r row off vs).low = cond row.exact (Nat.min r H.low) (minL (Nat.min r H.low) ((H.grps.get row.grp).getD [])):=by rw [Heap.store_eq]

theorem store_low_lt {H:Heap} {r:Nat} {row:Row} {off:Nat} {vs:List Value}:(H.store r row off vs).low ≤ r ∧ (H.store r row off vs).low ≤ H.low:=by
  rw [Heap.store_low];cases row.exact
  · have h1:=minL_le (Nat.min r H.low) ((H.grps.get row.grp).getD []);have h2:=Nat.min_le_left r H.low;have h3:=Nat.min_le_right r H.low;exact ⟨Nat.le_trans h1 h2,Nat.le_trans h1 h3⟩
  · exact ⟨Nat.min_le_left _ _,Nat.min_le_right _ _⟩

theorem Heap.store_get (H:Heap) (r:Nat) (row:Row) (off:Nat) (vs:List Value) (k:Nat):(H.store r row off vs).rows.get k = if k = r then some { row with cells:=splice row.cells off vs } else H.rows.get k:=by
  rw [Heap.store_rows]; exact Trie.get_put _ _ _ _
theorem HF.store (H:Heap) (r:Nat) (row:Row) (off:Nat) (vs:List Value) 
    : HF H (H.store r row off vs) where
  size:=by rw [Heap.store_size]; exact Nat.le_refl _
  low:=store_low_lt.2
  keep:=fun k hk hl => by
    have hne:k ≠ r:=by have:=(store_low_lt (H:=H) (r:=r) (row:=row) (off:=off) (vs:=vs)).1; omega
    refine ⟨by rw [Heap.store_get,if_neg hne],fun x hx => ?_⟩
    unfold Heap.alive;cases hlx:x.loop with
    | some _ => rfl
    | none =>
    simp only [];cases hxe:x.exact with
    | true => simp
    | false =>
      cases hre:row.exact with
      | true => simp [Heap.store_grps,hre]
      | false =>
        simp only [Heap.store_low,Heap.store_grps,hre,cond_false] at hl ⊢;rw [Trie.get_put];split
        · rename_i hg;rw [hg,Option.getD_some,memN_one hne];cases hmem:memN k ((H.grps.get row.grp).getD []) with
          | false => rfl
          | true => have:=minL_mem (a:=Nat.min r H.low) hmem; omega
        · rfl

theorem toList_splice (cs:Array Value) (o:Nat) (vs:List Value):(cs.toList.take o ++ vs ++ cs.toList.drop (o + vs.length)) = splice cs.toList o vs:=by
  simp [splice]

theorem Ext.store {n0 m H w} (h:HR n0 m H w) {r:Nat} {rm:RowMap} {row:Row} (hm:m r = some rm) (hrow:H.rows.get r = some row) (hro:row.ro = false)
    (hal:H.alive r row = true) (off:Nat) (vs vs':List Value) (hvs:VRs m vs vs') (hle:off + vs.length ≤ row.cells.length) :
    ∃ cs,w.heap[rm.blk]? = some (.cells cs row.elem (0,0)) ∧ rm.sh + off + vs'.length ≤ cs.size ∧
      Ext n0 m H w m (H.store r row off vs) (w.setRow rm.blk (splice cs.toList (rm.sh + off) vs').toArray):=by
  have hf:=h.rowOf hm hrow;have hlp:=alive_loop hal;obtain ⟨cs,fz,hb,hfz,hsz,hsh,hcell⟩:=hf.blkC hlp;rw [hfz hro] at hb;have hvl:=hvs.length;have hcs:rm.sh + off + vs'.length ≤ cs.toList.length:=by simp; omega
  refine ⟨cs,hb,by simpa using hcs,?_⟩
  have hnew:=setRow_heap w rm.blk cs (splice cs.toList (rm.sh + off) vs').toArray row.elem (0,0) hb;have hlow:=store_low_lt (H:=H) (r:=r) (row:=row) (off:=off) (vs:=vs);have hother:∀ k rk x,m k = some rk → H.rows.get k = some x → k ≠ r → rk.blk = rm.blk → row.exact = false ∧ x.grp = row.grp ∧ x.exact = false:=fun k rk x hk hx hne hbk => by
    have hfk:=h.rowOf hk hx;rcases h.apart k r rk rm x row hk hm hx hrow hbk with ⟨hg,_⟩ | ⟨_,hr⟩
    · cases he:row.exact with
      | true =>
        have h1:=hf.grpE he;cases hxe:x.exact with
        | true => have h2:=hfk.grpE hxe; omega
        | false => have h2:=hfk.grpL hxe; omega
      | false =>
        refine ⟨rfl,hg,?_⟩;cases hxe:x.exact with
        | false => rfl
        | true => have h2:=hfk.grpE hxe; have h1:=hf.grpL he; omega
    · rw [hro] at hr; cases hr
  refine ⟨Map.le_refl _,⟨?_,?_,?_,?inv⟩,?_,?_,fun r rm h => .inl h,fun b L hbL => ⟨L,by rw [setRow_other _ _ _ _ (fun he => by rw [he,hb] at hbL; cases hbL)]; exact hbL⟩⟩
  case inv =>
    intro k x hx;rw [Heap.store_get] at hx;rw [Heap.store_size];split at hx
    · rename_i hk; cases hx; rw [hk]; exact h.inv r row hrow
    · exact h.inv k x hx
  · simpa using h.base
  · intro k rk hk;obtain ⟨x,hx,hlt,hfk⟩:=h.row k rk hk
    by_cases hkr:k = r
    · subst hkr;rw [hm] at hk; cases hk;rw [hrow] at hx; cases hx;refine ⟨{ row with cells:=splice row.cells off vs },by rw [Heap.store_get,if_pos rfl],by rw [Heap.store_size]; exact hlt,hf.ex,hf.es,hf.ro,hf.grpE,hf.grpL,hf.grpB,hf.roE,hf.own,?_⟩
      refine .inl ⟨hlp,_,_,hnew,fun _ => rfl,?_,?_,fun _ j v hj => ?_⟩
      · simp [splice_length hcs]; exact hsz
      · rw [splice_length hle]; exact hsh
      · simp only [splice_get hle] at hj;simp only [List.getElem?_toArray];rw [splice_get hcs]
        by_cases h1:j < off
        · rw [if_pos h1] at hj;rw [if_pos (by omega)]
          simpa using hcell hal j v hj
        · rw [if_neg h1] at hj;rw [if_neg (by omega)]
          by_cases h2:j < off + vs.length
          · rw [if_pos h2] at hj;rw [if_pos (by omega),show rm.sh + j - (rm.sh + off) = j - off by omega]
            exact hvs.get _ _ hj
          · rw [if_neg h2] at hj;rw [if_neg (by omega)]
            simpa using hcell hal j v hj
    · refine ⟨x,by rw [Heap.store_get,if_neg hkr]; exact hx,by rw [Heap.store_size]; exact hlt,?_⟩
      by_cases hbk:rk.blk = rm.blk
      · obtain ⟨he,hg,hxe⟩:=hother k rk x hk hx hkr hbk;have hlx:x.loop = none:=hfk.cells (by rw [hbk]; exact hb)
        have hdead:(H.store r row off vs).alive k x = false:=by
          unfold Heap.alive;simp only [hlx,Heap.store_grps,he,hxe,cond_false,Bool.false_or];rw [hg,Trie.get_put_same,Option.getD_some,memN_one hkr]
        obtain ⟨cs',fz',hb',h1',h2',h3',h4'⟩:=hfk.blkC hlx;rw [hbk,hb] at hb';simp only [Option.some.injEq,Obj.cells.injEq] at hb';obtain ⟨rfl,hel,rfl⟩:=hb';refine ⟨hfk.ex,hfk.es,hfk.ro,hfk.grpE,hfk.grpL,hfk.grpB,hfk.roE,hfk.own,?_⟩;refine .inl ⟨hlx,(splice cs.toList (rm.sh + off) vs').toArray,(0,0),?_,fun _ => rfl,?_,h3',?_⟩
        · rw [hbk,hnew,hel]
        · simp [splice_length hcs]; exact h2'
        · rw [hdead]; intro h; cases h
      · refine hfk.later (Map.le_refl _) (setRow_other _ _ _ _ hbk) ?_
        unfold Heap.alive;cases hlx:x.loop with
        | some _ => simp
        | none =>
        simp only [];rw [Heap.store_grps];cases he:row.exact with
        | true => simp
        | false =>
          simp only [cond_false];rw [Trie.get_put];split
          · rename_i hg; rw [Option.getD_some,memN_one hkr]; simp; intro e; exact .inl e
          · exact id
  · intro k k' rk rk' x x' hk hk' hx hx' hbk;have old:∀ k x,H.rows.get k = some x → ∃ y,H.rows.get k = some y ∧ y.grp = x.grp ∧ y.gpos = x.gpos ∧ y.ro = x.ro:=fun k x hx => ⟨x,hx,rfl,rfl,rfl⟩
    have back:∀ k x,(H.store r row off vs).rows.get k = some x → ∃ y,H.rows.get k = some y ∧ y.grp = x.grp ∧ y.gpos = x.gpos ∧ y.ro = x.ro:=fun k x hx => by
      rw [Heap.store_get] at hx;split at hx
      · rename_i hk; cases hx; exact ⟨row,by rw [hk]; exact hrow,rfl,rfl,rfl⟩
      · exact old k x hx
    obtain ⟨y,hy,e1,e2,e3⟩:=back k x hx;obtain ⟨y',hy',e1',e2',e3'⟩:=back k' x' hx';have:=h.apart k k' rk rk' y y' hk hk' hy hy' hbk;rw [e1,e2,e3,e1',e2',e3'] at this;exact this
  · exact ⟨rfl,rfl,rfl,by simp,fun k hk => setRow_other _ _ _ _ (by have:=hf.own hro; omega)⟩
  · intro b hb hall
    by_cases hbb:b = rm.blk
    · rcases hall r rm hm hbb.symm with hh | hh
      · rw [hf.ro,hro] at hh; cases hh
      · omega
    · exact setRow_other _ _ _ _ hbb

end Go.AM

namespace Go.AM
open Go.RowKit (Below)

def Heap.endOf (H:Heap) (k:Nat):Nat:=match H.rows.get k with
  | some x => x.gpos + x.cells.length
  | none => 0

def keepL (H:Heap) (e:Nat):List Nat → List Nat
  | [] => []
  | k :: l => cond (Nat.ble (H.endOf k) e) (k :: keepL H e l) (keepL H e l)
def killL (H:Heap) (e:Nat):List Nat → List Nat
  | [] => []
  | k :: l => cond (Nat.ble (H.endOf k) e) (killL H e l) (k :: killL H e l)

theorem memN_keepL {H:Heap} {e k:Nat}:∀ {l},memN k (keepL H e l) = true → memN k l = true ∧ H.endOf k ≤ e
  | [],h => by simp [keepL,memN] at h
  | x :: l,h => by
    unfold keepL at h;cases hb:Nat.ble (H.endOf x) e with
    | true =>
      rw [hb,cond_true] at h;unfold memN at h ⊢;cases hx:Nat.beq x k with
      | true => rw [← Nat.eq_of_beq_eq_true hx]; exact ⟨rfl,Nat.le_of_ble_eq_true hb⟩
      | false => rw [hx,cond_false] at h; exact memN_keepL h
    | false =>
      rw [hb,cond_false] at h;obtain ⟨h1,h2⟩:=memN_keepL h;refine ⟨?_,h2⟩;unfold memN;cases Nat.beq x k
      · exact h1
      · rfl

theorem memN_split {H:Heap} {e k:Nat}:∀ {l},memN k l = true → memN k (keepL H e l) = true ∨ memN k (killL H e l) = true
  | x :: l,h => by
    unfold memN at h;unfold keepL killL;cases hx:Nat.beq x k with
    | true =>
      cases hb:Nat.ble (H.endOf x) e
      · right; simp [memN,hx]
      · left; simp [memN,hx]
    | false =>
      rw [hx,cond_false] at h;have ih:=memN_split (H:=H) (e:=e) h;cases hb:Nat.ble (H.endOf x) e
      · simp only [cond_false]; exact ih.imp id fun q => by simp [memN,hx,q]
      · simp only [cond_true]; exact ih.imp (fun q => by simp [memN,hx,q]) id

def Heap.grow (H:Heap) (r:Nat) (row:Row) (off n:Nat) (vs:List Value):Heap:=
  forceL ((row.cells.drop off).take n ++ vs) fun cells => forceT (H.rows.put H.size { row with cells:=cells,gpos:=row.gpos + off }) fun rows =>
  forceL (H.size :: keepL H (row.gpos + off + n) ((H.grps.get row.grp).getD [])) fun mem => forceT (H.grps.put row.grp mem) fun grps =>
  { size:=H.size + 1,rows:=rows,grps:=grps,
    low:=minL (Nat.min r H.low) (killL H (row.gpos + off + n) ((H.grps.get row.grp).getD [])) }
theorem Heap.grow_eq (H:Heap) (r:Nat) (row:Row) (off n:Nat) (vs:List Value):H.grow r row off n vs =
  { size:=H.size + 1,
    rows:=H.rows.put H.size { row with cells:=(row.cells.drop off).take n ++ vs,gpos:=row.gpos + off },
    grps:=H.grps.put row.grp (H.size :: keepL H (row.gpos + off + n) ((H.grps.get row.grp).getD [])),
    low:=minL (Nat.min r H.low) (killL H (row.gpos + off + n) ((H.grps.get row.grp).getD [])) }:=by
  unfold Heap.grow; rw [forceL_eq,forceT_eq,forceL_eq,forceT_eq]
theorem Heap.grow_rows (H:Heap) (r:Nat) (row:Row) (off n:Nat) (vs:List Value):(H.grow r row off n vs).rows = H.rows.put H.size { row with cells:=(row.cells.drop off).take n ++ vs,gpos:=row.gpos + off }:=by rw [Heap.grow_eq]
theorem Heap.grow_grps (H:Heap) (r:Nat) (row:Row) (off n:Nat) (vs:List Value):(H.grow r row off n vs).grps = H.grps.put row.grp (H.size :: keepL H (row.gpos + off + n) ((H.grps.get row.grp).getD [])):=by rw [Heap.grow_eq]
theorem Heap.grow_size (H:Heap) (r:Nat) (row:Row) (off n:Nat) (vs:List Value):(H.grow r row off n vs).size = H.size + 1:=by rw [Heap.grow_eq]
theorem Heap.grow_lowIs (H:Heap) (r:Nat) (row:Row) (off n:Nat) (vs:List Value):(H.grow r row off n vs).low = minL (Nat.min r H.low) (killL H (row.gpos + off + n) ((H.grps.get row.grp).getD [])):=by rw [Heap.grow_eq]

theorem grow_low {H:Heap} {r:Nat} {row:Row} {off n:Nat} {vs:List Value}:(H.grow r row off n vs).low ≤ r ∧ (H.grow r row off n vs).low ≤ H.low:=by
  have h1:=minL_le (Nat.min r H.low) (killL H (row.gpos + off + n) ((H.grps.get row.grp).getD []));rw [Heap.grow_lowIs];exact ⟨Nat.le_trans h1 (Nat.min_le_left _ _),Nat.le_trans h1 (Nat.min_le_right _ _)⟩

theorem HF.grow (H:Heap) (r:Nat) (row:Row) (off n:Nat) (vs:List Value):HF H (H.grow r row off n vs) where
  size:=by rw [Heap.grow_size]; exact Nat.le_succ _
  low:=grow_low.2
  keep:=fun k hk hl => by
    refine ⟨by rw [Heap.grow_rows]; exact Trie.get_put_ne _ _ (by omega),fun x _ => ?_⟩
    unfold Heap.alive;cases hlx:x.loop with
    | some _ => rfl
    | none =>
    simp only [];cases hxe:x.exact with
    | true => simp
    | false =>
      simp only [Bool.false_or];rw [Heap.grow_lowIs] at hl;rw [Heap.grow_grps,Trie.get_put];split
      · rename_i hg;rw [hg,Option.getD_some];have hne:Nat.beq H.size k = false:=Trie.beq_ff (by omega)
        rw [show ∀ l,memN k (H.size :: l) = memN k l from fun l => by simp [memN,hne]]
        cases hmem:memN k ((H.grps.get row.grp).getD []) with
        | false =>
          cases hk2:memN k (keepL H (row.gpos + off + n) ((H.grps.get row.grp).getD [])) with
          | false => rfl
          | true => rw [(memN_keepL hk2).1] at hmem; cases hmem
        | true =>
          rcases memN_split (H:=H) (e:=row.gpos + off + n) hmem with h2 | h2
          · exact h2
          · have:=minL_mem (a:=Nat.min r H.low) h2; omega
      · rfl

theorem grow_get (H:Heap) (r:Nat) (row:Row) (off n:Nat) (vs:List Value) (k:Nat) :
    (H.grow r row off n vs).rows.get k = if k = H.size then some { row with cells:=(row.cells.drop off).take n ++ vs,gpos:=row.gpos + off } else H.rows.get k:=by
  rw [Heap.grow_rows]; exact Trie.get_put _ _ _ _

theorem grow_alive {H:Heap} {r:Nat} {row:Row} {off n:Nat} {vs:List Value} {k:Nat} {x:Row} (hk:k < H.size) (hx:H.rows.get k = some x)
    (h:(H.grow r row off n vs).alive k x = true):H.alive k x = true ∧ (x.exact = false → x.grp = row.grp → x.gpos + x.cells.length ≤ row.gpos + off + n):=by
  have hlx:=alive_loop h;unfold Heap.alive at *;rw [hlx] at h ⊢;simp only [] at h ⊢;cases hxe:x.exact with
  | true => exact ⟨by simp,fun e => by cases e⟩
  | false =>
    rw [hxe,Bool.false_or] at h;rw [Heap.grow_grps,Trie.get_put] at h;simp only [Bool.false_or];split at h
    · rename_i hg;rw [Option.getD_some] at h;unfold memN at h;rw [Trie.beq_ff (by omega:H.size ≠ k),cond_false] at h
      obtain ⟨h1,h2⟩:=memN_keepL h;rw [hg];refine ⟨h1,fun _ _ => ?_⟩
      unfold Heap.endOf at h2;rw [hx] at h2;exact h2
    · rename_i hg;exact ⟨h,fun _ e => absurd e hg⟩

theorem VRs.content {m:Map} {cells cs:List Value} {sh off n:Nat} (h:∀ (j:Nat) (v:Value),cells[j]? = some v → ∃ v',cs[sh + j]? = some v' ∧ VR m v v')
    (hl:sh + cells.length ≤ cs.length):VRs m ((cells.drop off).take n) ((cs.drop (sh + off)).take (min n (cells.length - off))):=by
  apply VRs.of_get
  · simp; omega
  · intro j v hj;rw [List.getElem?_take] at hj;split at hj
    · rename_i hjn;rw [List.getElem?_drop] at hj;obtain ⟨v',e,hv⟩:=h _ _ hj;have:=(List.getElem?_eq_some_iff.1 hj).1;refine ⟨v',?_,hv⟩;rw [List.getElem?_take,if_pos (by omega),List.getElem?_drop,← e]
      congr 1; omega
    · cases hj

theorem Ext.growA {n0 m H w} (h:HR n0 m H w) {r:Nat} {rm:RowMap} {row:Row} (hm:m r = some rm) (hrow:H.rows.get r = some row) (hex:row.exact = false)
    (hal:H.alive r row = true) (off n:Nat) (vs vs':List Value) (hvs:VRs m vs vs') (hle:off + n ≤ row.cells.length) (hroom:rm.sh + off + n + vs'.length ≤ rm.ext) :
    ∃ cs,w.heap[rm.blk]? = some (.cells cs row.elem (0,0)) ∧ rm.ext = cs.size ∧
      Ext n0 m H w (m.put H.size ⟨rm.blk,rm.sh + off,rm.ext,rm.esz,false,false⟩) (H.grow r row off n vs) (w.setRow rm.blk (splice cs.toList (rm.sh + off + n) vs').toArray):=by
  have hf:=h.rowOf hm hrow;have hlp:=alive_loop hal;obtain ⟨cs,fz,hb,hfz,hsz,hsh,hcell⟩:=hf.blkC hlp;have hro:row.ro = false:=by
    cases e:row.ro with
    | false => rfl
    | true => rw [hf.roE e] at hex; cases hex
  rw [hfz hro] at hb;have hvl:=hvs.length;have hcs:rm.sh + off + n + vs'.length ≤ cs.toList.length:=by simp; omega
  have hnew:=setRow_heap w rm.blk cs (splice cs.toList (rm.sh + off + n) vs').toArray row.elem (0,0) hb;refine ⟨cs,hb,hsz.symm,?_⟩;have hmle:=Map.le_put (rm:=⟨rm.blk,rm.sh + off,rm.ext,rm.esz,false,false⟩) h.none;have hnsz:(m.put H.size ⟨rm.blk,rm.sh + off,rm.ext,rm.esz,false,false⟩) H.size = some ⟨rm.blk,rm.sh + off,rm.ext,rm.esz,false,false⟩:=Map.put_same _ _ _;have hlt:=h.lt hm;refine ⟨hmle,⟨?_,?_,?_,?inv⟩,?_,?_,?_,fun b L hbL => ⟨L,by rw [setRow_other _ _ _ _ (fun he => by rw [he,hb] at hbL; cases hbL)]; exact hbL⟩⟩
  case inv =>
    intro k x hx;rw [grow_get] at hx;have hsz:∀ g,g < 2 * H.size → g < 2 * (H.grow r row off n vs).size:=fun g hg => by rw [Heap.grow_size]; omega
    split at hx
    · rename_i hk; cases hx; exact ⟨(h.inv r row hrow).1.imp id (hsz _),by rw [Heap.grow_size]; omega⟩
    · exact ⟨(h.inv k x hx).1.imp id (hsz _),by have:=(h.inv k x hx).2; rw [Heap.grow_size]; omega⟩
  · simpa using h.base
  · intro k rk hk;rcases Map.put_inv hk with ⟨rfl,rfl⟩ | ⟨hne,hk⟩
    · refine ⟨{ row with cells:=(row.cells.drop off).take n ++ vs,gpos:=row.gpos + off },by rw [grow_get,if_pos rfl],by rw [Heap.grow_size]; exact Nat.lt_succ_self _,?_⟩
      refine ⟨by simp [hex],hf.es,hro.symm,by intro e; simp [hex] at e,fun _ => hf.grpL hex,by have:=hf.grpB; simp only; omega,fun e => by simp [hro] at e,fun _ => hf.own hro,?_⟩
      refine .inl ⟨hlp,_,_,hnew,fun _ => rfl,by simp [splice_length hcs,hsz],?_,fun _ j v hj => ?_⟩
      · simp only [List.length_append,List.length_take,List.length_drop]; omega
      · simp only [List.getElem?_toArray];rw [splice_get hcs];rw [List.getElem?_append] at hj;have hlen:((row.cells.drop off).take n).length = n:=by simp; omega
        rw [hlen] at hj;split at hj
        · rename_i hjn;rw [List.getElem?_take,if_pos hjn,List.getElem?_drop] at hj;rw [if_pos (by omega)]
          obtain ⟨v',e,hv⟩:=hcell hal _ _ hj;exact ⟨v',by simpa [Nat.add_assoc] using e,hv.mono hmle⟩
        · rename_i hjn;have hjl:=(List.getElem?_eq_some_iff.1 hj).1;rw [if_neg (by omega),if_pos (by omega),show rm.sh + off + j - (rm.sh + off + n) = j - n by omega]
          obtain ⟨v',e,hv⟩:=hvs.get _ _ hj;exact ⟨v',e,hv.mono hmle⟩
    · obtain ⟨x,hx,hklt,hfk⟩:=h.row k rk hk;refine ⟨x,by rw [grow_get,if_neg (by omega),hx],by rw [Heap.grow_size]; exact Nat.lt_succ_of_lt hklt,?_⟩
      by_cases hbk:rk.blk = rm.blk
      · rcases h.apart k r rk rm x row hk hm hx hrow hbk with ⟨hg,hpos⟩ | ⟨_,hr⟩
        case inr => rw [hro] at hr; cases hr
        have hxe:x.exact = false:=by
          cases hxe:x.exact with
          | false => rfl
          | true => have h2:=hfk.grpE hxe; have h1:=hf.grpL hex; omega
        have hlx:x.loop = none:=hfk.cells (by rw [hbk]; exact hb)
        obtain ⟨cs',fz',hb',h1',h2',h3',h4'⟩:=hfk.blkC hlx;rw [hbk,hb] at hb';simp only [Option.some.injEq,Obj.cells.injEq] at hb';obtain ⟨rfl,hel,rfl⟩:=hb';refine ⟨hfk.ex,hfk.es,hfk.ro,hfk.grpE,hfk.grpL,hfk.grpB,hfk.roE,hfk.own,?_⟩;refine .inl ⟨hlx,(splice cs.toList (rm.sh + off + n) vs').toArray,(0,0),by rw [hbk,hnew,hel],fun _ => rfl,by simp [splice_length hcs,h2'],h3',fun hal' j v hj => ?_⟩
        obtain ⟨ha,hend⟩:=grow_alive hklt hx hal';have hend:=hend hxe hg;have hjl:=(List.getElem?_eq_some_iff.1 hj).1;obtain ⟨v',e,hv⟩:=h4' ha j v hj;refine ⟨v',?_,hv.mono hmle⟩;simp only [List.getElem?_toArray];rw [splice_get hcs,if_pos (by omega)]
        simpa using e
      · exact hfk.later hmle (setRow_other _ _ _ _ hbk) fun hal' => (grow_alive hklt hx hal').1
  · intro k k' rk rk' x x' hk hk' hx hx' hbk;rw [grow_get] at hx hx';rcases Map.put_inv hk with ⟨rfl,rfl⟩ | ⟨hne,hk⟩ <;> rcases Map.put_inv hk' with ⟨rfl,rfl⟩ | ⟨hne',hk'⟩
    · rw [if_pos rfl] at hx hx'; cases hx; cases hx'; exact .inl ⟨rfl,rfl⟩
    · rw [if_pos rfl] at hx; cases hx;rw [if_neg hne'] at hx';rcases h.apart r k' rm rk' row x' hm hk' hrow hx' hbk with ⟨h1,h2⟩ | ⟨h1,_⟩
      · exact .inl ⟨h1,by simp only; omega⟩
      · rw [hro] at h1; cases h1
    · rw [if_pos rfl] at hx'; cases hx';rw [if_neg hne] at hx;rcases h.apart k r rk rm x row hk hm hx hrow hbk with ⟨h1,h2⟩ | ⟨_,h1⟩
      · exact .inl ⟨h1,by simp only; omega⟩
      · rw [hro] at h1; cases h1
    · rw [if_neg hne] at hx; rw [if_neg hne'] at hx';exact h.apart k k' rk rk' x x' hk hk' hx hx' hbk
  · exact ⟨rfl,rfl,rfl,by simp,fun k hk => setRow_other _ _ _ _ (by have:=hf.own hro; omega)⟩
  · intro b hb hall
    by_cases hbb:b = rm.blk
    · rcases hall r rm hm hbb.symm with hh | hh
      · rw [hf.ro,hro] at hh; cases hh
      · have:=(grow_low (H:=H) (r:=r) (row:=row) (off:=off) (n:=n) (vs:=vs)).1; omega
    · exact setRow_other _ _ _ _ hbb
  · intro k rk hk;rcases Map.put_inv hk with ⟨rfl,rfl⟩ | ⟨hne,hk⟩
    · exact .inr ⟨Nat.le_refl _,rfl,.inr ⟨r,rm,hm,rfl,by rw [hf.ro,hro],grow_low.1⟩⟩
    · exact .inl hk

theorem Ext.growB {n0 m H w} (h:HR n0 m H w) {r:Nat} {rm:RowMap} {row:Row} (hm:m r = some rm) (hrow:H.rows.get r = some row) (hex:row.exact = false) (hlp:row.loop = none)
    (off n:Nat) (vs l' spare:List Value) (hl:VRs m ((row.cells.drop off).take n ++ vs) l') :
    Ext n0 m H w (m.put H.size ⟨w.heap.size,0,(l' ++ spare).length,rm.esz,false,false⟩) (H.grow r row off n vs) (w.drew.alloc (.cells (l' ++ spare).toArray row.elem)):=by
  have hf:=h.rowOf hm hrow;have hro:row.ro = false:=by
    cases e:row.ro with
    | false => rfl
    | true => rw [hf.roE e] at hex; cases hex
  have hnew:(w.drew.alloc (.cells (l' ++ spare).toArray row.elem)).heap[w.heap.size]? = some (.cells (l' ++ spare).toArray row.elem):=
    heap_alloc_new w.drew (.cells (l' ++ spare).toArray row.elem)
  have hold:∀ b,b < w.heap.size → (w.drew.alloc (.cells (l' ++ spare).toArray row.elem)).heap[b]? = w.heap[b]?:=fun b hb =>
    heap_alloc_old w.drew (.cells (l' ++ spare).toArray row.elem) b hb
  have hmle:=Map.le_put (rm:=⟨w.heap.size,0,(l' ++ spare).length,rm.esz,false,false⟩) h.none;have hlt:=h.lt hm;refine ⟨hmle,⟨?_,?_,?_,?inv⟩,(Below.refl _ _).drew.alloc h.base _,fun b hb _ => hold b hb,?_,fun b L hb => ⟨L,by rw [hold b (Array.getElem?_eq_some_iff.1 hb).1]; exact hb⟩⟩
  case inv =>
    intro k x hx;rw [grow_get] at hx;have hsz:∀ g,g < 2 * H.size → g < 2 * (H.grow r row off n vs).size:=fun g hg => by rw [Heap.grow_size]; omega
    split at hx
    · rename_i hk; cases hx; exact ⟨(h.inv r row hrow).1.imp id (hsz _),by rw [Heap.grow_size]; omega⟩
    · exact ⟨(h.inv k x hx).1.imp id (hsz _),by have:=(h.inv k x hx).2; rw [Heap.grow_size]; omega⟩
  · have:=h.base; simp; omega
  · intro k rk hk;rcases Map.put_inv hk with ⟨rfl,rfl⟩ | ⟨hne,hk⟩
    · refine ⟨{ row with cells:=(row.cells.drop off).take n ++ vs,gpos:=row.gpos + off },by rw [grow_get,if_pos rfl],by rw [Heap.grow_size]; exact Nat.lt_succ_self _,?_⟩
      refine ⟨by simp [hex],hf.es,hro.symm,by intro e; simp [hex] at e,fun _ => hf.grpL hex,by have:=hf.grpB; simp only; omega,fun e => by simp [hro] at e,fun _ => h.base,?_⟩
      refine .inl ⟨hlp,_,_,hnew,fun _ => rfl,by simp,by simp only [hl.length]; simp,fun _ j v hj => ?_⟩
      obtain ⟨v',e,hv⟩:=hl.get j v hj;have hjl:=(List.getElem?_eq_some_iff.1 e).1;exact ⟨v',by simpa [List.getElem?_append_left hjl] using e,hv.mono hmle⟩
    · obtain ⟨x,hx,hklt,hfk⟩:=h.row k rk hk;exact ⟨x,by rw [grow_get,if_neg (by omega),hx],by rw [Heap.grow_size]; exact Nat.lt_succ_of_lt hklt,hfk.later hmle (hold _ hfk.lt) fun hal' => (grow_alive hklt hx hal').1⟩
  · intro k k' rk rk' x x' hk hk' hx hx' hbk;rw [grow_get] at hx hx';rcases Map.put_inv hk with ⟨rfl,rfl⟩ | ⟨hne,hk⟩ <;> rcases Map.put_inv hk' with ⟨rfl,rfl⟩ | ⟨hne',hk'⟩
    · rw [if_pos rfl] at hx hx'; cases hx; cases hx'; exact .inl ⟨rfl,rfl⟩
    · obtain ⟨y,hy,_,hfy⟩:=h.row k' rk' hk';have:=hfy.lt; simp at hbk; omega
    · obtain ⟨y,hy,_,hfy⟩:=h.row k rk hk;have:=hfy.lt; simp at hbk; omega
    · rw [if_neg hne] at hx; rw [if_neg hne'] at hx';exact h.apart k k' rk rk' x x' hk hk' hx hx' hbk
  · intro k rk hk;rcases Map.put_inv hk with ⟨rfl,rfl⟩ | ⟨hne,hk⟩
    · exact .inr ⟨Nat.le_refl _,rfl,.inl (Nat.le_refl _)⟩
    · exact .inl hk

end Go.AM

namespace Go.AM
open Go.RowKit (Below)

variable {P:Program} {n0:Nat} {m:Map} {H:Heap} {w:World}

def isAggD:TypeDesc → Bool
  | .struct _ | .array _ _ => true
  | _ => false

theorem run_typeInfo' {t:TypeId} {i:TypeInfo} (h:P.info? t = some i) (w:World):(typeInfo t).run P w = .ok i w:=by
  simp [typeInfo,h]
theorem run_underlying' {t:TypeId} {d:TypeDesc} (h:P.underlying t = some d) (w:World):(underlying t).run P w = .ok d w:=by
  simp [underlying,h]
theorem run_sizeOf' {t:TypeId} {i:TypeInfo} (h:P.info? t = some i) (w:World):(sizeOf t).run P w = .ok i.size w:=by
  simp [sizeOf,run_typeInfo' h]
theorem run_zero' {t:TypeId} {i:TypeInfo} {z:Value} (h:P.info? t = some i) (hz:i.zero = some z) (w:World):(zeroValue t).run P w = .ok z w:=by
  simp [zeroValue,run_typeInfo' h,hz]
theorem run_isAgg' {t:TypeId} {d:TypeDesc} (h:P.underlying t = some d) (w:World):(isAgg t).run P w = .ok (isAggD d) w:=by
  simp only [isAgg,Sem.run_bind,run_underlying' h,Result.andThen_ok];cases d <;> rfl

def Sim (P:Program) (n0:Nat) (m:Map) (H:Heap) (w:World) (s:Sem Value) (v:Value) (H':Heap):Prop:=
  ∃ v' m' w',s.run P w = .ok v' w' ∧ Ext n0 m H w m' H' w' ∧ VR m' v v' ∧ HF H H'
def SimU (P:Program) (n0:Nat) (m:Map) (H:Heap) (w:World) (s:Sem Unit) (H':Heap):Prop:=
  ∃ m' w',s.run P w = .ok () w' ∧ Ext n0 m H w m' H' w' ∧ HF H H'

theorem Sim.same (h:HR n0 m H w) {s:Sem Value} {v v':Value} (hr:s.run P w = .ok v' w) (hv:VR m v v'):Sim P n0 m H w s v H:=
  ⟨v',m,w,hr,.refl h,hv,.refl H⟩

theorem VR.ptr_inv {r o:Nat} {v':Value} (h:VR m (.pointer (some ⟨r,o,none⟩)) v'):∃ rm,m r = some rm ∧ v' = .pointer (some ⟨rm.blk,rm.sh + o,none⟩):=by
  cases h with
  | plain h => simp [AM.plain] at h
  | ptr h => exact ⟨_,h,rfl⟩

theorem VR.slice_inv {r o n c:Nat} {v':Value} (h:VR m (.slice (some ⟨r,o,none⟩) n c) v'):∃ rm o' c',m r = some rm ∧ v' = .slice (some ⟨rm.blk,o',none⟩) n c' ∧
    ((rm.exact = true ∧ o' = rm.sh + o ∧ c' = c) ∨ (rm.exact = false ∧ n ≤ c ∧ c ≤ c' ∧ ((o' = rm.sh + o ∧ o' + c' * rm.esz ≤ rm.ext) ∨ c' = 0))):=by
  cases h with
  | plain h => simp [AM.plain] at h
  | sliceE h e => exact ⟨_,_,_,h,rfl,.inl ⟨e,rfl,rfl⟩⟩
  | sliceL h e a b c => exact ⟨_,_,_,h,rfl,.inr ⟨e,a,b,c⟩⟩

def Heap.read (H:Heap) (r off n:Nat):Option (List Value):=match H.rows.get r with
  | some row => cond (H.alive r row && Nat.ble (off + n) row.cells.length) (some ((row.cells.drop off).take n)) none
  | none => none

theorem read_inv {r off n:Nat} {l:List Value} (e:H.read r off n = some l):∃ row,H.rows.get r = some row ∧ H.alive r row = true ∧ off + n ≤ row.cells.length ∧ l = (row.cells.drop off).take n:=by
  unfold Heap.read at e;cases hr:H.rows.get r with
  | none => rw [hr] at e; cases e
  | some row =>
    rw [hr] at e;simp only [] at e;cases hb:(H.alive r row && Nat.ble (off + n) row.cells.length) with
    | false => rw [hb] at e; cases e
    | true =>
      rw [hb,cond_true] at e;simp only [Bool.and_eq_true] at hb;exact ⟨row,rfl,hb.1,Nat.le_of_ble_eq_true hb.2,by injection e with e; exact e.symm⟩

theorem read_sound (h:HR n0 m H w) {r off n:Nat} {rm:RowMap} {l:List Value} (hm:m r = some rm) (e:H.read r off n = some l) :
    ∃ l',VRs m l l' ∧ l'.length = n ∧ l.length = n ∧ (∀ (j:Nat) (v:Value),l'[j]? = some v → w.cell? ⟨rm.blk,rm.sh + off + j,none⟩ = some v) ∧ rm.sh + off + n ≤ rm.ext:=by
  obtain ⟨row,hrow,hal,hle,rfl⟩:=read_inv e;obtain ⟨cs,fz,hb,_,hsz,hsh,hcell⟩:=(h.rowOf hm hrow).blkC (alive_loop hal);have hv:=VRs.content (off:=off) (n:=n) (cs:=cs.toList) (fun j v hj => by simpa using hcell hal j v hj) (by simpa [hsz] using hsh)
  rw [show min n (row.cells.length - off) = n by omega] at hv
  have hlen:((row.cells.drop off).take n).length = n:=by simp; omega
  refine ⟨_,hv,by rw [← hv.length,hlen],hlen,fun j v hj => ?_,by omega⟩
  rw [cell_of_row w rm.blk _ cs row.elem fz hb];rw [List.getElem?_take] at hj;split at hj
  · rw [List.getElem?_drop] at hj; simpa using hj
  · cases hj

theorem addr_add (b o n:Nat):(⟨b,o,none⟩:Addr).add n = ⟨b,o + n,none⟩:=by
  unfold Addr.add; split <;> simp_all

theorem run_loadCells_of {b o n:Nat} {l':List Value} (hl:l'.length = n) (hc:∀ (j:Nat) (v:Value),l'[j]? = some v → w.cell? ⟨b,o + j,none⟩ = some v) :
    (loadCells ⟨b,o,none⟩ n).run P w = .ok l'.toArray w:=by
  subst hl;exact run_loadCells_list w _ l' fun j v hj => by rw [addr_add]; exact hc j v hj

def one1:List Value → Option Value
  | [x] => some x
  | _ => none

def aLoad (P:Program) (H:Heap) (t:TypeId):Value → Option Value
  | .pointer (some ⟨r,o,none⟩) => match P.info? t,P.underlying t with
    | some i,some d => cond (isAggD d) ((H.read r o i.size).map fun l => .agg ⟨l⟩) ((H.read r o 1).bind one1)
    | _,_ => none
  | _ => none

theorem aLoad_sound (h:HR n0 m H w) {t:TypeId} {a a' v:Value} (ha:VR m a a') (e:aLoad P H t a = some v):∃ v',(Instr.loadAt t a').run P w = .ok v' w ∧ VR m v v':=by
  unfold aLoad at e;split at e
  · rename_i r o;obtain ⟨rm,hm,rfl⟩:=ha.ptr_inv;split at e
    · rename_i i d hi hd;cases hg:isAggD d with
      | true =>
        rw [hg,cond_true] at e;simp only [Option.map_eq_some_iff] at e;obtain ⟨l,hl,rfl⟩:=e;obtain ⟨l',hv,hlen,_,hc,_⟩:=read_sound h hm hl;refine ⟨.agg ⟨l'⟩,?_,.agg hv⟩;simp [Instr.loadAt,Instr.sureAddr,loadVar,run_isAgg' hd,hg,run_sizeOf' hi,run_loadCells_of (P:=P) hlen hc]
      | false =>
        rw [hg,cond_false] at e;simp only [Option.bind_eq_some_iff] at e;obtain ⟨l,hl,hx⟩:=e;obtain ⟨l',hv,hlen,_,hc,_⟩:=read_sound h hm hl
        match l,l',hv,hlen,hx with
        | [x],[x'],.cons hv _,_,hx =>
          cases hx;have:=hc 0 x' rfl;refine ⟨x',?_,hv⟩;simp [Instr.loadAt,Instr.sureAddr,loadVar,run_isAgg' hd,hg];simp at this;rw [this]
    · cases e
  · cases e

def ones:List Value → Bool
  | [] => true
  | .agg _ :: _ => false
  | .tuple _ :: _ => false
  | _ :: l => ones l

theorem ones_mem:∀ {l l'},VRs m l l' → ones l = true → ∀ v ∈ l',v.oneCell' = true
  | _,_,.nil,_,v,hv => by cases hv
  | x :: l,_,.cons hx k,h,v,hv => by
    rcases List.mem_cons.1 hv with rfl | hv
    · cases hx with
      | plain hp => cases x <;> first | rfl | simp [ones] at h
      | agg _ => simp [ones] at h
      | tuple _ => simp [ones] at h
      | _ => rfl
    · refine ones_mem k ?_ v hv;cases x <;> first | exact h | simp [ones] at h

def aStore (P:Program) (H:Heap) (t:TypeId) (a v:Value):Option Heap:=match a with
  | .pointer (some ⟨r,o,none⟩) => match P.info? t,H.rows.get r with
    | some i,some row => cond (!row.ro && (H.alive r row && (Nat.beq v.cells.toList.length i.size && (ones v.cells.toList && Nat.ble (o + v.cells.toList.length) row.cells.length))))
        (some (H.store r row o v.cells.toList)) none
    | _,_ => none
  | _ => none

theorem aStore_sound (h:HR n0 m H w) {t:TypeId} {a a' v v':Value} {H':Heap} (ha:VR m a a') (hv:VR m v v') (e:aStore P H t a v = some H') :
    SimU P n0 m H w (Instr.storeAt t a' v') H':=by
  unfold aStore at e;split at e
  · rename_i r o;obtain ⟨rm,hm,rfl⟩:=ha.ptr_inv;split at e
    · rename_i i row hi hrow;cases hb:(!row.ro && (H.alive r row && (Nat.beq v.cells.toList.length i.size && (ones v.cells.toList && Nat.ble (o + v.cells.toList.length) row.cells.length)))) with
      | false => rw [hb] at e; cases e
      | true =>
        rw [hb,cond_true] at e;cases e;simp only [Bool.and_eq_true,Bool.not_eq_true'] at hb;obtain ⟨hro,hal,hsz,hones,hle⟩:=hb;have hsz:=Nat.eq_of_beq_eq_true hsz;have hle:=Nat.le_of_ble_eq_true hle;have hc:=hv.cells;obtain ⟨cs,hb,hroom,hext⟩:=Ext.store h hm hrow hro hal o _ _ hc hle;refine ⟨m,_,?_,hext,HF.store H r row o _⟩;have hst:=run_storeCells_at P rm.blk (rm.sh + o) row.elem v'.cells.toList 0 cs w hb (by simpa using hroom) (ones_mem hc hones)
        have hsz':v'.cells.size = i.size:=by rw [← hsz,hc.length]; simp
        simp only [Instr.storeAt,Instr.sureAddr,storeVar,Sem.run_bind,Sem.run_pure,Result.andThen_ok,run_sizeOf' hi,hsz',ne_eq,not_true_eq_false,if_false];rw [hst];simp only [Nat.add_zero,toList_splice]
    · cases e
  · cases e

def Heap.newExact (H:Heap) (l:List Value) (e:TypeId):Heap:=H.add { cells:=l,elem:=e,exact:=true,ro:=false,esz:=0,grp:=2 * H.size,gpos:=0 }

theorem newExact_sound (h:HR n0 m H w) {l l':List Value} (hl:VRs m l l') (e:TypeId) :
    Ext n0 m H w (m.put H.size ⟨w.heap.size,0,l'.length,0,true,false⟩) (H.newExact l e) (w.alloc (.cells l'.toArray e)) ∧ HF H (H.newExact l e):=by
  have:=Ext.add h { cells:=l,elem:=e,exact:=true,ro:=false,esz:=0,grp:=2 * H.size,gpos:=0 } l' [] rfl rfl hl (.inl ⟨rfl,rfl⟩) w (.inl rfl);refine ⟨by simpa [Heap.newExact] using this,HF.add H _ (.inl rfl) h.inv⟩

theorem newVar_sim (h:HR n0 m H w) {v v':Value} (hv:VR m v v') (t:TypeId) :
    Sim P n0 m H w (do pure (.pointer (some (← newVar t v')))) (.pointer (some ⟨H.size,0,none⟩)) (H.newExact v.cells.toList t):=by
  obtain ⟨hext,hf⟩:=newExact_sound h hv.cells t;refine ⟨_,_,_,?_,hext,.ptr (Map.put_same _ _ _),hf⟩;simp [newVar,newRow]

def aAlloc (P:Program) (H:Heap) (t:TypeId):Option (Value × Heap):=match (P.info? t).bind (·.zero) with
  | some z => cond (plain z) (some (.pointer (some ⟨H.size,0,none⟩),H.newExact z.cells.toList t)) none
  | none => none

theorem aAlloc_sound (h:HR n0 m H w) {t:TypeId} {v:Value} {H':Heap} (e:aAlloc P H t = some (v,H')):Sim P n0 m H w (Instr.alloc t true (.tuple #[])) v H':=by
  unfold aAlloc at e;split at e
  · rename_i z hz;simp only [Option.bind_eq_some_iff] at hz;obtain ⟨i,hi,hz⟩:=hz;cases hp:plain z with
    | false => rw [hp] at e; cases e
    | true =>
      rw [hp,cond_true] at e;cases e;obtain ⟨v',m',w',hr,hx⟩:=newVar_sim (P:=P) h (.plain hp) t;refine ⟨v',m',w',?_,hx⟩;simp only [Instr.alloc,Sem.run_bind,run_zero' hi hz,Result.andThen_ok];exact hr
  · cases e

def aFieldAt (P:Program) (s:TypeId) (f:Nat):Value → Option Value
  | .pointer (some ⟨r,o,none⟩) => match P.underlying s with
    | some (.struct fields) => match fields[f]? with
      | some fd => match P.info? fd.type with
        | some i => cond (Nat.beq i.size 0) none (some (.pointer (some ⟨r,o + fd.offset,none⟩)))
        | none => none
      | none => none
    | _ => none
  | _ => none

theorem aFieldAt_sound {s:TypeId} {f:Nat} {a a' v:Value} (ha:VR m a a') (e:aFieldAt P s f a = some v) :
    ∃ v',(Instr.fieldAt s a' f).run P w = .ok v' w ∧ VR m v v':=by
  unfold aFieldAt at e;split at e
  · rename_i r o;obtain ⟨rm,hm,rfl⟩:=ha.ptr_inv;split at e
    · rename_i fields hu;split at e
      · rename_i fd hfd;split at e
        · rename_i i hi;cases hz:Nat.beq i.size 0 with
          | true => rw [hz] at e; cases e
          | false =>
            rw [hz,cond_false] at e;cases e;have hz':i.size ≠ 0:=fun e => by rw [e] at hz; cases hz
            refine ⟨.pointer (some ⟨rm.blk,rm.sh + (o + fd.offset),none⟩),?_,.ptr hm⟩;simp [Instr.fieldAt,run_underlying' hu,hfd,Instr.sureAddr,fieldPlace,run_sizeOf' hi,hz',addr_add,Nat.add_assoc]
        · cases e
      · cases e
    · cases e
  · cases e

end Go.AM

namespace Go.AM
open Go.RowKit (Below)

variable {P:Program} {n0:Nat} {m:Map} {H:Heap} {w:World}

theorem VR.int_inv {k:IntKind} {i:Int} {v':Value} (h:VR m (.int k i) v'):v' = .int k i:=h.eq_of_plain rfl
theorem VR.bool_inv {b:Bool} {v':Value} (h:VR m (.bool b) v'):v' = .bool b:=h.eq_of_plain rfl
theorem VR.int {k:IntKind} {i:Int}:VR m (.int k i) (.int k i):=.plain rfl
theorem VR.bool {b:Bool}:VR m (.bool b) (.bool b):=.plain rfl

/-! Addresses of elements. -/

def aIndexAt (P:Program) (t:TypeId) (x ix:Value):Option Value:=match ix with
  | .int _ i => match P.underlying t,x with
    | some (.array n e),.pointer (some ⟨r,o,none⟩) => (P.info? e).bind fun inf => if 0 ≤ i ∧ i < (n:Int) then some (.pointer (some ⟨r,o + i.toNat * inf.size,none⟩)) else none
    | some (.slice e),.slice (some ⟨r,o,none⟩) n _ => (P.info? e).bind fun inf => if 0 ≤ i ∧ i < (n:Int) then some (.pointer (some ⟨r,o + i.toNat * inf.size,none⟩)) else none
    | _,_ => none
  | _ => none

theorem aIndexAt_sound {t:TypeId} {x x' ix ix' v:Value} (hx:VR m x x') (hi:VR m ix ix') (e:aIndexAt P t x ix = some v) :
    ∃ v',(Instr.indexAt t x' ix').run P w = .ok v' w ∧ VR m v v':=by
  unfold aIndexAt at e;split at e
  · rename_i k i;rw [hi.int_inv];split at e
    · rename_i n e' r o hu;obtain ⟨rm,hm,rfl⟩:=hx.ptr_inv;simp only [Option.bind_eq_some_iff] at e;obtain ⟨inf,hinf,e⟩:=e;split at e
      · rename_i hb;cases e;refine ⟨.pointer (some ⟨rm.blk,rm.sh + (o + i.toNat * inf.size),none⟩),?_,.ptr hm⟩;simp [Instr.indexAt,asIntOf,run_underlying' hu,Instr.sureAddr,hb,run_sizeOf' hinf,addr_add,Nat.add_assoc]
      · cases e
    · rename_i e' r o n c hu;obtain ⟨rm,o',c',hm,rfl,hc⟩:=hx.slice_inv;simp only [Option.bind_eq_some_iff] at e;obtain ⟨inf,hinf,e⟩:=e;split at e
      · rename_i hb;cases e;have ho:o' = rm.sh + o:=by
          rcases hc with ⟨_,h1,_⟩ | ⟨_,h1,h2,⟨h3,_⟩ | h3⟩
          · exact h1
          · exact h3
          · omega
        refine ⟨.pointer (some ⟨rm.blk,rm.sh + (o + i.toNat * inf.size),none⟩),?_,.ptr hm⟩;simp [Instr.indexAt,asIntOf,run_underlying' hu,hb,run_sizeOf' hinf,addr_add,Nat.add_assoc,ho]
      · cases e
    · cases e
  · cases e

/-! Slices of slices and of arrays. -/

def aBound (x:Value) (y:Nat):Option Nat:=match x with
  | .int _ i => if 0 ≤ i ∧ i ≤ (y:Int) then some i.toNat else none
  | _ => none

def aBounds (len cap:Nat) (low high max:Option Value):Option (Nat × Nat × Nat):=
  match (match max with | some v => aBound v cap | none => some cap) with
  | none => none
  | some mm => match (match high,max with | some v,_ => aBound v mm | none,none => some len | none,some _ => none) with
    | none => none
    | some hh => match (match low with | some v => aBound v hh | none => some 0) with
      | none => none
      | some ll => some (ll,hh,mm)

theorem aBound_run {x x':Value} {y y' n:Nat} {c:BoundsCode} (hx:VR m x x') (e:aBound x y = some n) (hy:y ≤ y'):(Instr.sliceBound x' y' c).run P w = .ok n w ∧ n ≤ y:=by
  unfold aBound at e;split at e
  · rename_i k i;rw [hx.int_inv];split at e
    · rename_i hb;cases e;have h2:0 ≤ i ∧ i ≤ (y':Int):=by omega
      refine ⟨by simp [Instr.sliceBound,asIntOf,h2],by omega⟩
    · cases e
  · cases e

inductive OR (m:Map):Option Value → Option Value → Prop
  | none:OR m none none
  | some {v v'}:VR m v v' → OR m (some v) (some v')

theorem aBounds_run {len cap cap' l h mm:Nat} {low low' high high' max max':Option Value} {s:Bool} (hlow:OR m low low') (hhigh:OR m high high') (hmax:OR m max max')
    (hlc:len ≤ cap) (hcc:cap ≤ cap') (e:aBounds len cap low high max = some (l,h,mm)) :
    ∃ mm',(Instr.sliceBounds s len cap' low' high' max').run P w = .ok (l,h,mm') w ∧ l ≤ h ∧ h ≤ mm ∧ mm ≤ cap ∧ mm ≤ mm' ∧ mm' ≤ cap' ∧ (max = none → mm' = cap' ∧ mm = cap) ∧ (max ≠ none → mm' = mm) ∧ (cap = cap' → mm' = mm):=by
  unfold aBounds at e;cases hmax with
  | none =>
    simp only [] at e;cases hhigh with
    | none =>
      simp only [] at e;cases hlow with
      | none =>
        cases e;refine ⟨cap',?_,by omega,by omega,by omega,by omega,by omega,by simp,by simp,by omega⟩
        simp [Instr.sliceBounds]
      | some hv =>
        simp only [] at e;split at e
        · cases e
        · rename_i ll hll;cases e;obtain ⟨hr,hle⟩:=aBound_run (P:=P) (w:=w) (c:=if Option.isSome (none:Option Value) then .slice3C else .sliceB) hv hll (Nat.le_refl _)
          refine ⟨cap',?_,by omega,by omega,by omega,by omega,by omega,by simp,by simp,by omega⟩
          simp at hr;simp [Instr.sliceBounds,hr]
    | some hv2 =>
      simp only [] at e;split at e
      · cases e
      · rename_i hh hhh;have hr2:=fun c => aBound_run (P:=P) (w:=w) (c:=c) hv2 hhh hcc
        have hle2:=(hr2 .index).2;cases hlow with
        | none =>
          cases e;refine ⟨cap',?_,by omega,by omega,by omega,by omega,by omega,by simp,by simp,by omega⟩
          simp [Instr.sliceBounds,(hr2 _).1]
        | some hv =>
          simp only [] at e;split at e
          · cases e
          · rename_i ll hll;cases e;obtain ⟨hr,hle⟩:=aBound_run (P:=P) (w:=w) (c:=.sliceB) hv hll (Nat.le_refl _);refine ⟨cap',?_,by omega,by omega,by omega,by omega,by omega,by simp,by simp,by omega⟩
            simp [Instr.sliceBounds,(hr2 _).1,hr]
  | some hv3 =>
    simp only [] at e;split at e
    · cases e
    · rename_i mm0 hmm;have hr3:=fun c => aBound_run (P:=P) (w:=w) (c:=c) hv3 hmm hcc
      have hle3:=(hr3 .index).2;cases hhigh with
      | none => simp only [] at e; cases e
      | some hv2 =>
        simp only [] at e;split at e
        · cases e
        · rename_i hh hhh;have hr2:=fun c => aBound_run (P:=P) (w:=w) (c:=c) hv2 hhh (Nat.le_refl _)
          have hle2:=(hr2 .index).2;cases hlow with
          | none =>
            cases e;refine ⟨mm,?_,by omega,by omega,by omega,by omega,by omega,by simp,by simp,by omega⟩
            simp [Instr.sliceBounds,(hr2 _).1,(hr3 _).1]
          | some hv =>
            simp only [] at e;split at e
            · cases e
            · rename_i ll hll;cases e;obtain ⟨hr,hle⟩:=aBound_run (P:=P) (w:=w) (c:=.slice3C) hv hll (Nat.le_refl _);refine ⟨mm,?_,by omega,by omega,by omega,by omega,by omega,by simp,by simp,by omega⟩
              simp [Instr.sliceBounds,(hr2 _).1,hr,(hr3 _).1]

def aSlice (P:Program) (H:Heap) (t:TypeId) (x:Value) (low high max:Option Value):Option Value:=
  match P.underlying t,x with
  | some (.slice e),.slice (some ⟨r,o,none⟩) n c => match P.info? e,H.rows.get r with
    | some inf,some row => cond (Nat.ble n c) (match aBounds n c low high max with
      | some (l,h,mm) => cond row.exact
          (some (.slice (some ⟨r,cond (Nat.beq mm l) o (o + l * inf.size),none⟩) (h - l) (mm - l)))
          (cond (Nat.beq inf.size row.esz) (some (.slice (some ⟨r,o + l * inf.size,none⟩) (h - l) (mm - l))) none)
      | none => none) none
    | _,_ => none
  | some (.array n e),.pointer (some ⟨r,o,none⟩) => match P.info? e,H.rows.get r with
    | some inf,some row => cond row.exact (match aBounds n n low high max with
      | some (l,h,mm) => some (.slice (some ⟨r,cond (Nat.beq mm l) o (o + l * inf.size),none⟩) (h - l) (mm - l))
      | none => none) none
    | _,_ => none
  | _,_ => none

theorem if_eq_addr {b o l s mm:Nat}:(if mm = l then (⟨b,o,none⟩:Addr) else ⟨b,o + l * s,none⟩) = ⟨b,cond (Nat.beq mm l) o (o + l * s),none⟩:=by
  split
  · rename_i h; rw [Trie.beq_tt h]; rfl
  · rename_i h; rw [Trie.beq_ff h]; rfl
theorem cond_add {b:Bool} {a x y:Nat}:cond b (a + x) (a + y) = a + cond b x y:=by cases b <;> rfl

theorem aSlice_sound (h:HR n0 m H w) {t:TypeId} {x x' v:Value} {low low' high high' max max':Option Value} (hx:VR m x x')
    (hlow:OR m low low') (hhigh:OR m high high') (hmax:OR m max max') (e:aSlice P H t x low high max = some v) :
    ∃ v',(Instr.sliceAt t x' low' high' max').run P w = .ok v' w ∧ VR m v v':=by
  unfold aSlice at e;split at e
  · rename_i e' r o n c hu;obtain ⟨rm,o',c',hm,rfl,hc⟩:=hx.slice_inv;split at e
    · rename_i inf row hinf hrow;have hf:=h.rowOf hm hrow;cases hnc:Nat.ble n c with
      | false => rw [hnc] at e; cases e
      | true =>
        rw [hnc,cond_true] at e;have hnc:=Nat.le_of_ble_eq_true hnc;have hcc:c ≤ c':=by rcases hc with ⟨_,_,h1⟩ | ⟨_,_,h1,_⟩ <;> omega
        split at e
        · rename_i l hh mm hbo;obtain ⟨mm',hr,h1,h2,h3,h4,h5,h6,h7,h8⟩:=aBounds_run (P:=P) (w:=w) (s:=true) hlow hhigh hmax hnc hcc hbo;have hrun:(Instr.sliceAt t (.slice (some ⟨rm.blk,o',none⟩) n c') low' high' max').run P w = .ok (.slice (some (if mm' = l then ⟨rm.blk,o',none⟩ else ⟨rm.blk,o' + l * inf.size,none⟩)) (hh - l) (mm' - l)) w:=by
            simp only [Instr.sliceAt,Instr.slice,Sem.run_bind,run_underlying' hu,Result.andThen_ok,hr,run_sizeOf' hinf,Sem.run_pure];congr 2;split <;> simp [addr_add]
          refine ⟨_,hrun,?_⟩;cases hre:row.exact with
          | true =>
            rw [hre,cond_true] at e;cases e;rcases hc with ⟨he,rfl,rfl⟩ | ⟨he,_⟩
            · have hmm:=h8 rfl;subst hmm;rw [if_eq_addr];rw [show rm.sh + o + l * inf.size = rm.sh + (o + l * inf.size) by omega,cond_add]
              exact .sliceE hm he
            · rw [hf.ex,hre] at he; cases he
          | false =>
            rw [hre,cond_false] at e;cases hes:Nat.beq inf.size row.esz with
            | false => rw [hes] at e; cases e
            | true =>
              rw [hes,cond_true] at e;cases e;have hes:=Nat.eq_of_beq_eq_true hes;rcases hc with ⟨he,_⟩ | ⟨he,ha,hb,hd⟩
              · rw [hf.ex,hre] at he; cases he
              · have hres:rm.esz = inf.size:=by rw [hf.es,hes]
                by_cases hml:mm' = l
                · rw [if_pos hml];exact .sliceL hm he (by omega) (by omega) (.inr (by omega))
                · rw [if_neg hml];refine .sliceL hm he (by omega) (by omega) ?_
                  rcases hd with ⟨hd1,hd2⟩ | hd
                  · left;refine ⟨by omega,?_⟩
                    rw [hres] at hd2 ⊢;have:l * inf.size + (mm' - l) * inf.size = mm' * inf.size:=by rw [← Nat.add_mul]; congr 1; omega
                    have:mm' * inf.size ≤ c' * inf.size:=Nat.mul_le_mul_right _ h5;omega
                  · exact absurd (by omega:mm' = l) hml
        · cases e
    · cases e
  · rename_i n e' r o hu;obtain ⟨rm,hm,rfl⟩:=hx.ptr_inv;split at e
    · rename_i inf row hinf hrow;have hf:=h.rowOf hm hrow;cases hre:row.exact with
      | false => rw [hre] at e; cases e
      | true =>
        rw [hre,cond_true] at e;split at e
        · rename_i l hh mm hbo;cases e;obtain ⟨mm',hr,h1,h2,h3,h4,h5,h6,h7,h8⟩:=aBounds_run (P:=P) (w:=w) (s:=false) hlow hhigh hmax (Nat.le_refl n) (Nat.le_refl n) hbo;have hmm:=h8 rfl;subst hmm;refine ⟨.slice (some ⟨rm.blk,rm.sh + cond (Nat.beq mm' l) o (o + l * inf.size),none⟩) (hh - l) (mm' - l),?_,.sliceE hm (by rw [hf.ex,hre])⟩
          simp only [Instr.sliceAt,Sem.run_bind,run_underlying' hu,Result.andThen_ok,Instr.sureAddr,Sem.run_pure,hr,run_sizeOf' hinf,addr_add];rw [if_eq_addr,show rm.sh + o + l * inf.size = rm.sh + (o + l * inf.size) by omega,cond_add]
        · cases e
    · cases e
  · cases e

end Go.AM

namespace Go.AM
open Go.RowKit (Below)

variable {P:Program} {n0:Nat} {m:Map} {H:Heap} {w:World}

theorem plain_agg {l:List Value} (h:plain (.agg ⟨l⟩) = true):plains l = true:=by simpa [plain,plainA] using h
theorem plain_tuple {l:List Value} (h:plain (.tuple ⟨l⟩) = true):plains l = true:=by simpa [plain,plainA] using h

theorem VR.agg_inv {l:List Value} {v':Value} (h:VR m (.agg ⟨l⟩) v'):∃ l',v' = .agg ⟨l'⟩ ∧ VRs m l l':=by
  cases h with
  | plain h => exact ⟨l,rfl,VRs.of_plain (plain_agg h)⟩
  | agg h => exact ⟨_,rfl,h⟩
theorem VR.tuple_inv {l:List Value} {v':Value} (h:VR m (.tuple ⟨l⟩) v'):∃ l',v' = .tuple ⟨l'⟩ ∧ VRs m l l':=by
  cases h with
  | plain h => exact ⟨l,rfl,VRs.of_plain (plain_tuple h)⟩
  | tuple h => exact ⟨_,rfl,h⟩
theorem VR.iface_inv {t:TypeId} {v v':Value} (h:VR m (.iface t v) v'):∃ u,v' = .iface t u ∧ VR m v u:=by
  cases h with
  | plain h => exact ⟨v,rfl,.plain (by simpa [AM.plain] using h)⟩
  | iface h => exact ⟨_,rfl,h⟩
theorem VR.yield_inv {l:Nat} {v':Value} (h:VR m (.func (.yield l) ⟨[]⟩ ⟨[]⟩) v'):∃ rm,m l = some rm ∧ v' = .func (.yield rm.blk) ⟨[]⟩ ⟨[]⟩:=by
  cases h with
  | plain h => simp [AM.plain,notYield] at h
  | yield h => exact ⟨_,h,rfl⟩
  | func h _ _ => simp [notYield] at h
theorem VR.func_inv {fn:Fn} (hfn:notYield fn = true) {a b:List Value} {v':Value} (h:VR m (.func fn ⟨a⟩ ⟨b⟩) v'):∃ a' b',v' = .func fn ⟨a'⟩ ⟨b'⟩ ∧ VRs m a a' ∧ VRs m b b':=by
  cases h with
  | plain h =>
    simp only [AM.plain,plainA,Bool.and_eq_true] at h;exact ⟨a,b,rfl,VRs.of_plain h.2.1,VRs.of_plain h.2.2⟩
  | func _ h k => exact ⟨_,_,rfl,h,k⟩
  | yield _ => simp [notYield] at hfn

/-! Parts of aggregates. -/

def aPart (P:Program) (t:TypeId) (l:List Value) (off:Nat):Option Value:=match P.underlying t,P.info? t with
  | some d,some i => cond (isAggD d) (some (.agg ⟨(l.drop off).take i.size⟩)) l[off]?
  | _,_ => none

theorem aPart_sound {t:TypeId} {l l':List Value} {off:Nat} {v:Value} (hl:VRs m l l') (e:aPart P t l off = some v) :
    ∃ v',(part t ⟨l'⟩ off).run P w = .ok v' w ∧ VR m v v':=by
  unfold aPart at e;split at e
  · rename_i d i hd hi;cases hg:isAggD d with
    | true =>
      rw [hg,cond_true] at e;cases e;refine ⟨.agg ⟨(l'.drop off).take i.size⟩,?_,.agg ((hl.drop off).take i.size)⟩;simp only [part,Sem.run_bind,run_isAgg' hd,hg,Result.andThen_ok,if_true,run_sizeOf' hi,Sem.run_pure];congr 2;apply Array.ext';simp [List.take_drop]
    | false =>
      rw [hg,cond_false] at e;obtain ⟨v',hv',hv⟩:=hl.get _ _ e;refine ⟨v',?_,hv⟩;simp [part,run_isAgg' hd,hg,hv']
  · cases e

def aField (P:Program) (t:TypeId) (x:Value) (f:Nat):Option Value:=match P.underlying t,x with
  | some (.struct fields),.agg ⟨l⟩ => (fields[f]?).bind fun fd => aPart P fd.type l fd.offset
  | _,_ => none

theorem aField_sound {t:TypeId} {x x' v:Value} {f:Nat} (hx:VR m x x') (e:aField P t x f = some v) :
    ∃ v',(Instr.field t x' f).run P w = .ok v' w ∧ VR m v v':=by
  unfold aField at e;split at e
  · rename_i fields l hu;obtain ⟨l',rfl,hl⟩:=hx.agg_inv;simp only [Option.bind_eq_some_iff] at e;obtain ⟨fd,hfd,e⟩:=e;obtain ⟨v',hr,hv⟩:=aPart_sound (w:=w) hl e;exact ⟨v',by simp [Instr.field,run_underlying' hu,hfd,asAgg,hr],hv⟩
  · cases e

def aIndex (P:Program) (t:TypeId) (x ix:Value):Option Value:=match P.underlying t,x,ix with
  | some (.array n e),.agg ⟨l⟩,.int _ i => (P.info? e).bind fun inf => if 0 ≤ i ∧ i < (n:Int) then aPart P e l (i.toNat * inf.size) else none
  | some .string,.string s,.int _ i => if 0 ≤ i then (s[i.toNat]?).map fun b => .int .u8 b.toNat else none
  | _,_,_ => none

theorem aIndex_sound {t:TypeId} {x x' ix ix' v:Value} (hx:VR m x x') (hi:VR m ix ix') (e:aIndex P t x ix = some v) :
    ∃ v',(Instr.index t x' ix').run P w = .ok v' w ∧ VR m v v':=by
  unfold aIndex at e;split at e
  · rename_i n e' l k i hu;obtain ⟨l',rfl,hl⟩:=hx.agg_inv;rw [hi.int_inv];simp only [Option.bind_eq_some_iff] at e;obtain ⟨inf,hinf,e⟩:=e;split at e
    · rename_i hb;obtain ⟨v',hr,hv⟩:=aPart_sound (w:=w) hl e;exact ⟨v',by simp [Instr.index,asIntOf,run_underlying' hu,hb,run_sizeOf' hinf,hr],hv⟩
    · cases e
  · rename_i s k i hu;rw [hi.int_inv,hx.eq_of_plain rfl];split at e
    · rename_i hb;simp only [Option.map_eq_some_iff] at e;obtain ⟨b,hb2,rfl⟩:=e;exact ⟨_,by simp [Instr.index,asIntOf,run_underlying' hu,hb,hb2],.plain rfl⟩
    · cases e
  · cases e

def aExtract (x:Value) (i:Nat):Option Value:=match x with
  | .tuple ⟨l⟩ => l[i]?
  | _ => none

theorem aExtract_sound {x x' v:Value} {i:Nat} (hx:VR m x x') (e:aExtract x i = some v):∃ v',(Instr.extract x' i).run P w = .ok v' w ∧ VR m v v':=by
  unfold aExtract at e;split at e
  · rename_i l;obtain ⟨l',rfl,hl⟩:=hx.tuple_inv;obtain ⟨v',hv',hv⟩:=hl.get _ _ e;exact ⟨v',by simp [Instr.extract,hv'],hv⟩
  · cases e

/-! Interfaces. -/

def aMakeI (P:Program) (t:TypeId) (x:Value):Option Value:=match P.underlying t with
  | some (.interface _) => none
  | some _ => some (.iface t x)
  | none => none

theorem aMakeI_sound {t:TypeId} {x x' v:Value} (hx:VR m x x') (e:aMakeI P t x = some v):∃ v',(Instr.makeInterface t x').run P w = .ok v' w ∧ VR m v v':=by
  unfold aMakeI at e;split at e
  · cases e
  · rename_i d hne hu;cases e;refine ⟨.iface t x',run_makeInterface w t x' ?_,.iface hx⟩;unfold Program.concrete;rw [hu];cases d <;> simp_all
  · cases e

def aAssert (P:Program) (x:Value) (asserted:TypeId) (ok:Bool):Option Value:=match x,P.underlying asserted with
  | .iface t v,some (.interface want) => match P.info? t with
    | some inf => match Instr.missingMethod want inf.methods with
      | none => some (cond ok (.tuple ⟨[x,.bool true]⟩) x)
      | some _ => cond ok (match (P.info? asserted).bind (·.zero) with
        | some z => cond (plain z) (some (.tuple ⟨[z,.bool false]⟩)) none
        | none => none) none
    | none => none
  | .iface t v,some _ => cond (Nat.beq t asserted) (some (cond ok (.tuple ⟨[v,.bool true]⟩) v))
      (cond ok (match (P.info? asserted).bind (·.zero) with
        | some z => cond (plain z) (some (.tuple ⟨[z,.bool false]⟩)) none
        | none => none) none)
  | _,_ => none

theorem aAssert_sound {x x' v:Value} {xT t:TypeId} {ok:Bool} (hx:VR m x x') (e:aAssert P x t ok = some v) :
    ∃ v',(Instr.typeAssert x' xT t ok).run P w = .ok v' w ∧ VR m v v':=by
  unfold aAssert at e;split at e
  · rename_i tx u want hu;obtain ⟨u',rfl,hu'⟩:=hx.iface_inv;split at e
    · rename_i inf hinf;split at e
      · rename_i hmm;cases e;cases ok
        · exact ⟨_,by simp [Instr.typeAssert,run_underlying' hu,run_typeInfo' hinf,hmm],hx⟩
        · exact ⟨.tuple ⟨[.iface tx u',.bool true]⟩,by simp [Instr.typeAssert,run_underlying' hu,run_typeInfo' hinf,hmm],.tuple (.cons hx (.cons .bool .nil))⟩
      · rename_i s hmm;cases ok
        · cases e
        · rw [cond_true] at e;split at e
          · rename_i z hz;simp only [Option.bind_eq_some_iff] at hz;obtain ⟨i,hi,hz⟩:=hz;cases hp:plain z with
            | false => rw [hp] at e; cases e
            | true =>
              rw [hp,cond_true] at e;cases e;exact ⟨.tuple ⟨[z,.bool false]⟩,by simp [Instr.typeAssert,run_underlying' hu,run_typeInfo' hinf,hmm,run_zero' hi hz],.tuple (.cons (.plain hp) (.cons .bool .nil))⟩
          · cases e
    · cases e
  · rename_i tx u d hne hu;obtain ⟨u',rfl,hu'⟩:=hx.iface_inv
    have hrun:∀ ok,(Instr.typeAssert (.iface tx u') xT t ok).run P w = (if tx = t then (pure (if ok then .tuple #[u',.bool true] else u'):Sem Value)
        else (if ok then (do pure (.tuple #[← zeroValue t,.bool false])) else runtimePanic (.typeAssertion (some xT) (some tx) t ""))).run P w:=by
      intro ok;simp only [Instr.typeAssert,Sem.run_bind,run_underlying' hu,Result.andThen_ok]
    cases hb:Nat.beq tx t with
    | true =>
      have:=Nat.eq_of_beq_eq_true hb;rw [hb,cond_true] at e;cases e;cases ok
      · exact ⟨u',by rw [hrun,if_pos this]; rfl,hu'⟩
      · exact ⟨.tuple ⟨[u',.bool true]⟩,by rw [hrun,if_pos this]; rfl,.tuple (.cons hu' (.cons .bool .nil))⟩
    | false =>
      rw [hb,cond_false] at e;have hne2:tx ≠ t:=fun q => by rw [q] at hb; simp at hb
      cases ok
      · cases e
      · rw [cond_true] at e;split at e
        · rename_i z hz;simp only [Option.bind_eq_some_iff] at hz;obtain ⟨i,hi,hz⟩:=hz;cases hp:plain z with
          | false => rw [hp] at e; cases e
          | true =>
            rw [hp,cond_true] at e;cases e;exact ⟨.tuple ⟨[z,.bool false]⟩,by rw [hrun,if_neg hne2]; simp [run_zero' hi hz],.tuple (.cons (.plain hp) (.cons .bool .nil))⟩
        · cases e
  · cases e

/-! Comparisons with nil. -/

def aIsNilCmp (P:Program) (t:TypeId) (x y:Value):Bool:=match P.underlying t,x,y with
  | some (.pointer _),.pointer (some _),.pointer none => true
  | some (.pointer _),.pointer none,.pointer (some _) => true
  | some (.slice _),.slice (some _) _ _,.slice none _ _ => true
  | some (.slice _),.slice none _ _,.slice (some _) _ _ => true
  | some (.func _ _ _),.func _ _ _,.nilFunc => true
  | some (.func _ _ _),.nilFunc,.func _ _ _ => true
  | some (.interface _),.iface _ _,.nilIface => true
  | some (.interface _),.nilIface,.iface _ _ => true
  | _,_,_ => false

def aCmpNil (P:Program) (op:BinOp) (t:TypeId) (x y:Value):Option Value:=match op with
  | .eql => cond (aIsNilCmp P t x y) (some (.bool false)) none
  | .neq => cond (aIsNilCmp P t x y) (some (.bool true)) none
  | _ => none

set_option maxHeartbeats 1000000 in
theorem isNil_run {t:TypeId} {x x' y y':Value} (hx:VR m x x') (hy:VR m y y') (e:aIsNilCmp P t x y = true) (d:Nat) :
    (Op.equalIn (d + 1) t x' y').run P w = .ok false w ∧ (∀ op a b,(eqGuard op t a b x' y').run P w = .ok () w) ∧
    (∀ op,op = .eql ∨ op = .neq → binOp op t x' y' = (match op with | .eql => (do pure (.bool (← Op.equal t x' y'))) | _ => (do pure (.bool (!(← Op.equal t x' y')))))):=by
  unfold aIsNilCmp at e;split at e;all_goals first | (cases e; done) | skip
  all_goals
    rename_i hu;cases hx with
    | plain hp => cases hy with
      | plain hq => simp [AM.plain] at hp hq <;> (refine ⟨by simp [Op.equalIn,run_underlying' hu],fun op a b => by cases op <;> simp [eqGuard],fun op ho => by rcases ho with rfl | rfl <;> rfl⟩)
      | _ => (refine ⟨by simp [Op.equalIn,run_underlying' hu],fun op a b => by cases op <;> simp [eqGuard],fun op ho => by rcases ho with rfl | rfl <;> rfl⟩)
    | _ => cases hy with
      | plain hq => (refine ⟨by simp [Op.equalIn,run_underlying' hu],fun op a b => by cases op <;> simp [eqGuard],fun op ho => by rcases ho with rfl | rfl <;> rfl⟩)

theorem aCmpNil_sound {op:BinOp} {t:TypeId} {x x' y y' v:Value} {a b:Operand} (hx:VR m x x') (hy:VR m y y') (e:aCmpNil P op t x y = some v) :
    ∃ v',(do eqGuard op t a b x' y'; binOp op t x' y':Sem Value).run P w = .ok v' w ∧ VR m v v':=by
  unfold aCmpNil at e;cases hb:aIsNilCmp P t x y with
  | false => rw [hb] at e; cases op <;> cases e
  | true =>
    rw [hb] at e;obtain ⟨h1,h2,h3⟩:=isNil_run (w:=w) hx hy hb 9999;have h1':(Op.equal t x' y').run P w = .ok false w:=h1;cases op <;> first | (cases e; done) | skip
    · cases e;refine ⟨.bool false,?_,.bool⟩;rw [Sem.run_bind,h2];simp only [Result.andThen_ok];rw [h3 .eql (.inl rfl)];simp [h1']
    · cases e;refine ⟨.bool true,?_,.bool⟩;rw [Sem.run_bind,h2];simp only [Result.andThen_ok];rw [h3 .neq (.inr rfl)];simp [h1']

end Go.AM

namespace Go.AM
open Go.RowKit (Below)

variable {P:Program} {n0:Nat} {m:Map} {H:Heap} {w:World}

/-! make,composite literals. -/

def zeroRow (zs:List Value) (n:Nat):List Value:=match zs with
  | [x] => List.replicate n x
  | _ => (List.range n).map fun j => (zs[j % zs.length]?).getD default

theorem zeroRow_eq (zs:List Value) (n:Nat):((Array.range n).map (fun j => (zs.toArray)[j % zs.toArray.size]!)) = (zeroRow zs n).toArray:=by
  have h:((Array.range n).map (fun j => (zs.toArray)[j % zs.toArray.size]!)) = ((List.range n).map fun j => (zs[j % zs.length]?).getD default).toArray:=by
    apply Array.ext';simp
  rw [h];unfold zeroRow;split
  · rename_i x;congr 1;apply List.ext_getElem?;intro j
    by_cases hj:j < n
    · simp [hj,Nat.mod_one]
    · simp [hj]
  · rfl

theorem zeroRow_length (zs:List Value) (n:Nat):(zeroRow zs n).length = n:=by unfold zeroRow; split <;> simp

theorem plains_mem:∀ {l},plains l = true → ∀ v ∈ l,plain v = true
  | x :: l,h,v,hv => by
    simp only [plains,Bool.and_eq_true] at h;rcases List.mem_cons.1 hv with rfl | hv
    · exact h.1
    · exact plains_mem h.2 v hv
theorem plains_of:∀ {l},(∀ v ∈ l,plain v = true) → plains l = true
  | [],_ => rfl
  | x :: l,h => by simp only [plains,Bool.and_eq_true]; exact ⟨h x (by simp),plains_of fun v hv => h v (by simp [hv])⟩

theorem plains_cells {z:Value} (h:plain z = true):plains z.cells.toList = true:=by
  cases z with
  | agg cs => cases cs; exact plain_agg h
  | _ => simp only [Value.cells,plains,Bool.and_true]; exact h

theorem zeroRow_zero (zs:List Value):zeroRow zs 0 = []:=by unfold zeroRow; split <;> simp

theorem zeroRow_plain {zs:List Value} {n:Nat} (h:plains zs = true) (hn:zs ≠ [] ∨ n = 0):plains (zeroRow zs n) = true:=by
  apply plains_of;intro v hv;unfold zeroRow at hv;split at hv
  · rename_i x;rw [List.eq_of_mem_replicate hv];exact plains_mem h _ (by simp)
  · simp only [List.mem_map,List.mem_range] at hv;obtain ⟨j,hj,rfl⟩:=hv;have hz:zs ≠ []:=hn.resolve_right (by omega)
    have hl:0 < zs.length:=List.length_pos_iff.2 hz;have:j % zs.length < zs.length:=Nat.mod_lt _ hl;rw [List.getElem?_eq_getElem this];exact plains_mem h _ (by simp)

def small (n bytes:Nat):Bool:=Nat.ble n 268435456 && Nat.ble bytes 65536

theorem small_le {n b:Nat} (h:small n b = true):n ≤ 268435456 ∧ b ≤ 65536:=by
  unfold small at h;simp only [Bool.and_eq_true] at h;exact ⟨Nat.le_of_ble_eq_true h.1,Nat.le_of_ble_eq_true h.2⟩
theorem small_mul {n b:Nat} (h:small n b = true):n * b ≤ 17592186044416:=by
  obtain ⟨h1,h2⟩:=small_le h;exact Nat.le_trans (Nat.mul_le_mul h1 h2) (by decide)

def aMakeSlice (P:Program) (H:Heap) (t:TypeId) (len cap:Value):Option (Value × Heap):=match len,cap,P.underlying t with
  | .int _ l,.int _ c,some (.slice e) => match P.info? e with
    | some inf => match inf.zero with
      | some z => if 0 ≤ l ∧ l ≤ c then
          cond (small c.toNat inf.bytes && (plain z && (Nat.beq z.cells.toList.length inf.size))) (some (.slice (some ⟨H.size,0,none⟩) l.toNat c.toNat,H.newExact (zeroRow z.cells.toList (c.toNat * inf.size)) e)) none
        else none
      | none => none
    | none => none
  | _,_,_ => none

theorem aMakeSlice_sound (h:HR n0 m H w) {t:TypeId} {len len' cap cap' v:Value} {H':Heap} (hl:VR m len len') (hc:VR m cap cap') (e:aMakeSlice P H t len cap = some (v,H')) :
    Sim P n0 m H w (Instr.makeSlice t len' cap') v H':=by
  unfold aMakeSlice at e;split at e
  · rename_i k l k' c e' hu;rw [hl.int_inv,hc.int_inv];split at e
    · rename_i inf hinf;split at e
      · rename_i z hz;split at e
        · rename_i hlc;cases hb:(small c.toNat inf.bytes && (plain z && (Nat.beq z.cells.toList.length inf.size))) with
          | false => rw [hb] at e; cases e
          | true =>
            rw [hb,cond_true] at e;cases e;simp only [Bool.and_eq_true] at hb;obtain ⟨hs,hp,hsz⟩:=hb;have hsz:=Nat.eq_of_beq_eq_true hsz;obtain ⟨hs1,_⟩:=small_le hs;have hs2:=small_mul hs;have hwc:IntKind.i64.wrap c = c:=IntWalk.i64_in c (by omega)
            have hwl:IntKind.i64.wrap l = l:=IntWalk.i64_in l (by omega)
            have hbig:¬ (inf.bytes:Int) * c > 2 ^ 48:=by
              have:((c.toNat * inf.bytes:Nat):Int) ≤ 17592186044416:=by
                have:=Int.ofNat_le.2 hs2
                simpa using this
              rw [Int.natCast_mul,Int.toNat_of_nonneg (by omega)] at this
              rw [Int.mul_comm];have h48:(2:Int) ^ 48 = 281474976710656:=by decide
              rw [h48]; omega
            have hplain:plains (zeroRow z.cells.toList (c.toNat * inf.size)) = true:=by
              apply zeroRow_plain (plains_cells hp)
              by_cases h0:inf.size = 0
              · right; rw [h0,Nat.mul_zero]
              · left; intro hnil; rw [hnil] at hsz; exact h0 hsz.symm
            obtain ⟨hext,hf⟩:=newExact_sound h (VRs.of_plain (m:=m) hplain) e';refine ⟨.slice (some ⟨w.heap.size,0,none⟩) l.toNat c.toNat,_,_,?_,hext,?_,hf⟩
            · have hneg:¬ c < 0:=by omega
              have hneg2:¬ l < 0:=by omega
              have hgt:¬ l > c:=by omega
              have hbig':¬ (281474976710656:Int) < (inf.bytes:Int) * c:=by
                have h48:(2:Int) ^ 48 = 281474976710656:=by decide
                rw [← h48]; exact hbig
              have hgt':¬ c < l:=by omega
              simp only [Instr.makeSlice,asInt,asIntOf,Sem.run_bind,run_underlying' hu,Result.andThen_ok,Sem.run_pure,run_typeInfo' hinf,hwc,hwl];simp only [hneg,hneg2,hgt',decide_false,hbig',Bool.or_false,Bool.false_eq_true,if_false,Int.reducePow,gt_iff_lt,Sem.run_bind,run_askRoom,Result.andThen_ok,run_sizeOf' hinf]
              by_cases h0:c.toNat * inf.size = 0
              · simp only [h0,if_true,Sem.run_bind,Sem.run_pure,Result.andThen_ok,newRow,run_newObj,zeroRow_zero];have hr0:(Array.map (fun x => (#[] : Array Value)[x % (#[] : Array Value).size]!) (Array.range 0)) = #[]:=by simp
                rw [hr0];rfl
              · simp only [h0,if_false,Sem.run_bind,Sem.run_pure,Result.andThen_ok,newRow,run_newObj,run_zero' hinf hz];rw [← zeroRow_eq];rfl
            · exact .sliceE (rm:=⟨w.heap.size,0,_,0,true,false⟩) (Map.put_same _ _ _) rfl
        · cases e
      · cases e
    · cases e
  · cases e

/-! Filling in parts. -/

def aFill (place:Nat → Option (Nat × Nat)) (cells:List Value):List (Nat × Value) → Option (List Value)
  | [] => some cells
  | (i,v) :: rest => match place i with
    | none => none
    | some (off,size) => cond (Nat.beq v.cells.toList.length size && Nat.ble (off + v.cells.toList.length) cells.length) (aFill place (splice cells off v.cells.toList) rest) none

inductive PR (m:Map):List (Nat × Value) → List (Nat × Value) → Prop
  | nil:PR m [] []
  | cons {i v v' l l'}:VR m v v' → PR m l l' → PR m ((i,v) :: l) ((i,v') :: l')

theorem foldl_set:∀ (vs:List Value) (k off:Nat) (cs:Array Value),off + k + vs.length ≤ cs.size →
    ((vs.zipIdx k).foldl (fun (cs:Array Value) x => cs.setIfInBounds (off + x.2) x.1) cs).toList = splice cs.toList (off + k) vs
  | [],k,off,cs,_ => by simp [splice]
  | v :: vs,k,off,cs,h => by
    simp only [List.length_cons] at h;rw [List.zipIdx_cons,List.foldl_cons,foldl_set vs (k + 1) off _ (by simp; omega)]
    unfold splice;simp only [Array.toList_setIfInBounds];have e:=list_seg_step cs.toList (off + k) v vs (by simp; omega)
    simpa [Nat.add_assoc,Nat.add_comm,Nat.add_left_comm] using e

theorem VRs.splice {a a' vs vs':List Value} {off:Nat} (h:VRs m a a') (hv:VRs m vs vs'):VRs m (splice a off vs) (splice a' off vs'):=by
  unfold AM.splice;rw [← hv.length];exact (h.take off).append (hv.append (h.drop _))

theorem aFill_sound {place:Nat → Option (Nat × Nat)}:∀ {parts parts':List (Nat × Value)} {cells cells' l:List Value},PR m parts parts' → VRs m cells cells' → aFill place cells parts = some l →
    ∃ l',Instr.fill place cells'.toArray parts' = some l'.toArray ∧ VRs m l l'
  | _,_,cells,cells',l,.nil,hc,e => by cases e; exact ⟨cells',rfl,hc⟩
  | _,_,cells,cells',l,.cons (i:=i) (v:=v) (v':=v') hv hp,hc,e => by
    unfold aFill at e;cases hpl:place i with
    | none => rw [hpl] at e; cases e
    | some os =>
      obtain ⟨off,size⟩:=os;rw [hpl] at e;simp only [] at e;cases hb:(Nat.beq v.cells.toList.length size && Nat.ble (off + v.cells.toList.length) cells.length) with
      | false => rw [hb] at e; cases e
      | true =>
        rw [hb,cond_true] at e;simp only [Bool.and_eq_true] at hb;have h1:=Nat.eq_of_beq_eq_true hb.1;have h2:=Nat.le_of_ble_eq_true hb.2;have hvc:=hv.cells;have hlen:=hvc.length;have hcl:=hc.length;obtain ⟨l',hf,hl⟩:=aFill_sound hp (hc.splice (off:=off) hvc) e;refine ⟨l',?_,hl⟩;unfold Instr.fill;simp only [hpl];have hsz:v'.cells.size = size:=by rw [← h1,hlen]; simp
        have hle:¬ off + v'.cells.size > cells'.toArray.size:=by simp; simp at hlen; omega
        rw [if_neg (by simp only [hsz,ne_eq,not_true_eq_false,decide_false,Bool.false_or,decide_eq_true_eq]; rw [← hsz]; exact hle)]
        rw [← hf];congr 1;apply Array.ext';have:=foldl_set v'.cells.toList 0 off cells'.toArray (by simp; simp at hlen; omega)
        simp only [Nat.add_zero] at this;rw [← this,← Array.foldl_toList];simp only [Array.toList_zipIdx]

def aBuild (P:Program) (t:TypeId) (parts:List (Nat × Value)):Option Value:=match P.info? t,P.underlying t with
  | some it,some (.array _ e) => match it.zero,P.info? e with
    | some z,some ie => cond (plain z) ((aFill (fun i => some (i * ie.size,ie.size)) z.cells.toList parts).map fun l => .agg ⟨l⟩) none
    | _,_ => none
  | some it,some (.struct fields) => match it.zero,fields.toList.mapM (fun f => (P.info? f.type).map fun i => (f.offset,i.size)) with
    | some z,some places => cond (plain z) ((aFill (fun i => places[i]?) z.cells.toList parts).map fun l => .agg ⟨l⟩) none
    | _,_ => none
  | _,_ => none

theorem aBuild_sound {t:TypeId} {parts:List (Nat × Value)} {parts':Array (Nat × Value)} {v:Value} (hp:PR m parts parts'.toList) (e:aBuild P t parts = some v) :
    ∃ v',(Instr.build t parts').run P w = .ok v' w ∧ VR m v v':=by
  unfold aBuild at e;split at e
  · rename_i it n e' hit hu;split at e
    · rename_i z ie hz hie;cases hpz:plain z with
      | false => rw [hpz] at e; cases e
      | true =>
        rw [hpz,cond_true,Option.map_eq_some_iff] at e;obtain ⟨l,hl,rfl⟩:=e;obtain ⟨l',hf,hv⟩:=aFill_sound hp (VRs.of_plain (plains_cells hpz)) hl;refine ⟨.agg ⟨l'⟩,run_build w t parts' l'.toArray ?_,.agg hv⟩;unfold Program.built;simp only [hit,hu,hz,hie]
        simpa using hf
    · cases e
  · rename_i it fields hit hu;split at e
    · rename_i z places hz hpl;cases hpz:plain z with
      | false => rw [hpz] at e; cases e
      | true =>
        rw [hpz,cond_true,Option.map_eq_some_iff] at e;obtain ⟨l,hl,rfl⟩:=e;obtain ⟨l',hf,hv⟩:=aFill_sound hp (VRs.of_plain (plains_cells hpz)) hl;refine ⟨.agg ⟨l'⟩,run_build w t parts' l'.toArray ?_,.agg hv⟩;unfold Program.built;simp only [hit,hu,hz,hpl]
        simpa using hf
    · cases e
  · cases e

def aBuildSlice (P:Program) (H:Heap) (t:TypeId) (len:Nat) (parts:List (Nat × Value)):Option (Value × Heap):=match P.underlying t with
  | some (.slice e) => match P.info? e with
    | some inf => match inf.zero with
      | some z => cond (plain z && (Nat.beq z.cells.toList.length inf.size && Nat.ble (len * inf.size) 100000))
          ((aFill (fun i => some (i * inf.size,inf.size)) (zeroRow z.cells.toList (len * inf.size)) parts).map fun l => (.slice (some ⟨H.size,0,none⟩) len len,H.newExact l e)) none
      | none => none
    | none => none
  | _ => none

theorem aBuildSlice_sound (h:HR n0 m H w) {t:TypeId} {len:Nat} {parts:List (Nat × Value)} {parts':Array (Nat × Value)} {v:Value} {H':Heap} (hp:PR m parts parts'.toList)
    (e:aBuildSlice P H t len parts = some (v,H')):Sim P n0 m H w (Instr.buildSlice t len parts') v H':=by
  unfold aBuildSlice at e;split at e
  · rename_i e' hu;split at e
    · rename_i inf hinf;split at e
      · rename_i z hz;cases hb:(plain z && (Nat.beq z.cells.toList.length inf.size && Nat.ble (len * inf.size) 100000)) with
        | false => rw [hb] at e; cases e
        | true =>
          rw [hb,cond_true,Option.map_eq_some_iff] at e;obtain ⟨l,hl,hv⟩:=e;cases hv;simp only [Bool.and_eq_true] at hb;obtain ⟨hpz,hsz,hle⟩:=hb;have hsz:=Nat.eq_of_beq_eq_true hsz;have hle:=Nat.le_of_ble_eq_true hle;have hplain:plains (zeroRow z.cells.toList (len * inf.size)) = true:=by
            apply zeroRow_plain (plains_cells hpz)
            by_cases h0:inf.size = 0
            · right; rw [h0,Nat.mul_zero]
            · left; intro hnil; rw [hnil] at hsz; exact h0 hsz.symm
          obtain ⟨l',hf,hvl⟩:=aFill_sound hp (VRs.of_plain hplain) hl;obtain ⟨hext,hff⟩:=newExact_sound h hvl e';refine ⟨.slice (some ⟨w.heap.size,0,none⟩) len len,_,_,?_,hext,.sliceE (rm:=⟨w.heap.size,0,_,0,true,false⟩) (Map.put_same _ _ _) rfl,hff⟩;have hbig:¬ 2 ^ 24 < len * inf.size:=by omega
          simp only [Instr.buildSlice,Sem.run_bind,run_underlying' hu,Result.andThen_ok,run_sizeOf' hinf,Sem.run_pure,gt_iff_lt,hbig,if_false]
          by_cases h0:len * inf.size = 0
          · rw [h0,zeroRow_zero] at hf;have hf':Instr.fill (fun i => some (i * inf.size,inf.size)) #[] parts'.toList = some l'.toArray:=hf
            simp only [h0,if_true,Sem.run_bind,Sem.run_pure,Result.andThen_ok];have hr0:(Array.map (fun x => (#[] : Array Value)[x % (#[] : Array Value).size]!) (Array.range 0)) = #[]:=by simp
            rw [hr0,hf'];rfl
          · have hr0:(Array.map (fun x => z.cells[x % z.cells.size]!) (Array.range (len * inf.size))) = (zeroRow z.cells.toList (len * inf.size)).toArray:=by
              rw [← zeroRow_eq]
            simp only [h0,if_false,Sem.run_bind,Sem.run_pure,Result.andThen_ok,run_zero' hinf hz];rw [hr0,hf];rfl
      · cases e
    · cases e
  · cases e

end Go.AM
