/- A general tool, which names no program: what must be shown of a piece of code for symbolic values, on the canonical machine; each rule proved. -/
import Derived.Test.YtimbciadadjhiaaDoorSx5
set_option linter.unusedVariables false
set_option linter.unusedSimpArgs false
set_option linter.unusedSectionVars false
namespace Go.AM

/-! The same equations with what comes after held back: the simplifier does not look into it before its time. -/

inductive Blk {α : Type} (a : α) : Type where
  | mk

variable {P : Program} {S : Sys} {N : Nat}

def sxOptB {α : Type} (x : Option α) (K : α → Prop) (_ : Blk K) : Prop := sxOpt x K
theorem sxOptB_some {α : Type} (v : α) (K : α → Prop) (b : Blk K) : sxOptB (some v) K b = K v := sxOpt_some v K
theorem sxOptB_ite {α : Type} (c : Prop) [Decidable c] (v : α) (K : α → Prop) (b : Blk K) : sxOptB (if c then some v else none) K b = (c ∧ K v) := sxOpt_ite c v K
theorem sxOptB_of {α : Type} {x : Option α} {v : α} {K : α → Prop} {b : Blk K} (h : x = some v) (k : K v) : sxOptB x K b := ⟨v, h, k⟩

theorem una_nt : una .not (.bool true) = some (.bool false) := rfl
theorem una_nf : una .not (.bool false) = some (.bool true) := rfl

def sxGuardB (w : Bool) (v : Value) (X Y : Prop) (_ : Blk (X, Y)) : Prop := sxGuard w v X Y
theorem sxGuardB_tt (X Y : Prop) (b : Blk (X, Y)) : sxGuardB true (.bool true) X Y b = X := sxGuard_tt X Y
theorem sxGuardB_tf (X Y : Prop) (b : Blk (X, Y)) : sxGuardB true (.bool false) X Y b = Y := sxGuard_tf X Y
theorem sxGuardB_ft (X Y : Prop) (b : Blk (X, Y)) : sxGuardB false (.bool true) X Y b = Y := sxGuard_ft X Y
theorem sxGuardB_ff (X Y : Prop) (b : Blk (X, Y)) : sxGuardB false (.bool false) X Y b = X := sxGuard_ff X Y
theorem sxGuardB_u (w : Bool) (X Y : Prop) (b : Blk (X, Y)) : sxGuardB w undef X Y b = Y := rfl
theorem sxGuardB_tsp {p : Prop} [Decidable p] {X Y : Prop} {b : Blk (X, Y)} (h1 : p → X) (h2 : ¬ p → Y) : sxGuardB true (.bool (decide p)) X Y b := sxGuard_tsp h1 h2
theorem sxGuardB_fsp {p : Prop} [Decidable p] {X Y : Prop} {b : Blk (X, Y)} (h1 : ¬ p → X) (h2 : p → Y) : sxGuardB false (.bool (decide p)) X Y b := sxGuard_fsp h1 h2

def sxIfB (v : Value) (X Y : Prop) (_ : Blk (X, Y)) : Prop := sxIf v X Y
theorem sxIfB_t (X Y : Prop) (b : Blk (X, Y)) : sxIfB (.bool true) X Y b = X := sxIf_t X Y
theorem sxIfB_f (X Y : Prop) (b : Blk (X, Y)) : sxIfB (.bool false) X Y b = Y := sxIf_f X Y
theorem sxIfB_sp {p : Prop} [Decidable p] {X Y : Prop} {b : Blk (X, Y)} (h1 : p → X) (h2 : ¬ p → Y) : sxIfB (.bool (decide p)) X Y b := sxIf_sp h1 h2

def sxCallB (P : Program) (S : Sys) (t : Tgt) (args : List Value) (H : Heap) (K : Value → Heap → Prop) (_ : Blk K) : Prop := WCall P S t args H K
def sxCallVB (P : Program) (S : Sys) (f : Value) (args : List Value) (H : Heap) (K : Value → Heap → Prop) (_ : Blk K) : Prop := sxCallV P S f args H K
theorem sxCallVB_fn (k : FuncId) (a b args : List Value) (H : Heap) (K : Value → Heap → Prop) (bl : Blk K) : sxCallVB P S (.func (.func k) ⟨a⟩ ⟨b⟩) args H K bl = sxCallB P S (.fn k) (a ++ args ++ b) H K .mk := rfl
theorem sxCallVB_yield (l : Nat) (args : List Value) (H : Heap) (K : Value → Heap → Prop) (bl : Blk K) : sxCallVB P S (.func (.yield l) ⟨[]⟩ ⟨[]⟩) args H K bl = sxCallB P S (.rnd l) args H K .mk := rfl
theorem Runs.bx {t : Tgt} {args : List Value} {H : Heap} {v : Value} {H' : Heap} (h : Runs P S t args H v H') (K : Value → Heap → Prop) (b : Blk K) : sxCallB P S t args H K b = K v H' := h.sx K
theorem known_bx {f : FuncId} {args : List Value} {H : Heap} {K : Value → Heap → Prop} {b : Blk K} (ho : S.O f args H) : sxCallB P S (.fn f) args H K b = K (.bool true) H := call_known ho
theorem WCall.bx {t : Tgt} {args : List Value} {H : Heap} {K0 K : Value → Heap → Prop} {b : Blk K} (h : WCall P S t args H K0) (hk : ∀ v H', K0 v H' → K v H') : sxCallB P S t args H K b := h.mono hk

def sxL (P : Program) (S : Sys) (N : Nat) (x : Code) (ρ : F) (H : Heap) (Q : QC) (_ : Blk (x, Q)) : Prop := sxC P S N (.loop x) ρ H Q
theorem bxC_loop {x : Code} {ρ : F} {H : Heap} {Q : QC} : sxC P S N (.loop x) ρ H Q = sxL P S N x ρ H Q .mk := rfl
theorem sxL_of {x : Code} {Q : QC} {b : Blk (x, Q)} (I : Nat → F → Heap → Prop) {n : Nat} {ρ : F} {H : Heap} (h0 : I n ρ H) (hs : ∀ n ρ H, I n ρ H → sxC P S N x ρ H (loopQ I n Q)) : sxL P S N x ρ H Q b := sxC_loop I hs h0

theorem bxPut {t : Tmp} {ρ : F} {v : Value} {k : F → Prop} (h : t < N) : sxPut N (some t) ρ v k = k (upd ρ t v) := by rw [sxPut_some]; simp [h]
/-- Behind an operation of a region that draws. -/
def sxD (H H1 : Heap) (k : Heap → Prop) : Prop := H.size ≤ H1.low ∧ k (H1.relow (Nat.min H.low H1.low))
theorem sxD_same {H : Heap} {k : Heap → Prop} (h : H.low ≤ H.size) : sxD H (H.relow H.size) k = k H := by
  unfold sxD
  rw [low_relow, relow_relow, Keep.relow h]
  simp
theorem bxDraw_cons {all o l} {ρ : F} {H : Heap} {Q : F → Heap → Prop} : sxDraw P S N all (o :: l) ρ H Q =
  sxStep P S N all o ρ (H.relow H.size) fun ρ' H1 => sxD H H1 fun H2 => sxDraw P S N all l ρ' H2 Q := rfl
theorem bxC_cond {ρ : F} {H : Heap} {Q : QC} {c : Operand} {x y : Code} : sxC P S N (.cond c x y) ρ H Q = sxIfB (ev ρ c) (sxC P S N x ρ H Q) (sxC P S N y ρ H Q) .mk := rfl
theorem bxStep_some {all d op ty pos af g w} {ρ : F} {H : Heap} {K : F → Heap → Prop} : sxStep P S N all ⟨d, op, ty, pos, af, some (g, w)⟩ ρ H K =
  sxGuardB w (gval ρ (dstAt all g)) (sxOp P S ⟨d, op, ty, pos, af, some (g, w)⟩ ρ H fun v H' => sxPut N d ρ v fun ρ' => K ρ' H') (sxPut N d ρ undef fun ρ' => K ρ' H) .mk := rfl
theorem bxRes_cell {H : Heap} {ρ : F} {a t l} {K : List Value → Prop} : sxRes P H ρ (.cell a t :: l) K = sxOptB (aLoad P H t (ρ a)) (fun v => sxRes P H ρ l fun vs => K (v :: vs)) .mk := rfl

section eqs
variable {d : Option Tmp} {ty : TypeId} {pos : String} {af : Array Edge} {g : Option (Nat × Bool)} {ρ : F} {H : Heap} {K : Value → Heap → Prop}
theorem bxOp_move {x} : sxOp P S ⟨d, .move x, ty, pos, af, g⟩ ρ H K = K (ev ρ x) H := rfl
theorem bxOp_assign {x} : sxOp P S ⟨d, .assign x, ty, pos, af, g⟩ ρ H K = K (ev ρ x) H := rfl
theorem bxOp_pick {c a b} : sxOp P S ⟨d, .pick c a b, ty, pos, af, g⟩ ρ H K = sxOptB (aPick (ev ρ c) (ev ρ a) (ev ρ b)) (fun v => K v H) .mk := rfl
theorem bxOp_alloc {t} : sxOp P S ⟨d, .alloc t, ty, pos, af, g⟩ ρ H K = sxOptB (aAlloc P H t) (fun r => K r.1 r.2) .mk := rfl
theorem bxOp_box {t x} : sxOp P S ⟨d, .box t x, ty, pos, af, g⟩ ρ H K = K (.pointer (some ⟨H.size, 0, none⟩)) (H.newExact (ev ρ x).cells.toList t) := rfl
theorem bxOp_build {t ps} : sxOp P S ⟨d, .build t ps, ty, pos, af, g⟩ ρ H K = sxOptB (aBuild P t (ps.toList.map fun p => (p.1, ev ρ p.2))) (fun v => K v H) .mk := rfl
theorem bxOp_buildSlice {t n ps} : sxOp P S ⟨d, .buildSlice t n ps, ty, pos, af, g⟩ ρ H K = sxOptB (aBuildSlice P H t n (ps.toList.map fun p => (p.1, ev ρ p.2))) (fun r => K r.1 r.2) .mk := rfl
theorem bxOp_load {t a} : sxOp P S ⟨d, .load t a, ty, pos, af, g⟩ ρ H K = sxOptB (aLoad P H t (ev ρ a)) (fun v => K v H) .mk := rfl
theorem bxOp_store {t a x} : sxOp P S ⟨d, .store t a x, ty, pos, af, g⟩ ρ H K = sxOptB (aStore P H t (ev ρ a) (ev ρ x)) (fun H' => K undef H') .mk := rfl
theorem bxOp_nilCheck {x} : sxOp P S ⟨d, .nilCheck x, ty, pos, af, g⟩ ρ H K = sxOptB (aNilCheck (ev ρ x)) (fun v => K v H) .mk := rfl
theorem bxOp_bin {op t x y yt} : sxOp P S ⟨d, .binOp op t x y yt, ty, pos, af, g⟩ ρ H K = sxOptB (bin op (ev ρ x) (ev ρ y)) (fun v => K v H) .mk := rfl
theorem bxOp_un {op t x} : sxOp P S ⟨d, .unOp op t x, ty, pos, af, g⟩ ρ H K = sxOptB (una op (ev ρ x)) (fun v => K v H) .mk := rfl
theorem bxOp_makeI {t x} : sxOp P S ⟨d, .makeInterface t x, ty, pos, af, g⟩ ρ H K = sxOptB (aMakeI P t (ev ρ x)) (fun v => K v H) .mk := rfl
theorem bxOp_makeFunc {fn a b} : sxOp P S ⟨d, .makeFunc fn a b, ty, pos, af, g⟩ ρ H K = (notYield fn = true ∧ K (.func fn ⟨a.toList.map (ev ρ)⟩ ⟨b.toList.map (ev ρ)⟩) H) := rfl
theorem bxOp_makeSlice {t l c} : sxOp P S ⟨d, .makeSlice t l c, ty, pos, af, g⟩ ρ H K = sxOptB (aMakeSlice P H t (ev ρ l) (ev ρ c)) (fun r => K r.1 r.2) .mk := rfl
theorem bxOp_slice {t x lo hi mx} : sxOp P S ⟨d, .slice t x lo hi mx, ty, pos, af, g⟩ ρ H K = sxOptB (aSlice P H t (ev ρ x) (lo.map (ev ρ)) (hi.map (ev ρ)) (mx.map (ev ρ))) (fun v => K v H) .mk := rfl
theorem bxOp_fieldAddr {s x f} : sxOp P S ⟨d, .fieldAddr s x f, ty, pos, af, g⟩ ρ H K = sxOptB (aFieldAt P s f (ev ρ x)) (fun v => K v H) .mk := rfl
theorem bxOp_field {s x f} : sxOp P S ⟨d, .field s x f, ty, pos, af, g⟩ ρ H K = sxOptB (aField P s (ev ρ x) f) (fun v => K v H) .mk := rfl
theorem bxOp_indexAddr {t x ix} : sxOp P S ⟨d, .indexAddr t x ix, ty, pos, af, g⟩ ρ H K = sxOptB (aIndexAt P t (ev ρ x) (ev ρ ix)) (fun v => K v H) .mk := rfl
theorem bxOp_index {t x ix} : sxOp P S ⟨d, .index t x ix, ty, pos, af, g⟩ ρ H K = sxOptB (aIndex P t (ev ρ x) (ev ρ ix)) (fun v => K v H) .mk := rfl
theorem bxOp_assert {x xt t ok} : sxOp P S ⟨d, .typeAssert x xt t ok, ty, pos, af, g⟩ ρ H K = sxOptB (aAssert P (ev ρ x) t ok) (fun v => K v H) .mk := rfl
theorem bxOp_extract {x i} : sxOp P S ⟨d, .extract x i, ty, pos, af, g⟩ ρ H K = sxOptB (aExtract (ev ρ x) i) (fun v => K v H) .mk := rfl
theorem bxOp_value {f as ts} : sxOp P S ⟨d, .call { callee := .value f, args := as, argTypes := ts }, ty, pos, af, g⟩ ρ H K = sxCallVB P S (ev ρ f) (as.toList.map (ev ρ)) H K .mk := rfl
theorem bxOp_len {x ts} : sxOp P S ⟨d, .call { callee := .builtin .len, args := ⟨[x]⟩, argTypes := ts }, ty, pos, af, g⟩ ρ H K = sxOptB (aLen P ts (ev ρ x)) (fun v => K v H) .mk := rfl
theorem bxOp_cap {x ts} : sxOp P S ⟨d, .call { callee := .builtin .cap, args := ⟨[x]⟩, argTypes := ts }, ty, pos, af, g⟩ ρ H K = sxOptB (aCap P H ts (ev ρ x)) (fun v => K v H) .mk := rfl
theorem bxOp_append {s x ts} : sxOp P S ⟨d, .call { callee := .builtin .append, args := ⟨[s, x]⟩, argTypes := ts }, ty, pos, af, g⟩ ρ H K = sxOptB (aAppend P H ts (ev ρ s) (ev ρ x)) (fun r => K r.1 r.2) .mk := rfl
theorem bxOp_copy {s x ts} : sxOp P S ⟨d, .call { callee := .builtin .copy, args := ⟨[s, x]⟩, argTypes := ts }, ty, pos, af, g⟩ ρ H K = sxOptB (aCopy P H ts (ev ρ s) (ev ρ x)) (fun r => K r.1 r.2) .mk := rfl
end eqs

end Go.AM
