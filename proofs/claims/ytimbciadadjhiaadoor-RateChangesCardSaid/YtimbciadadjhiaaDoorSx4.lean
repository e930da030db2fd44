/- A general tool, which names no program: what must be shown of a piece of code for symbolic values, on the canonical machine; each rule proved. -/
import Derived.Test.YtimbciadadjhiaaDoorSx3
set_option linter.unusedVariables false
set_option linter.unusedSimpArgs false
set_option linter.unusedSectionVars false
namespace Go.AM

variable {P : Program} {S : Sys} {N : Nat}

/-! Regions. -/

def sxPut (N : Nat) (d : Option Tmp) (ρ : F) (v : Value) (k : F → Prop) : Prop := match d with
  | none => k ρ
  | some t => t < N ∧ k (upd ρ t v)
theorem sxPut_none {ρ : F} {v : Value} {k : F → Prop} : sxPut N none ρ v k = k ρ := rfl
theorem sxPut_some {t : Tmp} {ρ : F} {v : Value} {k : F → Prop} : sxPut N (some t) ρ v k = (t < N ∧ k (upd ρ t v)) := rfl

theorem sxPut_fr {d : Option Tmp} {ρ : F} {v : Value} {k : F → Prop} (h : sxPut N d ρ v k) {a : Act} (ha : Fr N ρ a) : ∃ ρ', Fr N ρ' (a.put d v) ∧ k ρ' := by
  cases d with
  | none => exact ⟨ρ, ha, h⟩
  | some t => exact ⟨_, ha.put h.1 v, h.2⟩

def dstAt : List Oper → Nat → Option Tmp
  | [], _ => none
  | o :: _, 0 => o.dst
  | _ :: l, n + 1 => dstAt l n
theorem dstAt_eq : ∀ (l : List Oper) (n : Nat), dstAt l n = (l[n]?).bind (·.dst)
  | [], _ => by simp [dstAt]
  | _ :: _, 0 => by simp [dstAt]
  | _ :: l, n + 1 => by simp [dstAt, dstAt_eq l n]

def gval (ρ : F) (d : Option Tmp) : Value := match d with
  | some t => ρ t
  | none => undef
theorem gval_some (ρ : F) (t : Tmp) : gval ρ (some t) = ρ t := rfl

def sxGuard (w : Bool) (v : Value) (X Y : Prop) : Prop := match v with
  | .bool b => (b = w → X) ∧ (b = !w → Y)
  | _ => Y
theorem sxGuard_tt (X Y : Prop) : sxGuard true (.bool true) X Y = X := by simp [sxGuard]
theorem sxGuard_tf (X Y : Prop) : sxGuard true (.bool false) X Y = Y := by simp [sxGuard]
theorem sxGuard_ft (X Y : Prop) : sxGuard false (.bool true) X Y = Y := by simp [sxGuard]
theorem sxGuard_ff (X Y : Prop) : sxGuard false (.bool false) X Y = X := by simp [sxGuard]
theorem sxGuard_td (p : Prop) [Decidable p] (X Y : Prop) : sxGuard true (.bool (decide p)) X Y = ((p → X) ∧ (¬ p → Y)) := by simp [sxGuard]
theorem sxGuard_fd (p : Prop) [Decidable p] (X Y : Prop) : sxGuard false (.bool (decide p)) X Y = ((p → Y) ∧ (¬ p → X)) := by
  simp only [sxGuard, decide_eq_false_iff_not, Bool.not_false, decide_eq_true_eq]
  exact propext ⟨fun h => ⟨h.2, h.1⟩, fun h => ⟨h.2, h.1⟩⟩
@[congr] theorem sxGuard_congr {w : Bool} {v v' : Value} {X Y : Prop} (h : v = v') : sxGuard w v X Y = sxGuard w v' X Y := by rw [h]

def sxStep (P : Program) (S : Sys) (N : Nat) (all : List Oper) (o : Oper) (ρ : F) (H : Heap) (K : F → Heap → Prop) : Prop := match o.guard with
  | none => sxOp P S o ρ H fun v H' => sxPut N o.dst ρ v fun ρ' => K ρ' H'
  | some (g, w) => sxGuard w (gval ρ (dstAt all g)) (sxOp P S o ρ H fun v H' => sxPut N o.dst ρ v fun ρ' => K ρ' H') (sxPut N o.dst ρ undef fun ρ' => K ρ' H)
theorem sxStep_none {all d op ty pos af} {ρ : F} {H : Heap} {K : F → Heap → Prop} : sxStep P S N all ⟨d, op, ty, pos, af, none⟩ ρ H K = sxOp P S ⟨d, op, ty, pos, af, none⟩ ρ H fun v H' => sxPut N d ρ v fun ρ' => K ρ' H' := rfl
theorem sxStep_some {all d op ty pos af g w} {ρ : F} {H : Heap} {K : F → Heap → Prop} : sxStep P S N all ⟨d, op, ty, pos, af, some (g, w)⟩ ρ H K =
  sxGuard w (gval ρ (dstAt all g)) (sxOp P S ⟨d, op, ty, pos, af, some (g, w)⟩ ρ H fun v H' => sxPut N d ρ v fun ρ' => K ρ' H') (sxPut N d ρ undef fun ρ' => K ρ' H) := rfl

def sxOps (P : Program) (S : Sys) (N : Nat) (all : List Oper) : List Oper → F → Heap → (F → Heap → Prop) → Prop
  | [], ρ, H, Q => Q ρ H
  | o :: l, ρ, H, Q => sxStep P S N all o ρ H fun ρ' H' => sxOps P S N all l ρ' H' Q
theorem sxOps_nil {all} {ρ : F} {H : Heap} {Q : F → Heap → Prop} : sxOps P S N all [] ρ H Q = Q ρ H := rfl
theorem sxOps_cons {all o l} {ρ : F} {H : Heap} {Q : F → Heap → Prop} : sxOps P S N all (o :: l) ρ H Q = sxStep P S N all o ρ H fun ρ' H' => sxOps P S N all l ρ' H' Q := rfl

/-- A region that draws its order, of operations that turn nothing that was there. -/
def sxDraw (P : Program) (S : Sys) (N : Nat) (all : List Oper) : List Oper → F → Heap → (F → Heap → Prop) → Prop
  | [], ρ, H, Q => Q ρ H
  | o :: l, ρ, H, Q => sxStep P S N all o ρ (H.relow H.size) fun ρ' H1 => H.size ≤ H1.low ∧ sxDraw P S N all l ρ' (H1.relow (Nat.min H.low H1.low)) Q
theorem sxDraw_nil {all} {ρ : F} {H : Heap} {Q : F → Heap → Prop} : sxDraw P S N all [] ρ H Q = Q ρ H := rfl
theorem sxDraw_cons {all o l} {ρ : F} {H : Heap} {Q : F → Heap → Prop} : sxDraw P S N all (o :: l) ρ H Q =
  sxStep P S N all o ρ (H.relow H.size) fun ρ' H1 => H.size ≤ H1.low ∧ sxDraw P S N all l ρ' (H1.relow (Nat.min H.low H1.low)) Q := rfl

theorem yielded_gval {ops : Array Oper} {ρ : F} {a : Act} (h : Fr N ρ a) (g : Nat) {b : Bool} (hv : gval ρ (dstAt ops.toList g) = .bool b) : yielded ops a.tmps g = some b := by
  rw [yielded_eq]
  rw [dstAt_eq] at hv
  simp only [Array.getElem?_toList] at hv
  cases hd : (ops[g]?).bind (·.dst) with
  | none => rw [hd] at hv; cases hv
  | some t =>
    rw [hd] at hv
    have hv : ρ t = .bool b := hv
    simp only [Option.bind_some]
    have hg := h.get t
    rw [hv, Array.getD_eq_getD_getElem?] at hg
    cases ht : a.tmps[t]? with
    | none => rw [ht] at hg; cases hg
    | some x => rw [ht] at hg; simp only [Option.getD_some] at hg; rw [hg]; rfl

theorem yielded_other {ops : Array Oper} {ρ : F} {a : Act} (h : Fr N ρ a) (g : Nat) (hv : ∀ b, gval ρ (dstAt ops.toList g) = .bool b → False) : yielded ops a.tmps g = none := by
  rw [yielded_eq]
  rw [dstAt_eq] at hv
  simp only [Array.getElem?_toList] at hv
  cases hd : (ops[g]?).bind (·.dst) with
  | none => rfl
  | some t =>
    rw [hd] at hv
    have hv : ∀ b, ρ t = .bool b → False := hv
    simp only [Option.bind_some]
    have hg := h.get t
    rw [Array.getD_eq_getD_getElem?] at hg
    cases ht : a.tmps[t]? with
    | none => rfl
    | some x =>
      rw [ht] at hg
      simp only [Option.getD_some] at hg
      rw [hg]
      unfold yB
      split
      · rename_i b hb; exact (hv b (Option.some.inj hb)).elim
      · rfl

theorem sxStep_sound {ops : Array Oper} {o : Oper} {ρ : F} {H : Heap} {K : F → Heap → Prop} (h : sxStep P S N ops.toList o ρ H K) {a : Act} (ha : Fr N ρ a) :
    ∃ D d v H' ρ', aStep P (oCallN P S D d) ops o a H = some (v, H') ∧ Fr N ρ' (a.put o.dst v) ∧ K ρ' H' := by
  have run : ∀ K', sxOp P S o ρ H K' → ∃ D d v H', aOpRun P (oCallN P S D d) a.eval o H = some (v, H') ∧ K' v H' := fun K' hk => by
    rw [ha.eval]; exact sxOp_sound hk
  unfold sxStep at h
  unfold aStep
  cases hg : o.guard with
  | none =>
    rw [hg] at h
    obtain ⟨D, d, v, H', hr, hk⟩ := run _ h
    obtain ⟨ρ', hf, hk⟩ := sxPut_fr hk ha
    refine ⟨D, d, v, H', ρ', ?_, hf, hk⟩
    rw [show Region.wanted o (yielded ops a.tmps) = true from by unfold Region.wanted; rw [hg]]
    exact hr
  | some gw =>
    obtain ⟨g, w⟩ := gw
    rw [hg] at h
    simp only [] at h
    unfold sxGuard at h
    split at h
    · rename_i b hb
      have hy := yielded_gval ha g hb
      have hw : Region.wanted o (yielded ops a.tmps) = (b == w) := by
        unfold Region.wanted; rw [hg]; simp only [hy]; cases b <;> cases w <;> rfl
      by_cases hbw : b = w
      · obtain ⟨D, d, v, H', hr, hk⟩ := run _ (h.1 hbw)
        obtain ⟨ρ', hf, hk⟩ := sxPut_fr hk ha
        refine ⟨D, d, v, H', ρ', ?_, hf, hk⟩
        rw [hw, hbw, show (w == w) = true from by simp, cond_true]
        exact hr
      · have hk := h.2 (by cases b <;> cases w <;> first | rfl | exact absurd rfl hbw)
        obtain ⟨ρ', hf, hk⟩ := sxPut_fr hk ha
        refine ⟨0, 0, undef, H, ρ', ?_, hf, hk⟩
        rw [hw, show (b == w) = false from by simpa using hbw, cond_false]
    · rename_i hnb
      obtain ⟨ρ', hf, hk⟩ := sxPut_fr h ha
      refine ⟨0, 0, undef, H, ρ', ?_, hf, hk⟩
      rw [show Region.wanted o (yielded ops a.tmps) = false from by unfold Region.wanted; rw [hg]; simp only [yielded_other ha g hnb]; rfl, cond_false]

theorem sxOps_sound {ops : Array Oper} : ∀ {l : List Oper} {ρ : F} {H : Heap} {Q : F → Heap → Prop}, sxOps P S N ops.toList l ρ H Q → ∀ {a : Act}, Fr N ρ a →
    ∃ D d a' H' ρ', aOps P (oCallN P S D d) ops l a H = some (a', H') ∧ Fr N ρ' a' ∧ Q ρ' H'
  | [], ρ, H, Q, h, a, ha => ⟨0, 0, a, H, ρ, rfl, ha, h⟩
  | o :: l, ρ, H, Q, h, a, ha => by
    obtain ⟨D, d, v, H1, ρ1, hs, hf, hk⟩ := sxStep_sound h ha
    obtain ⟨D', d', a', H', ρ', hr, hf', hq⟩ := sxOps_sound hk hf
    refine ⟨max D D', max d d', a', H', ρ', ?_, hf', hq⟩
    unfold aOps
    rw [aStep_le (oCallN_le (Nat.le_max_left D D') (Nat.le_max_left d d')) hs]
    exact aOps_le (oCallN_le (Nat.le_max_right D D') (Nat.le_max_right d d')) hr

theorem sxDraw_sound {ops : Array Oper} : ∀ {l : List Oper} {i : Nat} {ρ : F} {H : Heap} {Q : F → Heap → Prop}, ops.toList.drop i = l → sxDraw P S N ops.toList l ρ H Q → ∀ {a : Act}, Fr N ρ a →
    ∃ D d a' H' ρ', aDraw P (oCallN P S D d) ops l.length i a H = some (a', H') ∧ Fr N ρ' a' ∧ Q ρ' H'
  | [], i, ρ, H, Q, _, h, a, ha => ⟨0, 0, a, H, ρ, rfl, ha, h⟩
  | o :: l, i, ρ, H, Q, hl, h, a, ha => by
    obtain ⟨D, d, v, H1, ρ1, hs, hf, hn, hk⟩ := sxStep_sound h ha
    have ho : ops[i]? = some o := by
      rw [← Array.getElem?_toList]
      have := congrArg (fun l => l[0]?) hl
      simpa using this
    have hl' : ops.toList.drop (i + 1) = l := by
      have := congrArg (fun l => l.drop 1) hl
      simpa using this
    obtain ⟨D', d', a', H', ρ', hr, hf', hq⟩ := sxDraw_sound hl' hk hf
    refine ⟨max D D', max d d', a', H', ρ', ?_, hf', hq⟩
    simp only [List.length_cons]
    unfold aDraw
    rw [ho]
    simp only []
    rw [aStep_le (oCallN_le (Nat.le_max_left D D') (Nat.le_max_left d d')) hs]
    simp only []
    rw [show Nat.ble H.size H1.low = true from Nat.ble_eq_true_of_le hn, Bool.true_or, cond_true]
    exact aDraw_le (oCallN_le (Nat.le_max_right D D') (Nat.le_max_right d d')) hr

theorem dec_T {h : Decidable True} : @decide True h = true := by cases h <;> first | rfl | (rename_i hn; exact absurd trivial hn)
theorem dec_F {h : Decidable False} : @decide False h = false := by cases h <;> first | rfl | (rename_i hn; exact hn.elim)
theorem false_imp (p : Prop) : (False → p) = True := propext ⟨fun _ => trivial, fun _ h => h.elim⟩

/-! Code. -/

abbrev QC := AExit → F → Heap → Prop

def WC (P : Program) (S : Sys) (N : Nat) (c : Code) (ρ : F) (H : Heap) (Q : QC) : Prop :=
  ∀ a, Fr N ρ a → ∃ D d e a' H' ρ', aCode P (oCallN P S D d) D c a H = some (e, a', H') ∧ Fr N ρ' a' ∧ Q e ρ' H'

def seqQ (k : F → Heap → Prop) (Q : QC) : QC := fun e ρ H => match e with
  | .normal => k ρ H
  | e => Q e ρ H
def blockQ (id : Nat) (Q : QC) : QC := fun e ρ H => match e with
  | .exit i => if i = id then Q .normal ρ H else Q (.exit i) ρ H
  | e => Q e ρ H
section eqs
variable {k : F → Heap → Prop} {Q : QC} {ρ : F} {H : Heap} {id i : Nat}
theorem seqQ_normal : seqQ k Q .normal ρ H = k ρ H := rfl
theorem seqQ_exit : seqQ k Q (.exit i) ρ H = Q (.exit i) ρ H := rfl
theorem seqQ_ret : seqQ k Q .ret ρ H = Q .ret ρ H := rfl
theorem seqQ_goto : seqQ k Q (.goto i) ρ H = Q (.goto i) ρ H := rfl
theorem blockQ_normal : blockQ id Q .normal ρ H = Q .normal ρ H := rfl
theorem blockQ_ret : blockQ id Q .ret ρ H = Q .ret ρ H := rfl
theorem blockQ_goto : blockQ id Q (.goto i) ρ H = Q (.goto i) ρ H := rfl
theorem blockQ_exit : blockQ id Q (.exit i) ρ H = if i = id then Q .normal ρ H else Q (.exit i) ρ H := rfl
end eqs

def sxIf (v : Value) (X Y : Prop) : Prop := match v with
  | .bool b => (b = true → X) ∧ (b = false → Y)
  | _ => False
theorem sxIf_t (X Y : Prop) : sxIf (.bool true) X Y = X := by simp [sxIf]
theorem sxIf_f (X Y : Prop) : sxIf (.bool false) X Y = Y := by simp [sxIf]
theorem sxIf_d (p : Prop) [Decidable p] (X Y : Prop) : sxIf (.bool (decide p)) X Y = ((p → X) ∧ (¬ p → Y)) := by simp [sxIf]
@[congr] theorem sxIf_congr {v v' : Value} {X Y : Prop} (h : v = v') : sxIf v X Y = sxIf v' X Y := by rw [h]

def sxC (P : Program) (S : Sys) (N : Nat) : Code → F → Heap → QC → Prop
  | .skip, ρ, H, Q => Q .normal ρ H
  | .label _, ρ, H, Q => Q .normal ρ H
  | .region _ ops true, ρ, H, Q => sxDraw P S N ops.toList ops.toList ρ H (Q .normal)
  | .region _ ops false, ρ, H, Q => sxOps P S N ops.toList ops.toList ρ H (Q .normal)
  | .seq x y, ρ, H, Q => sxC P S N x ρ H (seqQ (fun ρ H => sxC P S N y ρ H Q) Q)
  | .cond c x y, ρ, H, Q => sxIf (ev ρ c) (sxC P S N x ρ H Q) (sxC P S N y ρ H Q)
  | .block id x, ρ, H, Q => sxC P S N x ρ H (blockQ id Q)
  | .exit id, ρ, H, Q => Q (.exit id) ρ H
  | .goto l, ρ, H, Q => Q (.goto l) ρ H
  | .ret, ρ, H, Q => Q .ret ρ H
  | c, ρ, H, Q => WC P S N c ρ H Q
@[congr] theorem sxC_congr {c : Code} {ρ ρ' : F} {H : Heap} {Q : QC} (h : ρ = ρ') : sxC P S N c ρ H Q = sxC P S N c ρ' H Q := by rw [h]
section eqs
variable {ρ : F} {H : Heap} {Q : QC} {id : Nat} {ops : List Oper} {c : Operand} {x y : Code}
theorem sxC_skip : sxC P S N .skip ρ H Q = Q .normal ρ H := rfl
theorem sxC_draw : sxC P S N (.region id ⟨ops⟩ true) ρ H Q = sxDraw P S N ops ops ρ H (Q .normal) := rfl
theorem sxC_region : sxC P S N (.region id ⟨ops⟩ false) ρ H Q = sxOps P S N ops ops ρ H (Q .normal) := rfl
theorem sxC_seq : sxC P S N (.seq x y) ρ H Q = sxC P S N x ρ H (seqQ (fun ρ H => sxC P S N y ρ H Q) Q) := rfl
theorem sxC_cond : sxC P S N (.cond c x y) ρ H Q = sxIf (ev ρ c) (sxC P S N x ρ H Q) (sxC P S N y ρ H Q) := rfl
theorem sxC_block : sxC P S N (.block id x) ρ H Q = sxC P S N x ρ H (blockQ id Q) := rfl
theorem sxC_exit : sxC P S N (.exit id) ρ H Q = Q (.exit id) ρ H := rfl
theorem sxC_goto : sxC P S N (.goto id) ρ H Q = Q (.goto id) ρ H := rfl
theorem sxC_ret : sxC P S N .ret ρ H Q = Q .ret ρ H := rfl
theorem sxC_loop_eq : sxC P S N (.loop x) ρ H Q = WC P S N (.loop x) ρ H Q := rfl
end eqs

theorem sxC_sound : ∀ {c : Code} {ρ : F} {H : Heap} {Q : QC}, sxC P S N c ρ H Q → WC P S N c ρ H Q
  | .skip, ρ, H, Q, h => fun a ha => ⟨1, 0, .normal, a, H, ρ, rfl, ha, h⟩
  | .label _, ρ, H, Q, h => fun a ha => ⟨1, 0, .normal, a, H, ρ, rfl, ha, h⟩
  | .region id ops true, ρ, H, Q, h => fun a ha => by
    obtain ⟨D, d, a', H', ρ', hr, hf, hq⟩ := sxDraw_sound (l := ops.toList) (i := 0) rfl h ha
    refine ⟨D + 1, d, .normal, a', H', ρ', ?_, hf, hq⟩
    have hr := aDraw_le (oCallN_le (P := P) (S := S) (Nat.le_succ D) (Nat.le_refl d)) hr
    unfold aCode
    simp only [cond_true]
    rw [show ops.size = ops.toList.length from by simp, hr]
    rfl
  | .region id ops false, ρ, H, Q, h => fun a ha => by
    obtain ⟨D, d, a', H', ρ', hr, hf, hq⟩ := sxOps_sound h ha
    refine ⟨D + 1, d, .normal, a', H', ρ', ?_, hf, hq⟩
    have hr := aOps_le (oCallN_le (P := P) (S := S) (Nat.le_succ D) (Nat.le_refl d)) hr
    unfold aCode
    simp only [cond_false]
    rw [hr]
    rfl
  | .seq x y, ρ, H, Q, h => fun a ha => by
    obtain ⟨D, d, e, a1, H1, ρ1, hr, hf, hq⟩ := sxC_sound (c := x) h a ha
    by_cases he : e = .normal
    · subst he
      obtain ⟨D', d', e', a', H', ρ', hr', hf', hq'⟩ := sxC_sound (c := y) hq a1 hf
      refine ⟨max D D' + 1, max d d', e', a', H', ρ', ?_, hf', hq'⟩
      have h1 := aCode_le (n := D) (n' := max D D') (oCallN_le (P := P) (S := S) (D := D) (D' := max D D' + 1) (d := d) (d' := max d d') (by omega) (by omega)) (by omega) hr
      have h2 := aCode_le (n := D') (n' := max D D') (oCallN_le (P := P) (S := S) (D := D') (D' := max D D' + 1) (d := d') (d' := max d d') (by omega) (by omega)) (by omega) hr'
      unfold aCode
      simp only [h1]
      exact h2
    · refine ⟨D + 1, d, e, a1, H1, ρ1, ?_, hf, ?_⟩
      · have h1 := aCode_le (n := D) (n' := D) (oCallN_le (P := P) (S := S) (D := D) (D' := D + 1) (d := d) (d' := d) (by omega) (by omega)) (by omega) hr
        unfold aCode
        simp only [h1]
        cases e with
        | normal => exact absurd rfl he
        | _ => rfl
      · cases e with
        | normal => exact absurd rfl he
        | _ => exact hq
  | .cond c x y, ρ, H, Q, h => fun a ha => by
    have h : sxIf (ev ρ c) (sxC P S N x ρ H Q) (sxC P S N y ρ H Q) := h
    unfold sxIf at h
    split at h
    · rename_i b hb
      have hev : a.eval c = .bool b := by rw [ha.eval]; exact hb
      cases b with
      | true =>
        obtain ⟨D, d, e, a', H', ρ', hr, hf, hq⟩ := sxC_sound (c := x) (h.1 rfl) a ha
        refine ⟨D + 1, d, e, a', H', ρ', ?_, hf, hq⟩
        have h1 := aCode_le (n := D) (n' := D) (oCallN_le (P := P) (S := S) (D := D) (D' := D + 1) (d := d) (d' := d) (by omega) (by omega)) (by omega) hr
        unfold aCode
        simp only [hev, cond_true]
        exact h1
      | false =>
        obtain ⟨D, d, e, a', H', ρ', hr, hf, hq⟩ := sxC_sound (c := y) (h.2 rfl) a ha
        refine ⟨D + 1, d, e, a', H', ρ', ?_, hf, hq⟩
        have h1 := aCode_le (n := D) (n' := D) (oCallN_le (P := P) (S := S) (D := D) (D' := D + 1) (d := d) (d' := d) (by omega) (by omega)) (by omega) hr
        unfold aCode
        simp only [hev, cond_false]
        exact h1
    · exact h.elim
  | .block id x, ρ, H, Q, h => fun a ha => by
    obtain ⟨D, d, e, a', H', ρ', hr, hf, hq⟩ := sxC_sound (c := x) h a ha
    have h1 := aCode_le (n := D) (n' := D) (oCallN_le (P := P) (S := S) (D := D) (D' := D + 1) (d := d) (d' := d) (by omega) (by omega)) (by omega) hr
    cases e with
    | exit i =>
      have hq : (if i = id then Q .normal ρ' H' else Q (.exit i) ρ' H') := hq
      by_cases hi : i = id
      · rw [if_pos hi] at hq
        refine ⟨D + 1, d, .normal, a', H', ρ', ?_, hf, hq⟩
        unfold aCode
        simp only [h1, outOf, Trie.beq_tt hi, cond_true]
      · rw [if_neg hi] at hq
        refine ⟨D + 1, d, .exit i, a', H', ρ', ?_, hf, hq⟩
        unfold aCode
        simp only [h1, outOf, Trie.beq_ff hi, cond_false]
    | normal => exact ⟨D + 1, d, _, a', H', ρ', by unfold aCode; simp only [h1, outOf], hf, hq⟩
    | goto l => exact ⟨D + 1, d, _, a', H', ρ', by unfold aCode; simp only [h1, outOf], hf, hq⟩
    | ret => exact ⟨D + 1, d, _, a', H', ρ', by unfold aCode; simp only [h1, outOf], hf, hq⟩
  | .exit id, ρ, H, Q, h => fun a ha => ⟨1, 0, .exit id, a, H, ρ, rfl, ha, h⟩
  | .goto l, ρ, H, Q, h => fun a ha => ⟨1, 0, .goto l, a, H, ρ, rfl, ha, h⟩
  | .ret, ρ, H, Q, h => fun a ha => ⟨1, 0, .ret, a, H, ρ, rfl, ha, h⟩
  | .loop x, ρ, H, Q, h => h
  | .rangeFunc _ _ _ _, ρ, H, Q, h => h
  | .scope x, ρ, H, Q, h => h
  | .refuse _, ρ, H, Q, h => h

/-! Loops. -/

def loopQ (I : Nat → F → Heap → Prop) (n : Nat) (Q : QC) : QC := fun e ρ H => match e with
  | .normal => ∃ n', n' < n ∧ I n' ρ H
  | e => Q e ρ H
section eqs
variable {I : Nat → F → Heap → Prop} {n : Nat} {Q : QC} {ρ : F} {H : Heap} {i : Nat}
theorem loopQ_normal : loopQ I n Q .normal ρ H = ∃ n', n' < n ∧ I n' ρ H := rfl
theorem loopQ_exit : loopQ I n Q (.exit i) ρ H = Q (.exit i) ρ H := rfl
theorem loopQ_ret : loopQ I n Q .ret ρ H = Q .ret ρ H := rfl
theorem loopQ_goto : loopQ I n Q (.goto i) ρ H = Q (.goto i) ρ H := rfl
end eqs

theorem sxC_loop {x : Code} {Q : QC} (I : Nat → F → Heap → Prop) (hs : ∀ n ρ H, I n ρ H → sxC P S N x ρ H (loopQ I n Q)) {n : Nat} {ρ : F} {H : Heap} (h0 : I n ρ H) : sxC P S N (.loop x) ρ H Q := by
  show WC P S N (.loop x) ρ H Q
  induction n using Nat.strongRecOn generalizing ρ H with
  | _ n ih =>
    intro a ha
    obtain ⟨D, d, e, a1, H1, ρ1, hr, hf, hq⟩ := sxC_sound (hs n ρ H h0) a ha
    by_cases he : e = .normal
    · subst he
      obtain ⟨n', hn', hI⟩ := (show ∃ n', n' < n ∧ I n' ρ1 H1 from hq)
      obtain ⟨D', d', e', a', H', ρ', hr', hf', hq'⟩ := ih n' hn' hI a1 hf
      refine ⟨max D D' + 1, max d d', e', a', H', ρ', ?_, hf', hq'⟩
      have h1 := aCode_le (n := D) (n' := max D D') (oCallN_le (P := P) (S := S) (D := D) (D' := max D D' + 1) (d := d) (d' := max d d') (by omega) (by omega)) (by omega) hr
      have h2 := aCode_le (n := D') (n' := max D D') (oCallN_le (P := P) (S := S) (D := D') (D' := max D D' + 1) (d := d') (d' := max d d') (by omega) (by omega)) (by omega) hr'
      unfold aCode
      simp only [h1]
      exact h2
    · refine ⟨D + 1, d, e, a1, H1, ρ1, ?_, hf, ?_⟩
      · have h1 := aCode_le (n := D) (n' := D) (oCallN_le (P := P) (S := S) (D := D) (D' := D + 1) (d := d) (d' := d) (by omega) (by omega)) (by omega) hr
        unfold aCode
        simp only [h1]
        cases e with
        | normal => exact absurd rfl he
        | _ => rfl
      · cases e with
        | normal => exact absurd rfl he
        | _ => exact hq

/-! A function. -/

def argF (args : List Value) : F := fun t => args.getD t undef

def sxRes (P : Program) (H : Heap) (ρ : F) : List ResultVar → (List Value → Prop) → Prop
  | [], K => K []
  | .tmp t :: l, K => sxRes P H ρ l fun vs => K (ρ t :: vs)
  | .cell a t :: l, K => sxOpt (aLoad P H t (ρ a)) fun v => sxRes P H ρ l fun vs => K (v :: vs)
theorem sxRes_nil {H : Heap} {ρ : F} {K : List Value → Prop} : sxRes P H ρ [] K = K [] := rfl
theorem sxRes_tmp {H : Heap} {ρ : F} {t l} {K : List Value → Prop} : sxRes P H ρ (.tmp t :: l) K = sxRes P H ρ l fun vs => K (ρ t :: vs) := rfl
theorem sxRes_cell {H : Heap} {ρ : F} {a t l} {K : List Value → Prop} : sxRes P H ρ (.cell a t :: l) K = sxOpt (aLoad P H t (ρ a)) fun v => sxRes P H ρ l fun vs => K (v :: vs) := rfl

theorem sxRes_sound {H : Heap} {ρ : F} {a : Act} (ha : Fr N ρ a) : ∀ {l : List ResultVar} {K : List Value → Prop}, sxRes P H ρ l K → ∃ vs, aRes P H a.tmps l = some vs ∧ K vs
  | [], K, h => ⟨[], rfl, h⟩
  | .tmp t :: l, K, h => by
    obtain ⟨vs, h1, h2⟩ := sxRes_sound ha (l := l) h
    refine ⟨ρ t :: vs, ?_, h2⟩
    unfold aRes
    rw [h1, ha.get t]; rfl
  | .cell b t :: l, K, h => by
    obtain ⟨v, hv, h⟩ := (show sxOpt (aLoad P H t (ρ b)) fun v => sxRes P H ρ l fun vs => K (v :: vs) from h)
    obtain ⟨vs, h1, h2⟩ := sxRes_sound ha (l := l) h
    refine ⟨v :: vs, ?_, h2⟩
    unfold aRes
    rw [ha.get b, hv, h1]; rfl

def resQ (P : Program) (rs : List ResultVar) (K : Value → Heap → Prop) : QC := fun e ρ H => match e with
  | .normal => sxRes P H ρ rs fun vs => K (packRes vs) H
  | .ret => sxRes P H ρ rs fun vs => K (packRes vs) H
  | _ => False
theorem resQ_normal {rs : List ResultVar} {K : Value → Heap → Prop} {ρ : F} {H : Heap} : resQ P rs K .normal ρ H = sxRes P H ρ rs fun vs => K (packRes vs) H := rfl
theorem resQ_ret {rs : List ResultVar} {K : Value → Heap → Prop} {ρ : F} {H : Heap} : resQ P rs K .ret ρ H = sxRes P H ρ rs fun vs => K (packRes vs) H := rfl
theorem packRes_one (v : Value) : packRes [v] = v := rfl
theorem packRes_two (v w : Value) (l : List Value) : packRes (v :: w :: l) = .tuple ⟨v :: w :: l⟩ := rfl

theorem fr_args {args : List Value} (h : args.length ≤ N) : Fr N (argF args) { tmps := args.toArray ++ Array.replicate (N - args.toArray.size) undef, defers := [] } := by
  refine ⟨by simp; omega, fun t => ?_⟩
  unfold argF
  simp only [Array.getD_eq_getD_getElem?, List.getD_eq_getElem?_getD]
  by_cases ht : t < args.length
  · rw [Array.getElem?_append_left (by simpa using ht)]; simp
  · rw [Array.getElem?_append_right (by simpa using ht), List.getElem?_eq_none (by omega)]
    simp only [List.size_toArray, Array.getElem?_replicate]
    split <;> rfl

/-- A CALL OF A FUNCTION, BY ITS BODY. -/
theorem call_of {f : FuncId} {fn : Func} {c : Code} {args : List Value} {H : Heap} {K : Value → Heap → Prop} (hf : P.funcs[f]? = some fn) (hb : fn.body = some c) (hn : args.length ≤ fn.ntmps) (ho : ¬ S.O f args H)
    (h : sxC P S fn.ntmps c (argF args) H (resQ P fn.results.toList K)) : WCall P S (.fn f) args H K := by
  obtain ⟨D, d, e, a', H', ρ', hr, hfr, hq⟩ := sxC_sound h _ (fr_args hn)
  have key : ∃ vs, aRes P H' a'.tmps fn.results.toList = some vs ∧ K (packRes vs) H' ∧ (e = .normal ∨ e = .ret) := by
    cases e with
    | normal => obtain ⟨vs, h1, h2⟩ := sxRes_sound hfr hq; exact ⟨vs, h1, h2, .inl rfl⟩
    | ret => obtain ⟨vs, h1, h2⟩ := sxRes_sound hfr hq; exact ⟨vs, h1, h2, .inr rfl⟩
    | exit _ => exact False.elim hq
    | goto _ => exact False.elim hq
  obtain ⟨vs, h1, h2, he⟩ := key
  refine ⟨packRes vs, H', ⟨D, d + 1, ?_⟩, h2⟩
  unfold oCallN
  rw [if_neg ho]
  unfold aFun
  rw [hf]
  simp only [hb]
  rw [hr]
  rcases he with rfl | rfl <;> simp only [h1, Option.map_some]

/-- A call that is known. -/
theorem call_known {f : FuncId} {args : List Value} {H : Heap} {K : Value → Heap → Prop} (ho : S.O f args H) : WCall P S (.fn f) args H K = K (.bool true) H :=
  Runs.sx (P := P) (S := S) ⟨0, 1, by unfold oCallN; rw [if_pos ho]⟩ K

end Go.AM
