/- A general tool, which names no program: a canonical machine for the model's own code (rows of cells by number, no world, no open order), proved: what it comes to is what every run comes to. -/
import Derived.Test.YtimbciadadjhiaaDoorAm12
set_option linter.unusedVariables false
set_option linter.unusedSimpArgs false
set_option linter.unusedSectionVars false
namespace Go.AM
open Go.RowKit (Below)

variable {P : Program} {n0 : Nat} {D0 : List Deferred}
variable {G : Nat} {call : CallF} {ops : Array Oper} {as : Nat → Act} {hs h1 : Nat → Heap} {vs : Nat → Value}

/-- How a world stands in which the operations of 'L' have been carried out, in whatever order. -/
structure Inv (P : Program) (n0 : Nat) (D0 : List Deferred) (ops : Array Oper) (as : Nat → Act) (hs h1 : Nat → Heap) (vs : Nat → Value) (m0 : Map) (w0 : World) (L : Nat → Bool) (A : Act) (w : World) (m : Map) (p q : Nat) : Prop where
  pq : p ≤ q
  qn : q ≤ ops.size
  lp : ∀ i, i < p → L i = true ∨ freeAt ops i = true ∨ LateAt P ops as vs i (hs p)
  lq : ∀ i, q ≤ i → i < ops.size → freeAt ops i = false → L i = false
  nt : ∀ i, p ≤ i → i < q → nt hs h1 i
  tq : q < ops.size → ¬ AM.nt hs h1 q
  closed : ∀ j, j < ops.size → L j = true → ∀ o, ops[j]? = some o → ∀ e ∈ o.after.toList, bindsAny e = true → L e.on = true
  mono : m0.le m
  below : Below n0 w0 w
  fr : ∀ b, b < w0.heap.size → (∀ r rm, m0 r = some rm → rm.blk = b → rm.ro = true ∨ r < (hs q).low) → w.heap[b]? = w0.heap[b]?
  new : ∀ r rm, m r = some rm → m0 r = some rm ∨ ((hs 0).size ≤ r ∧ rm.ro = false ∧ (w0.heap.size ≤ rm.blk ∨ ∃ r0 rm0, m0 r0 = some rm0 ∧ rm0.blk = rm.blk ∧ rm0.ro = false ∧ (hs q).low ≤ r0))
  hr : ∀ k, p ≤ k → k ≤ q → HR n0 (m.lt (hs k).size) (hs k) w
  dom : ∀ r rm, m r = some rm → r < (hs p).size ∨ ∃ j, p ≤ j ∧ j < q ∧ L j = true ∧ (hs j).size ≤ r ∧ r < (hs (j + 1)).size
  loops : ∀ (b : Nat) (L : Loop), w0.heap[b]? = some (Obj.loop L) → ∃ L', w.heap[b]? = some (Obj.loop L')
  sz : A.tmps.size = (as 0).tmps.size
  D : A.defers = D0
  tm : ∀ t, ∃ k, k ≤ ops.size ∧ VR (m.lt (hs (max k p)).size) ((as k).tmps.getD t undef) (A.tmps.getD t undef) ∧ (∀ i, i < k → dstIs ops i t = true → L i = true) ∧
    (∀ i, k ≤ i → i < ops.size → dstIs ops i t = true → L i = false) ∧ (k = 0 ∨ (dstIs ops (k - 1) t = true ∧ L (k - 1) = true))

theorem reach_in {L : Nat → Bool} (hcl : ∀ j, j < ops.size → L j = true → ∀ o, ops[j]? = some o → ∀ e ∈ o.after.toList, bindsAny e = true → L e.on = true) (hd : DrawOk ops)
    {i j : Nat} (h : Reach ops i j) : j < ops.size → (∀ o, ops[j]? = some o → ∀ e ∈ o.after.toList, bindsAny e = true → L e.on = true) → L i = true ∧ i < j := by
  induction h with
  | @edge j o e ho he hb => exact fun _ hj => ⟨hj o ho e he hb, hd.back j o ho e he hb⟩
  | @trans i k j _ _ ih1 ih2 =>
    intro hlt hj
    obtain ⟨hk, hkj⟩ := ih2 hlt hj
    obtain ⟨hi, hik⟩ := ih1 (by omega) (hcl k (by omega) hk)
    exact ⟨hi, by omega⟩

def setL (L : Nat → Bool) (j : Nat) : Nat → Bool := fun i => if i = j then true else L i

variable {m0 : Map} {w0 : World} {L : Nat → Bool} {A : Act} {w : World} {m : Map} {p q : Nat}

/-- What an operation reads that is ready. -/
theorem Inv.reads (T : Setting P G call ops as hs h1 vs) (I : Inv P n0 D0 ops as hs h1 vs m0 w0 L A w m p q) {j : Nat} (hj : j < ops.size) (hL : L j = false)
    (hrdy : ∀ o, ops[j]? = some o → ∀ e ∈ o.after.toList, bindsAny e = true → L e.on = true) {t : Nat} (ht : t ∈ namesOf ops j) :
    VR (m.lt (hs (max j p)).size) ((as j).tmps.getD t undef) (A.tmps.getD t undef) := by
  have hpn : p ≤ ops.size := Nat.le_trans I.pq I.qn
  obtain ⟨k, hkn, hv, hlo, hhi, hmin⟩ := I.tm t
  have hkj : k ≤ j := by
    rcases hmin with h0 | ⟨hd, hl⟩
    · omega
    · rcases Nat.lt_or_ge j k with hlt | hge
      · exfalso
        by_cases he : k - 1 = j
        · rw [he, hL] at hl; cases hl
        · have hr := (T.hd.names j hj t ht (k - 1) (by omega) he hd).2 (by omega)
          have hk1 : k - 1 < ops.size := by omega
          have := (reach_in I.closed T.hd hr hk1 (I.closed (k - 1) hk1 hl)).1
          rw [hL] at this; cases this
      · exact hge
  have hkeep := T.asKeep t k j hkj (by omega) fun l hl1 hl2 => by
    cases hdl : dstIs ops l t with
    | false => rfl
    | true =>
      have hr := (T.hd.names j hj t ht l (by omega) (by omega) hdl).1 hl2
      have h1 := (reach_in I.closed T.hd hr hj hrdy).1
      have h2 := hhi l hl1 (by omega) hdl
      rw [h1] at h2; cases h2
  rw [hkeep]
  exact hv.mono (Map.lt_mono (Map.le_refl _) (T.sizes (max k p) (max j p) (by omega) (by omega)))

/-- The temporaries behind an operation. -/
theorem Inv.tmps (T : Setting P G call ops as hs h1 vs) (I : Inv P n0 D0 ops as hs h1 vs m0 w0 L A w m p q) {j : Nat} (hj : j < ops.size) (hL : L j = false)
    (hrdy : ∀ o, ops[j]? = some o → ∀ e ∈ o.after.toList, bindsAny e = true → L e.on = true) {o : Oper} (ho : ops[j]? = some o) {mm : Map} (hmm : m.le mm) {v' : Value} {p' : Nat} (hpp : p ≤ p') (hpn : p' ≤ ops.size)
    (hv' : VR (mm.lt (hs (max (j + 1) p')).size) (vs j) v') (t : Nat) :
    ∃ k, k ≤ ops.size ∧ VR (mm.lt (hs (max k p')).size) ((as k).tmps.getD t undef) ((A.put o.dst v').tmps.getD t undef) ∧ (∀ i, i < k → dstIs ops i t = true → setL L j i = true) ∧
    (∀ i, k ≤ i → i < ops.size → dstIs ops i t = true → setL L j i = false) ∧ (k = 0 ∨ (dstIs ops (k - 1) t = true ∧ setL L j (k - 1) = true)) := by
  obtain ⟨o', ho', _, has, _⟩ := T.ht.step j (Nat.zero_le _) hj
  rw [ho] at ho'; cases ho'
  by_cases hd : o.dst = some t
  · -- written
    have hdj : dstIs ops j t = true := (dstIs_of ho).2 hd
    have hnm : t ∈ namesOf ops j := by unfold namesOf; rw [ho]; simp [hd]
    refine ⟨j + 1, hj, ?_, ?_, ?_, .inr ⟨hdj, by simp [setL]⟩⟩
    · rw [has, put_getD, put_getD]
      have hsz : (as j).tmps.size = A.tmps.size := by rw [T.asSize j (by omega), I.sz]
      rw [hsz]
      by_cases hlt : t < A.tmps.size
      · rw [if_pos ⟨hd, hlt⟩, if_pos ⟨hd, hlt⟩]; exact hv'
      · rw [if_neg (fun h => hlt h.2), if_neg (fun h => hlt h.2)]
        simp only [Array.getD_eq_getD_getElem?]
        rw [Array.getElem?_eq_none (by omega), Array.getElem?_eq_none (by omega)]
        exact .plain rfl
    · intro i hi hdi
      unfold setL
      split
      · rfl
      · rename_i hne
        have hr := (T.hd.names j hj t hnm i (by omega) hne hdi).1 (by omega)
        exact (reach_in I.closed T.hd hr hj hrdy).1
    · intro i hi hin hdi
      unfold setL
      rw [if_neg (by omega)]
      cases hli : L i with
      | false => rfl
      | true =>
        have hr := (T.hd.names j hj t hnm i hin (by omega) hdi).2 (by omega)
        have := (reach_in I.closed T.hd hr hin (I.closed i hin hli)).1
        rw [hL] at this; cases this
  · obtain ⟨k, hkn, hv, hlo, hhi, hmin⟩ := I.tm t
    have hdj : dstIs ops j t = false := by
      cases h : dstIs ops j t with
      | false => rfl
      | true => exact absurd ((dstIs_of ho).1 h) hd
    refine ⟨k, hkn, ?_, ?_, ?_, ?_⟩
    · rw [put_getD, if_neg (fun h => hd h.1)]
      exact hv.mono (Map.lt_mono hmm (T.sizes (max k p) (max k p') (by omega) (by omega)))
    · intro i hi hdi
      unfold setL
      split
      · rfl
      · exact hlo i hi hdi
    · intro i hi hin hdi
      unfold setL
      split
      · rename_i he; rw [he, hdj] at hdi; cases hdi
      · exact hhi i hi hin hdi
    · rcases hmin with h0 | ⟨h1', h2⟩
      · exact .inl h0
      · refine .inr ⟨h1', ?_⟩
        unfold setL
        split
        · rfl
        · exact h2

theorem setL_closed {j : Nat} (hcl : ∀ j, j < ops.size → L j = true → ∀ o, ops[j]? = some o → ∀ e ∈ o.after.toList, bindsAny e = true → L e.on = true)
    (hrdy : ∀ o, ops[j]? = some o → ∀ e ∈ o.after.toList, bindsAny e = true → L e.on = true) :
    ∀ i, i < ops.size → setL L j i = true → ∀ o, ops[i]? = some o → ∀ e ∈ o.after.toList, bindsAny e = true → setL L j e.on = true := by
  intro i hi hl o ho e he hb
  unfold setL at hl ⊢
  split
  · rfl
  · split at hl
    · rename_i hij; subst hij; exact hrdy o ho e he hb
    · exact hcl i hi hl o ho e he hb

/-- One operation that is ready. -/
theorem Inv.step (T : Setting P G call ops as hs h1 vs) (hG : Glob m0 G) (hm0 : ∀ r rm, m0 r = some rm → r < (hs 0).size)
    (I : Inv P n0 D0 ops as hs h1 vs m0 w0 L A w m p q) {j : Nat} (hj : j < ops.size) (hL : L j = false)
    (hrdy : ∀ o, ops[j]? = some o → ∀ e ∈ o.after.toList, bindsAny e = true → L e.on = true) (K : Act → World → Prop) (Q : Exit → Act → World → Prop)
    (ro : Option Nat) (hK : ∀ A' w' m' p' q', Inv P n0 D0 ops as hs h1 vs m0 w0 (setL L j) A' w' m' p' q' → K A' w') : wpOpIn (fenceOf ro) 0 P ops Q j K A w := by
  obtain ⟨o, ho, hst, has, hhs, hbar⟩ := T.ht.step j (Nat.zero_le _) hj
  have hpn : p ≤ ops.size := Nat.le_trans I.pq I.qn
  have hok := okOpers_mem T.hok o (by rw [Array.mem_toList_iff]; exact Array.mem_of_getElem? ho)
  have hszj : (as j).tmps.size = A.tmps.size := by rw [T.asSize j (by omega), I.sz]
  have hDn : ∀ v', (A.put o.dst v').defers = D0 := fun v' => by rw [put_defers]; exact I.D
  have hsn : ∀ v', (A.put o.dst v').tmps.size = (as 0).tmps.size := fun v' => by rw [put_size]; exact I.sz
  have hmall : ∀ k, q ≤ k → k ≤ ops.size → m.lt (hs k).size = m := fun k hk hkn => Map.lt_eq fun r rm h => by
    rcases I.dom r rm h with h2 | ⟨j', a, b, c, d, e⟩
    · exact Nat.lt_of_lt_of_le h2 (T.sizes p k (by have := I.pq; omega) hkn)
    · exact Nat.lt_of_lt_of_le e (T.sizes (j' + 1) k (by omega) hkn)
  by_cases hfree : freeAt ops j = true ∨ j < p
  · -- an operation that has nothing to do with the memory, or a late load: wherever it comes
    -- the place at which the memory is looked at
    obtain ⟨js, hjs1, hjs2, hjs4, hjs3⟩ : ∃ js, p ≤ js ∧ js ≤ q ∧ (js ≤ max (j + 1) p ∧ (j < p → js = p)) ∧ (m.lt (hs (max j p)).size).le (m.lt (hs js).size) := by
      rcases Nat.lt_or_ge q (max j p) with h | h
      · refine ⟨q, I.pq, Nat.le_refl _, ⟨by omega, fun h2 => by have := I.pq; omega⟩, ?_⟩
        rw [hmall q (Nat.le_refl _) I.qn]
        exact Map.lt_le _ _
      · exact ⟨max j p, by omega, h, ⟨by omega, fun h2 => by omega⟩, Map.le_refl _⟩
    obtain ⟨hjs4, hjs5⟩ := hjs4
    have hjsn : js ≤ ops.size := Nat.le_trans hjs2 I.qn
    have hfs : aStep P call ops o (as j) ((hs js).relow (hs js).size) = some (vs j, (hs js).relow (hs js).size) := by
      by_cases hf : freeAt ops j = true
      · exact (T.free hj hf ho).2 _
      · have hlt := hfree.resolve_left hf
        rw [hjs5 hlt]
        rcases I.lp j hlt with h | h | h
        · rw [hL] at h; cases h
        · exact absurd h hf
        · exact h.step ho _
    have hmlt : ∀ r rm, (m.lt (hs js).size) r = some rm → r < (hs js).size := fun r rm h => (Map.lt_some h).1
    have hHRj : HR n0 (m.lt (hs js).size) ((hs js).relow (hs js).size) w := by
      have h0 := I.hr js hjs1 hjs2
      exact ⟨h0.base, h0.row, h0.apart, h0.inv⟩
    have hGj : Glob (m.lt (hs js).size) G := fun g hg => by
      obtain ⟨rm, h1, h2⟩ := hG g hg
      exact ⟨rm, Map.lt_of (Nat.lt_of_lt_of_le (hm0 _ _ h1) (T.sizes 0 js (Nat.zero_le _) (by omega))) (I.mono _ _ h1), h2⟩
    unfold wpOpIn
    rw [ho]
    refine aStep_sound ro T.hc hHRj hGj hok hszj (fun t ht => (I.reads T hj hL hrdy (by unfold namesOf; rw [ho]; exact List.mem_append_right _ ht)).mono hjs3) hfs K Q fun v' m' w' hext hv => ?_
    have hm' : ∀ r rm, m' r = some rm → (m.lt (hs js).size) r = some rm := fun r rm h => by
      rcases hext.new r rm h with h0 | ⟨hge, _, _⟩
      · exact h0
      · have := hext.hr.lt h
        have h1 : (hs js).size ≤ r := hge
        have h2 : r < (hs js).size := this
        omega
    have hbl : ∀ b, b < w.heap.size → w'.heap[b]? = w.heap[b]? := fun b hb => hext.fr b hb fun r rm hr _ => .inr (hmlt r rm hr)
    have hv2 : VR (m.lt (hs (max (j + 1) p)).size) (vs j) v' := by
      refine hv.mono fun r rm h => ?_
      obtain ⟨hlt, h⟩ := Map.lt_some (hm' r rm h)
      exact Map.lt_of (Nat.lt_of_lt_of_le hlt (T.sizes js _ hjs4 (by omega))) h
    refine hK _ _ m p q ⟨I.pq, I.qn, ?_, ?_, I.nt, I.tq, setL_closed I.closed hrdy, I.mono, I.below.trans hext.below, ?_, I.new, ?_, ?_, ?_, hsn _, hDn _, I.tmps T hj hL hrdy ho (Map.le_refl _) (Nat.le_refl _) hpn hv2⟩
    · intro i hi; unfold setL; split
      · exact .inl rfl
      · exact I.lp i hi
    · intro i hi hin hf; unfold setL
      split
      · rename_i he
        rcases hfree with h | h
        · rw [he, h] at hf; cases hf
        · have := I.pq; omega
      · exact I.lq i hi hin hf
    · intro b hb hall
      exact (hbl b (Nat.lt_of_lt_of_le hb I.below.size)).trans (I.fr b hb hall)
    · intro k hpk hkq
      exact (I.hr k hpk hkq).world hbl hext.below.size
    · intro r rm hr
      rcases I.dom r rm hr with h2 | ⟨j', a, b, c, d, e⟩
      · exact .inl h2
      · refine .inr ⟨j', a, b, ?_, d, e⟩
        unfold setL; split
        · rfl
        · exact c
    · intro b L hb
      obtain ⟨L1, h1⟩ := I.loops b L hb
      exact hext.loops b L1 h1
  have hnf : freeAt ops j = false := by cases h : freeAt ops j with
    | false => rfl
    | true => exact absurd (.inl h) hfree
  have hjp : p ≤ j := by
    rcases Nat.lt_or_ge j p with h | h
    · exact absurd (.inr h) hfree
    · exact h
  have hqf : q < ops.size → freeAt ops q = false := fun hqn => by
    cases h : freeAt ops q with
    | false => rfl
    | true =>
      exfalso
      refine I.tq hqn ?_
      unfold AM.nt
      rw [(T.free hqn h (Array.getElem?_eq_getElem hqn)).1]
      exact Nat.le_refl _
  -- where it stands
  have hjq : j ≤ q ∧ (j = q → ∀ i, i < j → L i = true ∨ freeAt ops i = true ∨ lateOk ops (as j).eval (hs j) i j = true) := by
    rcases Nat.lt_or_ge j q with hlt | hge
    · exact ⟨by omega, fun h => by omega⟩
    · have hqn : q < ops.size := by omega
      obtain ⟨oq, _, _, _, _, hbq⟩ := T.ht.step q (Nat.zero_le _) hqn
      have hbq := barrier_spec (hbq.resolve_left (I.tq hqn))
      by_cases he : j = q
      · refine ⟨by omega, fun _ i hi => ?_⟩
        rw [he] at hrdy hi hj
        rcases hbq.1 i hi with h | h | h
        · exact .inr (.inl h)
        · exact .inl (reach_in I.closed T.hd h hj hrdy).1
        · rw [he]; exact .inr (.inr h)
      · exfalso
        rcases hbq.2 j (by omega) hj with h | h
        · rw [hnf] at h; cases h
        · have := (reach_in I.closed T.hd h hj hrdy).1
          rw [I.lq q (Nat.le_refl _) hqn (hqf hqn)] at this; cases this
  have hmlt : ∀ r rm, (m.lt (hs j).size) r = some rm → r < (hs j).size := fun r rm h => (Map.lt_some h).1
  have hHRj : HR n0 (m.lt (hs j).size) ((hs j).relow (hs j).size) w := by
    have h0 := I.hr j hjp hjq.1
    exact ⟨h0.base, h0.row, h0.apart, h0.inv⟩
  have hGj : Glob (m.lt (hs j).size) G := fun g hg => by
    obtain ⟨rm, h1, h2⟩ := hG g hg
    exact ⟨rm, Map.lt_of (Nat.lt_of_lt_of_le (hm0 _ _ h1) (T.sizes 0 j (Nat.zero_le _) (by omega))) (I.mono _ _ h1), h2⟩
  have hmx : max j p = j := by omega
  unfold wpOpIn
  rw [ho]
  refine aStep_sound ro T.hc hHRj hGj hok hszj (fun t ht => by have := I.reads T hj hL hrdy (t := t) (by unfold namesOf; rw [ho]; exact List.mem_append_right _ ht); rw [hmx] at this; exact this) hst K Q fun v' m' w' hext hv => ?_
  have hsz1 := T.size1 j hj
  have hsle : (hs j).size ≤ (hs (j + 1)).size := T.sizes j (j + 1) (by omega) (by omega)
  have hm'lt : ∀ r rm, m' r = some rm → r < (hs (j + 1)).size := fun r rm h => by rw [hsz1]; exact hext.hr.lt h
  have hlo : ∀ (b : Nat) (L : Loop), w0.heap[b]? = some (Obj.loop L) → ∃ L', w'.heap[b]? = some (Obj.loop L') := fun b L hb => by
    obtain ⟨L1, h1⟩ := I.loops b L hb
    exact hext.loops b L1 h1
  by_cases hn : AM.nt hs h1 j
  · -- nothing that was there has turned
    have hjlt : j < q := by
      rcases Nat.lt_or_ge j q with h | h
      · exact h
      · have he : j = q := by omega
        rw [he] at hn hj
        exact absurd hn (I.tq hj)
    have hbl : ∀ b, b < w.heap.size → w'.heap[b]? = w.heap[b]? := fun b hb => hext.fr b hb fun r rm hr _ => .inr (Nat.lt_of_lt_of_le (hmlt r rm hr) hn)
    -- the maps joined
    let mm : Map := fun r => match m r with | some x => some x | none => m' r
    have hmm1 : m.le mm := fun r rm h => by show (match m r with | some x => some x | none => m' r) = some rm; rw [h]
    have hmm2 : m'.le mm := fun r rm h => by
      show (match m r with | some x => some x | none => m' r) = some rm
      cases hmr : m r with
      | none => exact h
      | some x =>
        rcases hext.new r rm h with h0 | ⟨hge, _, _⟩
        · rw [(Map.lt_some h0).2] at hmr; cases hmr; rfl
        · exfalso
          have hge : (hs j).size ≤ r := hge
          have hlt := hm'lt r rm h
          rcases I.dom r x hmr with h2 | ⟨j', h2, h3, h4, h5, h6⟩
          · have := T.sizes p j hjp (by omega); omega
          · rcases Nat.lt_trichotomy j' j with h7 | h7 | h7
            · have := T.sizes (j' + 1) j (by omega) (by omega); omega
            · rw [h7, hL] at h4; cases h4
            · have := T.sizes (j + 1) j' (by omega) (by have := I.qn; omega); omega
    have hmm3 : ∀ r rm, mm r = some rm → m r = some rm ∨ (m' r = some rm ∧ (hs j).size ≤ r ∧ rm.ro = false ∧ w.heap.size ≤ rm.blk) := fun r rm h => by
      have h : (match m r with | some x => some x | none => m' r) = some rm := h
      cases hmr : m r with
      | some x => rw [hmr] at h; exact .inl h
      | none =>
        rw [hmr] at h
        rcases hext.new r rm h with h0 | ⟨hge, hro, hb | ⟨r0, rm0, h00, _, _, hlow⟩⟩
        · rw [(Map.lt_some h0).2] at hmr; cases hmr
        · exact .inr ⟨h, hge, hro, hb⟩
        · have := hmlt r0 rm0 h00
          have hn : (hs j).size ≤ (h1 j).low := hn
          omega
    have hv2 : VR (mm.lt (hs (j + 1)).size) (vs j) v' := by
      refine hv.mono fun r rm h => Map.lt_of (hm'lt r rm h) (hmm2 r rm h)
    refine hK _ _ mm p q ⟨I.pq, I.qn, ?_, ?_, I.nt, I.tq, setL_closed I.closed hrdy, Map.le_trans I.mono hmm1, I.below.trans hext.below, ?_, ?_, ?_, ?_, hlo, hsn _, hDn _, I.tmps T hj hL hrdy ho hmm1 (Nat.le_refl _) hpn (by rw [show max (j + 1) p = j + 1 by omega]; exact hv2)⟩
    · intro i hi; unfold setL; split
      · exact .inl rfl
      · exact I.lp i hi
    · intro i hi hin hf; unfold setL; rw [if_neg (by omega)]; exact I.lq i hi hin hf
    · intro b hb hall
      exact (hbl b (Nat.lt_of_lt_of_le hb I.below.size)).trans (I.fr b hb hall)
    · intro r rm hr
      rcases hmm3 r rm hr with h | ⟨_, hge, hro, hb⟩
      · exact I.new r rm h
      · exact .inr ⟨Nat.le_trans (T.sizes 0 j (Nat.zero_le _) (by omega)) hge, hro, .inl (Nat.le_trans I.below.size hb)⟩
    · intro k hpk hkq
      have hkn : k ≤ ops.size := by have := I.qn; omega
      have ha : HR n0 (m.lt (hs k).size) (hs k) w' := (I.hr k hpk hkq).world hbl hext.below.size
      rcases Nat.lt_or_ge j k with hjk | hkj
      · -- its own rows are there
        have hsame := T.same (j + 1) k (by omega) hkn fun l hl1 hl2 => I.nt l (by omega) (by omega)
        have hb : HR n0 m' (hs k) w' := by
          refine hext.hr.swap (T.inv k hkn) fun r rm hr => ?_
          have hlt := hm'lt r rm hr
          refine ⟨Nat.lt_of_lt_of_le hlt (T.sizes (j + 1) k (by omega) hkn), fun row hrow => ?_⟩
          obtain ⟨e1, e2⟩ := hsame r hlt
          have hrow' : (hs (j + 1)).rows.get r = some row := by rw [hhs]; exact hrow
          refine ⟨e1.trans hrow', (e2 row hrow').trans ?_⟩
          rw [hhs]; rfl
        refine HR.merge (B := w.heap.size) ha hb (Map.lt_mono hmm1 (Nat.le_refl _)) (fun r rm h => Map.lt_of (Nat.lt_of_lt_of_le (hm'lt r rm h) (T.sizes (j + 1) k (by omega) hkn)) (hmm2 r rm h)) ?_ ?_
        · intro r rm hr
          obtain ⟨hlt, hr⟩ := Map.lt_some hr
          rcases hmm3 r rm hr with h | ⟨h, _, hro, hbk⟩
          · exact .inl (Map.lt_of hlt h)
          · exact .inr ⟨h, hro, hbk⟩
        · intro r rm hr
          obtain ⟨row, _, _, hf⟩ := (I.hr k hpk hkq).row r rm hr
          exact hf.lt
      · have he : mm.lt (hs k).size = m.lt (hs k).size := by
          funext r
          unfold Map.lt
          split
          · rename_i hlt
            show (match m r with | some x => some x | none => m' r) = m r
            cases hmr : m r with
            | some x => rfl
            | none =>
              cases hm'r : m' r with
              | none => rfl
              | some rm =>
                exfalso
                rcases hext.new r rm hm'r with h0 | ⟨hge, _, _⟩
                · rw [(Map.lt_some h0).2] at hmr; cases hmr
                · have hge : (hs j).size ≤ r := hge
                  have := T.sizes k j hkj (by omega); omega
          · rfl
        rw [he]; exact ha
    · intro r rm hr
      rcases hmm3 r rm hr with h | ⟨h, hge, _, _⟩
      · rcases I.dom r rm h with h2 | ⟨j', a, b, c, d, e⟩
        · exact .inl h2
        · refine .inr ⟨j', a, b, ?_, d, e⟩
          unfold setL; split
          · rfl
          · exact c
      · exact .inr ⟨j, hjp, hjlt, by simp [setL], hge, hm'lt r rm h⟩
  · -- a barrier: all that stands ahead is done, and nothing else
    have hjq2 : j = q := by
      rcases Nat.lt_or_ge j q with h | h
      · exact absurd (I.nt j hjp h) hn
      · omega
    have hall := hjq.2 hjq2
    have hmd : ∀ r rm, m r = some rm → r < (hs j).size := fun r rm h => by
      rcases I.dom r rm h with h2 | ⟨j', a, b, c, d, e⟩
      · exact Nat.lt_of_lt_of_le h2 (T.sizes p j hjp (by omega))
      · exact Nat.lt_of_lt_of_le e (T.sizes (j' + 1) j (by omega) (by omega))
    have hmeq : m.lt (hs j).size = m := Map.lt_eq hmd
    rw [hmeq] at hext
    obtain ⟨q', hq1, hq2, hq3, hq4⟩ := nt_first (hs := hs) (h1 := h1) ops.size (ops.size - (j + 1)) (j + 1) (by omega)
    have hlow := T.low1 j hj
    have hlowq := T.lows (j + 1) q' hq1 hq2
    have hm'eq : ∀ k, j + 1 ≤ k → k ≤ ops.size → m'.lt (hs k).size = m' := fun k h1' h2 => Map.lt_eq fun r rm h => Nat.lt_of_lt_of_le (hm'lt r rm h) (T.sizes (j + 1) k h1' h2)
    have hv2 : VR (m'.lt (hs (j + 1)).size) (vs j) v' := by rw [hm'eq (j + 1) (Nat.le_refl _) (by omega)]; exact hv
    refine hK _ _ m' (j + 1) q' ⟨hq1, hq2, ?_, ?_, hq3, hq4, setL_closed I.closed hrdy, Map.le_trans I.mono hext.mono, I.below.trans hext.below, ?_, ?_, ?_, ?_, hlo, hsn _, hDn _, I.tmps T hj hL hrdy ho hext.mono (by omega) (by omega) (by rw [show max (j + 1) (j + 1) = j + 1 by omega]; exact hv2)⟩
    · intro i hi; unfold setL; split
      · exact .inl rfl
      · rename_i hne
        have hij : i < j := by omega
        rcases hall i hij with h | h | h
        · exact .inl h
        · exact .inr (.inl h)
        · by_cases hLi : L i = true
          · exact .inl hLi
          · refine .inr (.inr (T.late hij hj h ?_))
            rcases Nat.lt_or_ge i p with hip | hip
            · rcases I.lp i hip with h2 | h2 | h2
              · exact absurd h2 hLi
              · exact absurd h (by
                  unfold lateOk
                  unfold freeAt at h2
                  cases hoi : ops[i]? with
                  | none => simp
                  | some oi =>
                    rw [hoi] at h2
                    obtain ⟨dst, op, type, pos, after, guard⟩ := oi
                    cases op <;> first | (simp [freeOp] at h2; done) | (rw [ho]; simp))
              · exact h2.same (T.inv p hpn) (T.same p j hjp (by omega) fun l a b => I.nt l a (by omega))
            · refine LateAt.same ?_ (T.inv i (by omega)) (T.same i j (by omega) (by omega) fun l a b => I.nt l (by omega) (by omega))
              obtain ⟨oi, hoi, hsti, _⟩ := T.ht.step i (Nat.zero_le _) (by omega)
              unfold lateOk at h
              rw [hoi, ho] at h
              simp only [] at h
              split at h
              · rename_i t x t' y v' e1 e2 e3
                refine ⟨oi, t, x, hoi, e1, e2, ?_⟩
                rw [aStep_load e1 e2, Option.map_eq_some_iff] at hsti
                obtain ⟨u, hu, he⟩ := hsti
                rw [show vs i = u from (congrArg Prod.fst he).symm]
                exact hu
              · cases h
    · intro i hi hin hf; unfold setL; rw [if_neg (by omega)]; exact I.lq i (by omega) hin hf
    · intro b hb hal
      have e1 := I.fr b hb fun r rm hr he => (hal r rm hr he).imp id fun h => by
        have := T.lows q q' (by omega) hq2; omega
      have e2 := hext.fr b (Nat.lt_of_lt_of_le hb I.below.size) fun r rm hr he => by
        rcases I.new r rm hr with h0 | ⟨_, _, hb2 | ⟨r0, rm0, h0, hb0, hro, hlo⟩⟩
        · exact (hal r rm h0 he).imp id fun h => by omega
        · omega
        · rcases hal r0 rm0 h0 (hb0.trans he) with h | h
          · rw [hro] at h; cases h
          · have := T.lows q q' (by omega) hq2; omega
      exact e2.trans e1
    · intro r rm hr
      rcases hext.new r rm hr with h | ⟨hge, hro, hb⟩
      · rcases I.new r rm h with h0 | ⟨a, b, c⟩
        · exact .inl h0
        · refine .inr ⟨a, b, c.imp id ?_⟩
          rintro ⟨r0, rm0, h00, h01, h02, h03⟩
          exact ⟨r0, rm0, h00, h01, h02, Nat.le_trans (T.lows q q' (by omega) hq2) h03⟩
      · have hge : (hs j).size ≤ r := hge
        refine .inr ⟨Nat.le_trans (T.sizes 0 j (Nat.zero_le _) (by omega)) hge, hro, ?_⟩
        rcases hb with hb | ⟨r0, rm0, h0, hb0, hro0, hl⟩
        · exact .inl (Nat.le_trans I.below.size hb)
        · rcases I.new r0 rm0 h0 with h00 | ⟨_, _, hb2 | ⟨r1, rm1, h10, h11, h12, h13⟩⟩
          · exact .inr ⟨r0, rm0, h00, hb0, hro0, by omega⟩
          · exact .inl (by omega)
          · exact .inr ⟨r1, rm1, h10, h11.trans hb0, h12, by have := T.lows q q' (by omega) hq2; omega⟩
    · intro k hpk hkq
      have hkn : k ≤ ops.size := by omega
      rw [hm'eq k hpk hkn]
      have hsame := T.same (j + 1) k hpk hkn fun l hl1 hl2 => hq3 l (by omega) (by omega)
      refine hext.hr.swap (T.inv k hkn) fun r rm hr => ?_
      have hlt := hm'lt r rm hr
      refine ⟨Nat.lt_of_lt_of_le hlt (T.sizes (j + 1) k hpk hkn), fun row hrow => ?_⟩
      obtain ⟨e1, e2⟩ := hsame r hlt
      have hrow' : (hs (j + 1)).rows.get r = some row := by rw [hhs]; exact hrow
      refine ⟨e1.trans hrow', (e2 row hrow').trans ?_⟩
      rw [hhs]; rfl
    · intro r rm hr
      exact .inl (hm'lt r rm hr)

end Go.AM
