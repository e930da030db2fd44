/- A general tool, which names no program: a canonical machine for the model's own code (rows of cells by number, no world, no open order), proved: what it comes to is what every run comes to. -/
import Derived.Test.YtimbciadadjhiaaDoorAm13
set_option linter.unusedVariables false
set_option linter.unusedSimpArgs false
set_option linter.unusedSectionVars false
namespace Go.AM
open Go.RowKit (Below)

variable {P : Program} {n0 : Nat} {D0 : List Deferred}
variable {G : Nat} {call : CallF} {ops : Array Oper}

def Lof (listed : Array Bool) : Nat → Bool := fun i => listed.getD i true

theorem Lof_set {listed : Array Bool} {j : Nat} (hj : j < listed.size) : Lof (listed.setIfInBounds j true) = setL (Lof listed) j := by
  funext i
  unfold Lof setL
  simp only [Array.getD_eq_getD_getElem?, Array.getElem?_setIfInBounds]
  by_cases h : i = j
  · subst h; simp [hj]
  · simp [h, Ne.symm h]

theorem ready_mem {listed : Array Bool} {i : Nat} (h : i ∈ Region.ready .any ops listed) :
    i < ops.size ∧ Lof listed i = false ∧ ∀ o, ops[i]? = some o → ∀ e ∈ o.after.toList, bindsAny e = true → Lof listed e.on = true := by
  unfold Region.ready at h
  simp only [List.mem_filter, List.mem_range, Bool.and_eq_true, Bool.not_eq_true'] at h
  obtain ⟨h1, h2, h3⟩ := h
  refine ⟨h1, h2, fun o ho e he hb => ?_⟩
  rw [ho] at h3
  simp only [Option.map_some, Option.getD_some, Array.all_eq_true_iff_forall_mem] at h3
  have := h3 e (Array.mem_toList_iff.1 he)
  unfold bindsAny at hb
  rw [hb] at this
  simp only [Bool.not_true, Bool.false_or] at this
  unfold Lof
  rw [Array.getD_eq_getD_getElem?] at this ⊢
  cases hq : listed[e.on]? with
  | none => rw [hq] at this; cases this
  | some b => rw [hq] at this; simpa using this

theorem ready_of {listed : Array Bool} {i : Nat} (h1 : i < ops.size) (hs : listed.size = ops.size) (hd : DrawOk ops) (h2 : Lof listed i = false)
    (h3 : ∀ k, k < i → Lof listed k = true) : i ∈ Region.ready .any ops listed := by
  unfold Region.ready
  simp only [List.mem_filter, List.mem_range, Bool.and_eq_true, Bool.not_eq_true']
  refine ⟨h1, h2, ?_⟩
  rw [Array.getElem?_eq_getElem h1]
  simp only [Option.map_some, Option.getD_some, Array.all_eq_true_iff_forall_mem]
  intro e he
  cases hb : Region.binds .any e with
  | false => rfl
  | true =>
    simp only [Bool.not_true, Bool.false_or]
    have hlt := hd.back i ops[i] (Array.getElem?_eq_getElem h1) e (Array.mem_toList_iff.2 he) hb
    have := h3 e.on hlt
    unfold Lof at this
    rw [Array.getD_eq_getD_getElem?, Array.getElem?_eq_getElem (by omega)] at this
    rw [Array.getD_eq_getD_getElem?, Array.getElem?_eq_getElem (by omega)]
    simpa using this

variable {as : Nat → Act} {hs h1 : Nat → Heap} {vs : Nat → Value} {m0 : Map} {w0 : World}

theorem Inv.all (ro : Option Nat) (T : Setting P G call ops as hs h1 vs) (hG : Glob m0 G) (hm0 : ∀ r rm, m0 r = some rm → r < (hs 0).size) {Q : Exit → Act → World → Prop}
    (hQ : ∀ A m w, Ext n0 m0 (hs 0) w0 m (hs ops.size) w → AR m (as ops.size) A → A.defers = D0 → Q .normal A w) :
    ∀ (fuel : Nat) (listed : Array Bool) (unl : List Nat) (A : Act) (w : World) (m : Map) (p q : Nat), Inv P n0 D0 ops as hs h1 vs m0 w0 (Lof listed) A w m p q → listed.size = ops.size → unl.length ≤ fuel →
      (∀ i, i < ops.size → Lof listed i = false → i ∈ unl) → wpAnyIn (fenceOf ro) 0 P .any ops Q fuel listed A w := by
  have fin : ∀ (listed : Array Bool) (A : Act) (w : World) (m : Map) (p q : Nat), Inv P n0 D0 ops as hs h1 vs m0 w0 (Lof listed) A w m p q → (∀ i, i < ops.size → Lof listed i = true) → Q .normal A w := by
    intro listed A w m p q I hall
    have hq : q = ops.size := by
      rcases Nat.lt_or_ge q ops.size with h | h
      · have hqf : freeAt ops q = false := by
          cases hf : freeAt ops q with
          | false => rfl
          | true =>
            exfalso
            refine I.tq h ?_
            unfold AM.nt
            rw [(T.free h hf (Array.getElem?_eq_getElem h)).1]
            exact Nat.le_refl _
        have h1 := I.lq q (Nat.le_refl _) h hqf
        rw [hall q h] at h1; cases h1
      · have := I.qn; omega
    subst hq
    have hmd : ∀ r rm, m r = some rm → r < (hs ops.size).size := fun r rm h => by
      rcases I.dom r rm h with h2 | ⟨j', a, b, c, d, e⟩
      · exact Nat.lt_of_lt_of_le h2 (T.sizes p _ I.pq (Nat.le_refl _))
      · exact Nat.lt_of_lt_of_le e (T.sizes (j' + 1) _ (by omega) (Nat.le_refl _))
    have hr := I.hr ops.size I.pq (Nat.le_refl _)
    rw [Map.lt_eq hmd] at hr
    refine hQ A m w ⟨I.mono, hr, I.below, I.fr, I.new, I.loops⟩ (AR.of_getD (by rw [T.asSize _ (Nat.le_refl _), I.sz]) (fun t => ?_)) I.D
    obtain ⟨k, hkn, hv, _, hhi, _⟩ := I.tm t
    rw [T.asKeep t k ops.size hkn (Nat.le_refl _) fun l h1 h2 => by
      cases hdl : dstIs ops l t with
      | false => rfl
      | true => have := hhi l h1 h2 hdl; rw [hall l h2] at this; cases this]
    exact hv.mono (Map.lt_le _ _)
  have none_ready : ∀ (listed : Array Bool), listed.size = ops.size → Region.ready .any ops listed = [] → ∀ i, i < ops.size → Lof listed i = true := by
    intro listed hsz hr i
    induction i using Nat.strongRecOn with
    | _ i ih =>
      intro hi
      cases hl : Lof listed i with
      | true => rfl
      | false =>
        have := ready_of hi hsz T.hd hl fun k hk => ih k hk (by omega)
        rw [hr] at this; cases this
  intro fuel
  induction fuel with
  | zero =>
    intro listed unl A w m p q I hsz hul hun
    have hnil : unl = [] := List.length_eq_zero_iff.1 (by omega)
    have hall : ∀ i, i < ops.size → Lof listed i = true := fun i hi => by
      cases hl : Lof listed i with
      | true => rfl
      | false => have := hun i hi hl; rw [hnil] at this; cases this
    refine ⟨?_, fin listed A w m p q I hall⟩
    cases hr : Region.ready .any ops listed with
    | nil => rfl
    | cons i l =>
      have := ready_mem (ops := ops) (listed := listed) (i := i) (by rw [hr]; simp)
      rw [hall i this.1] at this
      cases this.2.1
  | succ fuel ih =>
    intro listed unl A w m p q I hsz hul hun
    refine ⟨fun hr => fin listed A w m p q I (none_ready listed hsz hr), fun j hj => ?_⟩
    obtain ⟨hjn, hjl, hje⟩ := ready_mem hj
    refine I.step T hG hm0 hjn hjl hje _ Q ro fun A' w' m' p' q' I' => ?_
    have hin := hun j hjn hjl
    refine ih (listed.setIfInBounds j true) (unl.filter (fun i => i != j)) A' w' m' p' q' ?_ (by simp [hsz]) ?_ ?_
    · rw [Lof_set (by omega)]; exact I'
    · have hlt : (unl.filter (fun i => i != j)).length < unl.length := by
        rw [← List.countP_eq_length_filter]
        rcases Nat.lt_or_ge (unl.countP (fun i => i != j)) unl.length with h | h
        · exact h
        · have he : unl.countP (fun i => i != j) = unl.length := Nat.le_antisymm List.countP_le_length h
          have := List.countP_eq_length.1 he j hin
          simp at this
      omega
    · intro i hi hl
      rw [Lof_set (by omega)] at hl
      unfold setL at hl
      split at hl
      · cases hl
      · rename_i hne
        exact List.mem_filter.2 ⟨hun i hi hl, by simpa using hne⟩

theorem aDraw_go (hc : CallOk P G call) : ∀ (k i : Nat) {a a' : Act} {H H' : Heap}, HInv H → aDraw P call ops k i a H = some (a', H') → HGo H H'
  | 0, i, a, a', H, H', h, e => by cases e; exact .refl h
  | k + 1, i, a, a', H, H', h, e => by
    unfold aDraw at e
    split at e
    · cases e
    · split at e
      · cases e
      · rename_i v H1 hst
        obtain ⟨_, e⟩ := cond_some e
        obtain ⟨g1, i1⟩ := aStep_go hc (h.relow H.size) hst
        have g1' : HF H (H1.relow (Nat.min H.low H1.low)) := by
          refine ⟨g1.size, Nat.min_le_left _ _, fun r hr hl => g1.keep r hr (Nat.lt_of_lt_of_le hl (Nat.min_le_right _ _))⟩
        obtain ⟨g2, i2⟩ := aDraw_go hc k (i + 1) (i1.relow _) e
        exact ⟨g1'.trans g2, i2⟩

theorem aDraw_sound (ro : Option Nat) (hc : CallOk P G call) (hmix : P.follows .mixedOrders = true) {id : Nat} {a a' A : Act} {m : Map} {H H' : Heap} {w : World} {Q : Exit → Act → World → Prop} (hd : okDraw ops = true)
    (hok : okOpers G ops.toList = true) (h : HR n0 m H w) (hG : Glob m G) (hA : AR m a A) (e : aDraw P call ops ops.size 0 a H = some (a', H'))
    (hQ : ∀ A' m' w', Ext n0 m H w m' H' w' → AR m' a' A' → A'.defers = A.defers → Q .normal A' w') : (Code.region id ops true).wpIn (fenceOf ro) 0 P Q A w := by
  obtain ⟨as, hs, h1, vs, ht, e1, e2, e3, e4⟩ := aDraw_trace _ _ e
  rw [Nat.zero_add] at ht e3 e4
  have T : Setting P G call ops as hs h1 vs := ⟨ht, drawOk_of hd, hc, by rw [e2]; exact h.inv, hok⟩
  obtain ⟨q, hq1, hq2, hq3, hq4⟩ := nt_first (hs := hs) (h1 := h1) ops.size ops.size 0 (by omega)
  have hm0 : ∀ r rm, m r = some rm → r < (hs 0).size := fun r rm hr => by rw [e2]; exact h.lt hr
  have hL : ∀ i, i < ops.size → Lof (Array.replicate ops.size false) i = false := fun i hi => by
    unfold Lof; simp [hi]
  refine wpIn_region_any hmix (Inv.all ro T hG hm0 (n0 := n0) (D0 := A.defers) (w0 := w) (fun A' m' w' hext hAR hD => ?_) ops.size _ (List.range ops.size) A w.drew m 0 q ?_ (by simp) (by simp) (fun i hi _ => by simpa using hi))
  · rw [e2, e4] at hext
    rw [e3] at hAR
    exact hQ A' m' w' hext hAR hD
  · refine ⟨hq1, hq2, fun i hi => by omega, fun i _ hi _ => hL i hi, fun i _ hi => hq3 i (Nat.zero_le _) hi, hq4, ?_, Map.le_refl _, (Below.refl _ _).drew, fun _ _ _ => rfl, fun r rm hr => .inl hr, ?_, fun r rm hr => .inl (hm0 r rm hr), fun b L hb => ⟨L, hb⟩, ?_, rfl, ?_⟩
    · intro j hj hl; rw [hL j hj] at hl; cases hl
    · intro k _ hk
      have hkn : k ≤ ops.size := by omega
      rw [Map.lt_eq fun r rm hr => Nat.lt_of_lt_of_le (hm0 r rm hr) (T.sizes 0 k (Nat.zero_le _) hkn)]
      have hsame := T.same 0 k (Nat.zero_le _) hkn fun l hl1 hl2 => hq3 l hl1 (by omega)
      have h0 : HR n0 m (hs 0) w.drew := by rw [e2]; exact h.drew
      refine h0.swap (T.inv k hkn) fun r rm hr => ⟨Nat.lt_of_lt_of_le (hm0 r rm hr) (T.sizes 0 k (Nat.zero_le _) hkn), fun row hrow => ?_⟩
      obtain ⟨x1, x2⟩ := hsame r (hm0 r rm hr)
      exact ⟨x1.trans hrow, x2 row hrow⟩
    · rw [e1]; exact hA.size.symm
    · intro t
      refine ⟨0, Nat.zero_le _, ?_, fun i hi => by omega, fun i _ hi _ => hL i hi, .inl rfl⟩
      rw [e1]
      exact (hA.getD t).mono fun r rm hr => Map.lt_of (hm0 r rm hr) hr

end Go.AM
