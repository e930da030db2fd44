/- A general tool, which names no program: a canonical machine for the model's own code (rows of cells by number, no world, no open order), proved: what it comes to is what every run comes to. -/
import Derived.Test.YtimbciadadjhiaaDoorAm7
set_option linter.unusedVariables false
set_option linter.unusedSimpArgs false
set_option linter.unusedSectionVars false
namespace Go.AM
open Go.RowKit (Below)

variable {P : Program} {n0 : Nat} {m : Map} {H : Heap} {w : World}

theorem HR.drew (h : HR n0 m H w) : HR n0 m H w.drew where
  base := h.base
  row := fun r rm hm => by
    obtain ⟨row, h1, h2, hf⟩ := h.row r rm hm
    exact ⟨row, h1, h2, hf.later (Map.le_refl _) rfl id⟩
  apart := h.apart
  inv := h.inv

/-! The first elements of a slice or a string. -/

def aFirst (H : Heap) (size n : Nat) : Value → Option (List Value)
  | .slice (some ⟨r, o, none⟩) _ _ => cond (Nat.beq (n * size) 0) (some []) (H.read r o (n * size))
  | .slice none _ _ => cond (Nat.beq n 0) (some []) none
  | .string s => cond (Nat.beq size 1 && Nat.ble n s.size) (some ((s.extract 0 n).data.toList.map fun b => .int .u8 b.toNat)) none
  | _ => none

def lenV : Value → Option Nat
  | .slice _ n _ => some n
  | .string s => some s.size
  | _ => none

theorem lenV_sound {x x' : Value} {n : Nat} (hx : VR m x x') (e : lenV x = some n) : (Builtin.lenOf x').run P w = .ok n w := by
  cases x <;> simp only [lenV] at e <;> first | (cases e; done) | skip
  · rw [hx.eq_of_plain rfl]; cases e; rfl
  · cases e
    cases hx <;> rfl

theorem aFirst_sound (h : HR n0 m H w) {size n : Nat} {x x' : Value} {l : List Value} (hx : VR m x x') (e : aFirst H size n x = some l)
    (hn : ∀ k, lenV x = some k → n ≤ k) :
    ∃ l', (Builtin.firstCells size n x').run P w = .ok l'.toArray w ∧ VRs m l l' ∧ l.length = n * size := by
  unfold aFirst at e
  split at e
  · rename_i r o k c
    obtain ⟨rm, o', c', hm, rfl, hc⟩ := hx.slice_inv
    cases hz : Nat.beq (n * size) 0 with
    | true =>
      rw [hz, cond_true] at e
      cases e
      have hz := Nat.eq_of_beq_eq_true hz
      exact ⟨[], by simp [Builtin.firstCells, hz, loadCells, loadCellsFrom], .nil, by simp [hz]⟩
    | false =>
      rw [hz, cond_false] at e
      have hnz : n ≠ 0 := fun q => by rw [q, Nat.zero_mul] at hz; cases hz
      obtain ⟨l', hv, hlen, hlen2, hcell, _⟩ := read_sound h hm e
      have hnk := hn k rfl
      have ho : o' = rm.sh + o := by
        rcases hc with ⟨_, h1, _⟩ | ⟨_, h1, h2, ⟨h3, _⟩ | h3⟩
        · exact h1
        · exact h3
        · omega
      exact ⟨l', by simp only [Builtin.firstCells]; rw [ho]; exact run_loadCells_of hlen hcell, hv, hlen2⟩
  · rename_i k c
    rw [hx.eq_of_plain rfl]
    cases hz : Nat.beq n 0 with
    | false => rw [hz] at e; cases e
    | true =>
      rw [hz, cond_true] at e
      cases e
      have := Nat.eq_of_beq_eq_true hz
      exact ⟨[], rfl, .nil, by simp [this]⟩
  · rename_i s
    rw [hx.eq_of_plain rfl]
    cases hb : (Nat.beq size 1 && Nat.ble n s.size) with
    | false => rw [hb] at e; cases e
    | true =>
      rw [hb, cond_true] at e
      cases e
      simp only [Bool.and_eq_true] at hb
      have h1 := Nat.eq_of_beq_eq_true hb.1
      have h2 := Nat.le_of_ble_eq_true hb.2
      refine ⟨_, ?_, VRs.of_plain (plains_of ?_), ?_⟩
      · simp only [Builtin.firstCells, Sem.run_pure]
        congr 1
        apply Array.ext'
        simp
      · intro v hv
        simp only [List.mem_map] at hv
        obtain ⟨b, _, rfl⟩ := hv
        rfl
      · rw [h1]
        simp only [List.length_map, Array.length_toList, ByteArray.size_data, ByteArray.size_extract]
        omega
  · cases e

/-! append -/

def isIntD : TypeDesc → Bool
  | .int _ => true
  | _ => false


def aAppendSome (H : Heap) (e size : Nat) (r o sl sc n : Nat) (new : List Value) : Option (Value × Heap) :=
  match H.rows.get r with
  | some row =>
    cond (Nat.beq n 0) (cond (Nat.ble sl sc) (some (.slice (some ⟨r, o, none⟩) sl sc, H)) none)
    (cond (Nat.ble (sl + n) sc && (row.exact || Nat.beq size row.esz))
      (cond (!row.ro && (H.alive r row && (ones new && Nat.ble (o + sl * size + new.length) row.cells.length)))
        (some (.slice (some ⟨r, o, none⟩) (sl + n) sc, H.store r row (o + sl * size) new)) none)
      (cond row.exact
        ((cond (Nat.beq (sl * size) 0) (some []) (H.read r o (sl * size))).map fun old =>
          (.slice (some ⟨H.size, 0, none⟩) (sl + n) (sl + n), H.add { cells := old ++ new, elem := e, exact := false, ro := false, esz := size, grp := 2 * H.size + 1, gpos := 0 }))
        (cond (H.alive r row && (Nat.beq size row.esz && (Nat.beq e row.elem && (ones new && (Nat.ble sl sc && Nat.ble (o + sl * size) row.cells.length)))))
          (some (.slice (some ⟨H.size, 0, none⟩) (sl + n) (sl + n), H.grow r row o (sl * size) new)) none)))
  | none => none

def aAppend (P : Program) (H : Heap) (argTypes : Array TypeId) (s x : Value) : Option (Value × Heap) :=
  match argTypes[0]?, argTypes[1]? with
  | some sT, some xT => match P.underlying sT, P.underlying xT with
    | some (.slice e), some d => match isIntD d, P.info? e, lenV x with
      | false, some inf, some n => match inf.zero, aFirst H inf.size n x with
        | some z, some new => cond (Nat.beq z.cells.toList.length inf.size && Nat.blt 0 inf.size) (match s with
          | .slice none sl sc => cond (Nat.beq sl 0 && (Nat.beq sc 0 && small n inf.bytes)) (cond (Nat.beq n 0) (some (.slice none 0 0, H))
              (some (.slice (some ⟨H.size, 0, none⟩) n n, H.add { cells := new, elem := e, exact := false, ro := false, esz := inf.size, grp := 2 * H.size + 1, gpos := 0 }))) none
          | .slice (some ⟨r, o, none⟩) sl sc => cond (small (sl + n) inf.bytes) (aAppendSome H e inf.size r o sl sc n new) none
          | _ => none) none
        | _, _ => none
      | _, _, _ => none
    | _, _ => none
  | _, _ => none

theorem nextcap_le {need cap : Nat} (h : cap < need) : Builtin.nextslicecap need cap ≤ 4 * need + 1024 := by
  have grow : ∀ r c, c ≤ 2 * need + 512 → Builtin.growBy need r c ≤ 4 * need + 1024 := by
    intro r
    induction r with
    | zero => intro c hc; simp [Builtin.growBy]; omega
    | succ r ih =>
      intro c hc
      unfold Builtin.growBy
      split
      · omega
      · exact ih _ (by omega)
  unfold Builtin.nextslicecap
  split
  · omega
  · split
    · omega
    · exact grow _ _ (by omega)

theorem run_append_fresh {argTypes : Array TypeId} {ty sT xT e : TypeId} {inf : TypeInfo} {z : Value} {d : TypeDesc} {base : Option Addr} {sl sc n : Nat} {x : Value} {old new : List Value}
    (h0 : argTypes[0]? = some sT) (h1 : argTypes[1]? = some xT) (hs : P.underlying sT = some (.slice e)) (hx : P.underlying xT = some d) (hd : isIntD d = false)
    (hi : P.info? e = some inf) (hz : inf.zero = some z) (hn : (Builtin.lenOf x).run P w = .ok n w) (hneed : ¬ sl + n ≤ sc) (hsm : small (sl + n) inf.bytes = true)
    (ho : (Builtin.firstCells inf.size sl (.slice base sl sc)).run P w.drew = .ok old.toArray w.drew) (hnew : (Builtin.firstCells inf.size n x).run P w.drew = .ok new.toArray w.drew) :
    ∃ cap, sl + n ≤ cap ∧ (Builtin.append_ argTypes ty #[.slice base sl sc, x]).run P w =
      .ok (.slice (some ⟨w.heap.size, 0, none⟩) (sl + n) cap) (w.drew.alloc (.cells (old ++ new ++ (Builtin.zeroCells z.cells (cap - (sl + n))).toList).toArray e)) := by
  obtain ⟨hs1, hs2⟩ := small_le hsm
  have hnc := nextcap_le (need := sl + n) (cap := sc) (by omega)
  have hnb : ¬ 2 ^ 48 < Builtin.nextslicecap (sl + n) sc * inf.bytes := by
    have h1 : Builtin.nextslicecap (sl + n) sc * inf.bytes ≤ (4 * 268435456 + 1024) * 65536 := Nat.mul_le_mul (by omega) hs2
    omega
  refine ⟨(Question.appendCap (sl + n) sc e).cut (w.tape w.drawn (.appendCap (sl + n) sc e)), by simp [Question.cut], ?_⟩
  have hmx : ¬ ((sl + n : Nat) : Int) > IntKind.i64.max := by
    have : IntKind.i64.max = 9223372036854775807 := by decide
    rw [this]; omega
  have hch : (choose (Question.appendCap (sl + n) sc e)).run P w = .ok ((Question.appendCap (sl + n) sc e).cut (w.tape w.drawn (Question.appendCap (sl + n) sc e))) w.drew := by
    rw [run_choose, if_neg (by simp [Question.forced])]; rfl
  generalize (Question.appendCap (sl + n) sc e).cut (w.tape w.drawn (Question.appendCap (sl + n) sc e)) = cap at hch ⊢
  have hcc : old.toArray ++ new.toArray ++ Builtin.zeroCells z.cells (cap - (sl + n)) = (old ++ new ++ (Builtin.zeroCells z.cells (cap - (sl + n))).toList).toArray := by
    apply Array.ext'; simp
  unfold Builtin.append_
  cases d <;> first
    | (simp [isIntD] at hd; done)
    | (simp only [List.getElem?_toArray, List.getElem?_cons_zero, List.getElem?_cons_succ, h0, h1, Sem.run_bind, run_underlying' hs, Result.andThen_ok, run_sizeOf' hi, run_underlying' hx, Sem.run_pure, Bool.false_eq_true, if_false, hn,
        hneed, run_typeInfo' hi, hmx, false_and, hnb, gt_iff_lt, hch, run_askRoom, ho, Bool.not_false, if_true, hnew, run_zero' hi hz, newRow, run_newObj, hcc]
       rfl)

theorem run_append_room {argTypes : Array TypeId} {ty sT xT e : TypeId} {inf : TypeInfo} {d : TypeDesc} {b o sl sc n : Nat} {x : Value} {new : List Value} {cs : Array Value} {bt : TypeId}
    (h0 : argTypes[0]? = some sT) (h1 : argTypes[1]? = some xT) (hs : P.underlying sT = some (.slice e)) (hx : P.underlying xT = some d) (hd : isIntD d = false)
    (hi : P.info? e = some inf) (hn : (Builtin.lenOf x).run P w = .ok n w) (hneed : sl + n ≤ sc)
    (hnew : (Builtin.firstCells inf.size n x).run P w = .ok new.toArray w) (hone : ∀ v ∈ new, v.oneCell' = true)
    (hb : w.heap[b]? = some (.cells cs bt (0, 0))) (hroom : o + sl * inf.size + new.length ≤ cs.size) :
    (Builtin.append_ argTypes ty #[.slice (some ⟨b, o, none⟩) sl sc, x]).run P w =
      .ok (.slice (some ⟨b, o, none⟩) (sl + n) sc) (w.setRow b (splice cs.toList (o + sl * inf.size) new).toArray) := by
  have hst := run_storeCells_at P b (o + sl * inf.size) bt new 0 cs w hb (by simpa using hroom) hone
  simp only [Nat.add_zero, toList_splice] at hst
  unfold Builtin.append_
  cases d <;> first
    | (simp [isIntD] at hd; done)
    | (simp only [List.getElem?_toArray, List.getElem?_cons_zero, List.getElem?_cons_succ, h0, h1, Sem.run_bind, run_underlying' hs, Result.andThen_ok, run_sizeOf' hi, run_underlying' hx, Sem.run_pure, Bool.false_eq_true, if_false, hn,
        hneed, if_true, Bool.not_false, hnew, addr_add, hst])

theorem run_append_none {argTypes : Array TypeId} {ty sT xT e : TypeId} {inf : TypeInfo} {d : TypeDesc} {base : Option Addr} {sl sc : Nat} {x : Value}
    (h0 : argTypes[0]? = some sT) (h1 : argTypes[1]? = some xT) (hs : P.underlying sT = some (.slice e)) (hx : P.underlying xT = some d) (hd : isIntD d = false)
    (hi : P.info? e = some inf) (hn : (Builtin.lenOf x).run P w = .ok 0 w) (hneed : sl ≤ sc)
    (hnew : (Builtin.firstCells inf.size 0 x).run P w = .ok #[] w) :
    (Builtin.append_ argTypes ty #[.slice base sl sc, x]).run P w = .ok (.slice base sl sc) w := by
  unfold Builtin.append_
  cases d <;> first
    | (simp [isIntD] at hd; done)
    | (simp only [List.getElem?_toArray, List.getElem?_cons_zero, List.getElem?_cons_succ, h0, h1, Sem.run_bind, run_underlying' hs, Result.andThen_ok, run_sizeOf' hi, run_underlying' hx, Sem.run_pure, Bool.false_eq_true, if_false, hn,
        Nat.add_zero, hneed, if_true, Bool.not_false, hnew]
       cases base <;> simp [storeCells])

theorem zeroCells_length {z : Value} {k size : Nat} (h : z.cells.toList.length = size) : (Builtin.zeroCells z.cells k).toList.length = k * size := by
  have h : z.cells.size = size := by simpa using h
  simp [Builtin.zeroCells, h]

theorem aAppend_sound (h : HR n0 m H w) {argTypes : Array TypeId} {ty : TypeId} {s s' x x' v : Value} {H' : Heap} (hs : VR m s s') (hx : VR m x x')
    (e : aAppend P H argTypes s x = some (v, H')) : Sim P n0 m H w (Builtin.append_ argTypes ty #[s', x']) v H' := by
  unfold aAppend at e
  split at e
  case h_2 => cases e
  rename_i sT xT h0 h1
  split at e
  case h_2 => cases e
  rename_i e' d hsT hxT
  split at e
  case h_2 => cases e
  rename_i inf n hd hi hn
  split at e
  case h_2 => cases e
  rename_i z new hz hnew
  cases hb : (Nat.beq z.cells.toList.length inf.size && Nat.blt 0 inf.size) with
  | false => rw [hb] at e; cases e
  | true =>
    rw [hb, cond_true] at e
    simp only [Bool.and_eq_true] at hb
    have hzs := Nat.eq_of_beq_eq_true hb.1
    have hpos : 0 < inf.size := Nat.le_of_ble_eq_true hb.2
    have hlen' := fun w => lenV_sound (P := P) (w := w) hx hn
    obtain ⟨new', hfn, hvn, hln⟩ := aFirst_sound (P := P) h hx hnew (fun k hk => by rw [hn] at hk; cases hk; exact Nat.le_refl _)
    obtain ⟨new2, hfn2, hvn2, _⟩ := aFirst_sound (P := P) h.drew hx hnew (fun k hk => by rw [hn] at hk; cases hk; exact Nat.le_refl _)
    split at e
    · -- onto nil
      rename_i sl sc
      cases hq : (Nat.beq sl 0 && (Nat.beq sc 0 && small n inf.bytes)) with
      | false => rw [hq] at e; cases e
      | true =>
        rw [hq, cond_true] at e
        simp only [Bool.and_eq_true] at hq
        obtain ⟨hq1, hq2, hsm⟩ := hq
        have hq1 := Nat.eq_of_beq_eq_true hq1
        have hq2 := Nat.eq_of_beq_eq_true hq2
        subst hq1; subst hq2
        rw [hs.eq_of_plain rfl]
        cases hnz : Nat.beq n 0 with
        | true =>
          rw [hnz, cond_true] at e
          cases e
          have hnz := Nat.eq_of_beq_eq_true hnz
          subst hnz
          have hnil : new' = [] := List.length_eq_zero_iff.1 (by rw [← hvn.length, hln]; simp)
          subst hnil
          exact Sim.same h (run_append_none h0 h1 hsT hxT hd hi (hlen' w) (Nat.le_refl 0) hfn) (.plain rfl)
        | false =>
          rw [hnz, cond_false] at e
          cases e
          have hn0 : n ≠ 0 := fun q => by rw [q] at hnz; cases hnz
          obtain ⟨cap, hcap, hrun⟩ := run_append_fresh (ty := ty) (base := none) (sl := 0) (sc := 0) (old := []) h0 h1 hsT hxT hd hi hz (hlen' w) (by omega) (by simpa using hsm) rfl hfn2
          have hext := Ext.add h { cells := new, elem := e', exact := false, ro := false, esz := inf.size, grp := 2 * H.size + 1, gpos := 0 } new2 (Builtin.zeroCells z.cells (cap - (0 + n))).toList rfl rfl hvn2 (.inr ⟨rfl, rfl⟩) w.drew (.inr rfl)
          refine ⟨_, _, _, hrun, by simpa using hext, ?_, HF.add H _ (.inr rfl) h.inv⟩
          rw [show 0 + n = n by omega] at hext hcap hrun ⊢
          refine .sliceL (rm := ⟨w.heap.size, 0, _, inf.size, false, false⟩) (Map.put_same _ _ _) rfl (Nat.le_refl _) (by omega) (.inl ⟨rfl, ?_⟩)
          have hzc : (Builtin.zeroCells z.cells (cap - n)).size = (cap - n) * inf.size := by simpa using zeroCells_length (k := cap - n) hzs
          simp only [List.length_append, zeroCells_length hzs, hzc, ← hvn2.length, hln, Nat.zero_add]
          rw [← Nat.add_mul]
          exact Nat.mul_le_mul_right _ (by omega)
    · rename_i r o sl sc
      cases hsm : small (sl + n) inf.bytes with
      | false => rw [hsm] at e; cases e
      | true =>
        rw [hsm, cond_true] at e
        obtain ⟨rm, o', c', hm, rfl, hc⟩ := hs.slice_inv
        unfold aAppendSome at e
        split at e
        case h_2 => cases e
        rename_i row hrow
        have hf := h.rowOf hm hrow
        have hcc : sc ≤ c' := by rcases hc with ⟨_, _, h1⟩ | ⟨_, _, h1, _⟩ <;> omega
        cases hnz : Nat.beq n 0 with
        | true =>
          rw [hnz, cond_true] at e
          cases hle : Nat.ble sl sc with
          | false => rw [hle] at e; cases e
          | true =>
            rw [hle, cond_true] at e
            cases e
            have hnz := Nat.eq_of_beq_eq_true hnz
            have hle := Nat.le_of_ble_eq_true hle
            subst hnz
            have hnil : new' = [] := List.length_eq_zero_iff.1 (by rw [← hvn.length, hln]; simp)
            subst hnil
            exact Sim.same h (run_append_none h0 h1 hsT hxT hd hi (hlen' w) (by omega) hfn) hs
        | false =>
          rw [hnz, cond_false] at e
          have hn0 : n ≠ 0 := fun q => by rw [q] at hnz; cases hnz
          cases hroom : (Nat.ble (sl + n) sc && (row.exact || Nat.beq inf.size row.esz)) with
          | true =>
            rw [hroom, cond_true] at e
            simp only [Bool.and_eq_true] at hroom
            have hle := Nat.le_of_ble_eq_true hroom.1
            cases hok : (!row.ro && (H.alive r row && (ones new && Nat.ble (o + sl * inf.size + new.length) row.cells.length))) with
            | false => rw [hok] at e; cases e
            | true =>
              rw [hok, cond_true] at e
              cases e
              simp only [Bool.and_eq_true, Bool.not_eq_true'] at hok
              obtain ⟨hro, hal, hones, hfit⟩ := hok
              have hfit := Nat.le_of_ble_eq_true hfit
              obtain ⟨cs, hb, hr, hext⟩ := Ext.store h hm hrow hro hal (o + sl * inf.size) new new' hvn hfit
              have ho : o' = rm.sh + o := by
                rcases hc with ⟨_, h1, _⟩ | ⟨_, h1, h2, ⟨h3, _⟩ | h3⟩
                · exact h1
                · exact h3
                · omega
              have hrun := run_append_room (ty := ty) (b := rm.blk) (o := o') (sl := sl) (sc := c') h0 h1 hsT hxT hd hi (hlen' w) (by omega) hfn (ones_mem hvn hones) hb (by omega)
              refine ⟨_, m, _, hrun, ?_, ?_, HF.store H r row _ _⟩
              · rw [ho, show rm.sh + o + sl * inf.size = rm.sh + (o + sl * inf.size) by omega]; exact hext
              · rcases hc with ⟨he, _, hce⟩ | ⟨he, h1, h2, h3⟩
                · rw [hce, ho]; exact .sliceE hm he
                · exact .sliceL hm he hle hcc h3
          | false =>
            rw [hroom, cond_false] at e
            cases hex : row.exact with
            | true =>
              rw [hex] at hroom
              simp only [Bool.true_or, Bool.and_true] at hroom
              have hlt : ¬ sl + n ≤ sc := fun q => by rw [Nat.ble_eq_true_of_le q] at hroom; cases hroom
              rw [hex, cond_true, Option.map_eq_some_iff] at e
              obtain ⟨old, hold, he⟩ := e
              cases he
              rcases hc with ⟨he, ho, hce⟩ | ⟨he, _⟩
              case inr => rw [hf.ex, hex] at he; cases he
              subst ho; subst hce
              have hold' : ∃ old', (Builtin.firstCells inf.size sl (.slice (some ⟨rm.blk, rm.sh + o, none⟩) sl c')).run P w.drew = .ok old'.toArray w.drew ∧ VRs m old old' ∧ old.length = sl * inf.size :=
                aFirst_sound h.drew hs (by unfold aFirst; exact hold) (fun k hk => by cases hk; exact Nat.le_refl _)
              obtain ⟨old', hfo, hvo, hlo⟩ := hold'
              obtain ⟨cap, hcap, hrun⟩ := run_append_fresh (ty := ty) (base := some ⟨rm.blk, rm.sh + o, none⟩) (sl := sl) (sc := c') h0 h1 hsT hxT hd hi hz (hlen' w) hlt hsm hfo hfn2
              have hext := Ext.add h { cells := old ++ new, elem := e', exact := false, ro := false, esz := inf.size, grp := 2 * H.size + 1, gpos := 0 } (old' ++ new2) (Builtin.zeroCells z.cells (cap - (sl + n))).toList rfl rfl (hvo.append hvn2) (.inr ⟨rfl, rfl⟩) w.drew (.inr rfl)
              refine ⟨_, _, _, hrun, hext, ?_, HF.add H _ (.inr rfl) h.inv⟩
              refine .sliceL (rm := ⟨w.heap.size, 0, _, inf.size, false, false⟩) (Map.put_same _ _ _) rfl (Nat.le_refl _) (by omega) (.inl ⟨rfl, ?_⟩)
              simp only [List.length_append, zeroCells_length hzs, ← hvn2.length, ← hvo.length, hln, hlo, Nat.zero_add]
              rw [← Nat.add_mul, ← Nat.add_mul]
              exact Nat.mul_le_mul_right _ (by omega)
            | false =>
              rw [hex, cond_false] at e
              cases hok : (H.alive r row && (Nat.beq inf.size row.esz && (Nat.beq e' row.elem && (ones new && (Nat.ble sl sc && Nat.ble (o + sl * inf.size) row.cells.length))))) with
              | false => rw [hok] at e; cases e
              | true =>
                rw [hok, cond_true] at e
                cases e
                simp only [Bool.and_eq_true] at hok
                obtain ⟨hal, hes, hel, hones, hsl, hfit⟩ := hok
                have hes := Nat.eq_of_beq_eq_true hes
                have hel := Nat.eq_of_beq_eq_true hel
                have hsl := Nat.le_of_ble_eq_true hsl
                have hfit := Nat.le_of_ble_eq_true hfit
                subst hel
                rcases hc with ⟨he, _⟩ | ⟨he, hc1, hc2, hc3⟩
                · rw [hf.ex, hex] at he; cases he
                · have hres : rm.esz = inf.size := by rw [hf.es, hes]
                  by_cases hin : sl + n ≤ c'
                  · -- in place
                    have ho : o' = rm.sh + o ∧ o' + c' * rm.esz ≤ rm.ext := by
                      rcases hc3 with h3 | h3
                      · exact h3
                      · omega
                    obtain ⟨ho, hex3⟩ := ho
                    have hmul : (sl + n) * inf.size ≤ c' * inf.size := Nat.mul_le_mul_right _ hin
                    rw [Nat.add_mul] at hmul
                    rw [hres] at hex3
                    have hnl : new'.length = n * inf.size := by rw [← hvn.length, hln]
                    obtain ⟨cs, hb, hsz, hext⟩ := Ext.growA h hm hrow hex hal o (sl * inf.size) new new' hvn hfit (by omega)
                    have hrun := run_append_room (ty := ty) (b := rm.blk) (o := o') (sl := sl) (sc := c') h0 h1 hsT hxT hd hi (hlen' w) hin hfn (ones_mem hvn hones) hb (by omega)
                    refine ⟨_, _, _, hrun, by rw [ho]; exact hext, ?_, HF.grow H r row _ _ _⟩
                    refine .sliceL (rm := ⟨rm.blk, rm.sh + o, rm.ext, rm.esz, false, false⟩) (Map.put_same _ _ _) rfl (Nat.le_refl _) hin (.inl ⟨by simp only [ho, Nat.add_zero], ?_⟩)
                    simp only [hres, ho] at hex3 ⊢
                    omega
                  · have hold' : ∃ old', (Builtin.firstCells inf.size sl (.slice (some ⟨rm.blk, o', none⟩) sl c')).run P w.drew = .ok old'.toArray w.drew ∧ VRs m ((row.cells.drop o).take (sl * inf.size)) old' ∧ ((row.cells.drop o).take (sl * inf.size)).length = sl * inf.size := by
                      refine aFirst_sound h.drew hs ?_ (fun k hk => by cases hk; exact Nat.le_refl _)
                      unfold aFirst
                      cases hz0 : Nat.beq (sl * inf.size) 0 with
                      | true =>
                        have := Nat.eq_of_beq_eq_true hz0
                        simp only [hz0, cond_true, this, List.take_zero]
                      | false =>
                        simp only [hz0, cond_false]
                        unfold Heap.read
                        rw [hrow]
                        simp only [hal, Nat.ble_eq_true_of_le hfit, Bool.and_self, cond_true]
                    obtain ⟨old', hfo, hvo, hlo⟩ := hold'
                    obtain ⟨cap, hcap, hrun⟩ := run_append_fresh (ty := ty) (base := some ⟨rm.blk, o', none⟩) (sl := sl) (sc := c') h0 h1 hsT hxT hd hi hz (hlen' w) hin hsm hfo hfn2
                    have hext := Ext.growB h hm hrow hex (alive_loop hal) o (sl * inf.size) new (old' ++ new2) (Builtin.zeroCells z.cells (cap - (sl + n))).toList (hvo.append hvn2)
                    refine ⟨_, _, _, hrun, hext, ?_, HF.grow H r row _ _ _⟩
                    refine .sliceL (rm := ⟨w.heap.size, 0, _, rm.esz, false, false⟩) (Map.put_same _ _ _) rfl (Nat.le_refl _) (by omega) (.inl ⟨rfl, ?_⟩)
                    simp only [List.length_append, zeroCells_length hzs, ← hvn2.length, ← hvo.length, hln, hlo, Nat.zero_add, hres]
                    rw [← Nat.add_mul, ← Nat.add_mul]
                    exact Nat.mul_le_mul_right _ (by omega)
    · cases e

/-! len, cap, copy -/

def aLen (P : Program) (argTypes : Array TypeId) (x : Value) : Option Value := match argTypes[0]? with
  | some t => match P.underlying t, x with
    | some (.slice _), .slice _ n _ => some (goInt n)
    | some .string, .string s => some (goInt s.size)
    | _, _ => none
  | none => none

theorem aLen_sound {argTypes : Array TypeId} {ty : TypeId} {x x' v : Value} (hx : VR m x x') (e : aLen P argTypes x = some v) :
    ∃ v', (Builtin.len_ argTypes ty #[x']).run P w = .ok v' w ∧ VR m v v' := by
  unfold aLen at e
  split at e
  · rename_i t ht
    split at e
    · rename_i e' a n c hu
      cases e
      refine ⟨goInt n, ?_, .plain rfl⟩
      have : ∃ a' c', x' = .slice a' n c' := by
        cases hx with
        | plain _ => exact ⟨_, _, rfl⟩
        | sliceE _ _ => exact ⟨_, _, rfl⟩
        | sliceL _ _ _ _ _ => exact ⟨_, _, rfl⟩
        | sliceZ => exact ⟨_, _, rfl⟩
      obtain ⟨a', c', rfl⟩ := this
      simp [Builtin.len_, ht, run_underlying' hu]
    · rename_i s hu
      cases e
      rw [hx.eq_of_plain rfl]
      exact ⟨_, by simp [Builtin.len_, ht, run_underlying' hu], .plain rfl⟩
    · cases e
  · cases e

def aCap (P : Program) (H : Heap) (argTypes : Array TypeId) (x : Value) : Option Value := match argTypes[0]?, x with
  | some t, .slice (some ⟨r, _, none⟩) _ c => match P.underlying t, H.rows.get r with
    | some (.slice _), some row => cond row.exact (some (goInt c)) none
    | _, _ => none
  | _, _ => none

theorem aCap_sound (h : HR n0 m H w) {argTypes : Array TypeId} {ty : TypeId} {x x' v : Value} (hx : VR m x x') (e : aCap P H argTypes x = some v) :
    ∃ v', (Builtin.cap_ argTypes ty #[x']).run P w = .ok v' w ∧ VR m v v' := by
  unfold aCap at e
  split at e
  · rename_i t r o n c ht
    split at e
    · rename_i e' row hu hrow
      obtain ⟨rm, o', c', hm, rfl, hc⟩ := hx.slice_inv
      have hf := h.rowOf hm hrow
      cases hex : row.exact with
      | false => rw [hex] at e; cases e
      | true =>
        rw [hex, cond_true] at e
        cases e
        rcases hc with ⟨_, _, rfl⟩ | ⟨he, _⟩
        · exact ⟨_, by simp [Builtin.cap_, ht, run_underlying' hu], .plain rfl⟩
        · rw [hf.ex, hex] at he; cases he
    · cases e
  · cases e

def aCopy (P : Program) (H : Heap) (argTypes : Array TypeId) (d s : Value) : Option (Value × Heap) := match argTypes[0]?, d with
  | some t, .slice (some ⟨r, o, none⟩) dl _ => match P.underlying t, lenV s, H.rows.get r with
    | some (.slice e), some sl, some row => match P.info? e with
      | some inf => match aFirst H inf.size (Nat.min sl dl) s with
        | some l => cond (Nat.beq l.length 0) (some (goInt (Nat.min sl dl), H))
            (cond (!row.ro && (H.alive r row && (ones l && Nat.ble (o + l.length) row.cells.length))) (some (goInt (Nat.min sl dl), H.store r row o l)) none)
        | none => none
      | none => none
    | _, _, _ => none
  | _, _ => none

theorem aCopy_sound (h : HR n0 m H w) {argTypes : Array TypeId} {ty : TypeId} {d d' s s' v : Value} {H' : Heap} (hd : VR m d d') (hs : VR m s s')
    (e : aCopy P H argTypes d s = some (v, H')) : Sim P n0 m H w (Builtin.copy_ argTypes ty #[d', s']) v H' := by
  unfold aCopy at e
  split at e
  case h_2 => cases e
  rename_i t r o dl dc ht
  split at e
  case h_2 => cases e
  rename_i e' sl row hu hsl hrow
  split at e
  case h_2 => cases e
  rename_i inf hi
  split at e
  case h_2 => cases e
  rename_i l hl
  obtain ⟨rm, o', c', hm, rfl, hc⟩ := hd.slice_inv
  have hf := h.rowOf hm hrow
  have hlen' := lenV_sound (P := P) (w := w) hs hsl
  obtain ⟨l', hfl, hvl, hll⟩ := aFirst_sound (P := P) h hs hl (fun k hk => by rw [hsl] at hk; cases hk; exact Nat.min_le_left _ _)
  cases hz : Nat.beq l.length 0 with
  | true =>
    rw [hz, cond_true] at e
    cases e
    have hz := Nat.eq_of_beq_eq_true hz
    have hnil : l' = [] := List.length_eq_zero_iff.1 (by rw [← hvl.length, hz])
    subst hnil
    refine Sim.same h (v' := goInt (Nat.min sl dl)) ?_ (.plain rfl)
    simp [Builtin.copy_, ht, run_underlying' hu, hlen', run_sizeOf' hi, hfl, storeCells]
  | false =>
    rw [hz, cond_false] at e
    cases hok : (!row.ro && (H.alive r row && (ones l && Nat.ble (o + l.length) row.cells.length))) with
    | false => rw [hok] at e; cases e
    | true =>
      rw [hok, cond_true] at e
      cases e
      simp only [Bool.and_eq_true, Bool.not_eq_true'] at hok
      obtain ⟨hro, hal, hones, hfit⟩ := hok
      have hfit := Nat.le_of_ble_eq_true hfit
      obtain ⟨cs, hb, hr, hext⟩ := Ext.store h hm hrow hro hal o l l' hvl hfit
      have hlz : l.length ≠ 0 := fun q => by rw [q] at hz; cases hz
      have hdl : dl ≠ 0 := fun q => by
        have : Nat.min sl dl = 0 := by rw [q]; exact Nat.min_zero _
        rw [this, Nat.zero_mul] at hll
        exact hlz hll
      have ho : o' = rm.sh + o := by
        rcases hc with ⟨_, h1, _⟩ | ⟨_, h1, h2, ⟨h3, _⟩ | h3⟩
        · exact h1
        · exact h3
        · omega
      have hst := run_storeCells_at P rm.blk o' row.elem l' 0 cs w hb (by omega) (ones_mem hvl hones)
      simp only [Nat.add_zero, toList_splice] at hst
      refine ⟨goInt (Nat.min sl dl), m, _, ?_, by rw [← ho] at hext; exact hext, .plain rfl, HF.store H r row _ _⟩
      simp [Builtin.copy_, ht, run_underlying' hu, hlen', run_sizeOf' hi, hfl, hst]

end Go.AM
