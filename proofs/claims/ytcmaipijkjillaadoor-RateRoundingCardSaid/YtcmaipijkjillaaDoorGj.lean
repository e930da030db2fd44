/- A general tool, which names no program: rows of its own of a canonical machine for the model's own code, proved: what it comes to is what every run comes to. -/
import Derived.Test.YtcmaipijkjillaaDoorGg
set_option linter.unusedVariables false
set_option linter.unusedSimpArgs false
set_option linter.unusedSectionVars false

namespace Go.AM

/-! A row of one's own: made by 'make','alloc' or a literal,and written to. -/
structure Own (H:Heap) (r:Nat) (e:TypeId) (cells:List Value):Prop where
  get:H.rows.get r = some { cells:=cells,elem:=e,exact:=true,ro:=false,esz:=0,grp:=2 * r,gpos:=0 }
  lt:r < H.size

theorem Own.new (H:Heap) (l:List Value) (e:TypeId):Own (H.newExact l e) H.size e l where
  get:=by unfold Heap.newExact; rw [Heap.add_get,if_pos rfl]
  lt:=by rw [size_new]; omega

theorem Own.keep {H H':Heap} {r:Nat} {e:TypeId} {cells:List Value} (h:Own H r e cells) (hk:Keep H H'):Own H' r e cells where
  get:=(hk.row r _ h.lt h.get).1
  lt:=Nat.lt_of_lt_of_le h.lt hk.size

theorem Own.read {H:Heap} {r:Nat} {e:TypeId} {cells:List Value} (h:Own H r e cells) {o n:Nat} (hn:o + n ≤ cells.length):H.read r o n = some ((cells.drop o).take n):=by
  unfold Heap.read;rw [h.get];simp only [];rw [show H.alive r { cells:=cells,elem:=e,exact:=true,ro:=false,esz:=0,grp:=2 * r,gpos:=0 } = true from rfl,show Nat.ble (o + n) cells.length = true from Nat.ble_eq_true_of_le hn]
  rfl

theorem Own.store {P:Program} {H:Heap} {r:Nat} {e t:TypeId} {cells:List Value} (h:Own H r e cells) {i:TypeInfo} (hi:P.info? t = some i) {v:Value} {new:List Value} (hv:v.cells.toList = new) (hs:i.size = new.length) (h1:ones new = true)
    {o:Nat} (ho:o + new.length ≤ cells.length) :
    ∃ H2,aStore P H t (.pointer (some ⟨r,o,none⟩)) v = some H2 ∧ Own H2 r e (splice cells o new) ∧ H2.size = H.size ∧ (∀ r' e' c',r' ≠ r → Own H r' e' c' → Own H2 r' e' c') ∧ (∀ H0,Keep H0 H → H0.size ≤ r → Keep H0 H2):=by
  subst hv;refine ⟨H.store r { cells:=cells,elem:=e,exact:=true,ro:=false,esz:=0,grp:=2 * r,gpos:=0 } o v.cells.toList,?_,⟨?_,?_⟩,?_,?_,?_⟩
  · unfold aStore;rw [hi];simp only [h.get];rw [show H.alive r { cells:=cells,elem:=e,exact:=true,ro:=false,esz:=0,grp:=2 * r,gpos:=0 } = true from rfl]
    rw [Trie.beq_tt hs.symm,h1,show Nat.ble (o + v.cells.toList.length) cells.length = true from Nat.ble_eq_true_of_le ho]
    rfl
  · rw [Heap.store_get,if_pos rfl]
  · rw [Heap.store_size]; exact h.lt
  · rw [Heap.store_size]
  · intro r' e' c' hr hO;exact ⟨by rw [Heap.store_get,if_neg hr]; exact hO.get,by rw [Heap.store_size]; exact hO.lt⟩
  · intro H0 hk hr;refine ⟨by rw [Heap.store_size]; exact hk.size,fun hl => ?_,?_,fun r' row hr' hrow => ?_,?_,fun g hg => ?_⟩
    · rw [Heap.store_size,Heap.store_low];simp only [cond_true];exact Nat.le_trans (Nat.min_le_right _ _) (hk.low hl)
    · rw [Heap.store_low];simp only [cond_true];have:=hk.lo;show min H0.low H0.size ≤ min r H.low;omega
    · obtain ⟨k1,k2⟩:=hk.row r' row hr' hrow;refine ⟨by rw [Heap.store_get,if_neg (by omega)]; exact k1,?_⟩
      rw [← k2];unfold Heap.alive;rw [Heap.store_grps];rfl
    · exact fun g => (hk.grp g).store h.get _ _
    · rw [Heap.store_grps]; exact hk.mem _ hg

theorem Own.store_other {P:Program} {H H2:Heap} {r:Nat} {e t:TypeId} {cells:List Value} (h:Own H r e cells) {o:Nat} {v:Value} (hs:aStore P H t (.pointer (some ⟨r,o,none⟩)) v = some H2) {r' o' n:Nat} {l:List Value} (hr:r' ≠ r)
    (hrd:H.read r' o' n = some l):H2.read r' o' n = some l:=by
  unfold aStore at hs;simp only [h.get] at hs;split at hs
  · rename_i i row hi hrow;cases hrow;obtain ⟨_,hs⟩:=Zaaw (b:=_) hs;cases hs;unfold Heap.read at hrd ⊢;rw [Heap.store_get,if_neg hr];cases hx:H.rows.get r' with
    | none => rw [hx] at hrd; cases hrd
    | some x =>
      rw [hx] at hrd;simp only [] at hrd ⊢;have ha:(H.store r { cells:=cells,elem:=e,exact:=true,ro:=false,esz:=0,grp:=2 * r,gpos:=0 } o v.cells.toList).alive r' x = H.alive r' x:=by
        unfold Heap.alive;rw [Heap.store_grps];rfl
      rw [ha]; exact hrd
  · cases hs
theorem SlE.other {P:Program} {H H2:Heap} {r:Nat} {e t:TypeId} {cells:List Value} (h:Own H r e cells) {o:Nat} {v:Value} (hs:aStore P H t (.pointer (some ⟨r,o,none⟩)) v = some H2) (hsz:H2.size = H.size)
    {k:IntKind} {w:List Int} {x:Value} {r' o':Nat} (hx:SlI k H x w r' o') (hr:0 < w.length → r' ≠ r):SlI k H2 x w r' o':=
  ⟨hx.isv,fun i hi => by
    obtain ⟨es,h1,h2⟩:=hx.rd i hi
    exact ⟨es,h.store_other hs (hr (by omega)) h1,h2⟩,fun h0 => by rw [hsz]; exact hx.lt h0,hx.ml⟩

theorem Own.addr {H:Heap} {r:Nat} {e:TypeId} {cells:List Value} (h:Own H r e cells) {l:Nat}:Own (H.relow l) r e cells:=⟨h.get,h.lt⟩

theorem makeSlice_eq {P:Program} {t e:TypeId} {inf:TypeInfo} {z:Value} (ht:P.underlying t = some (.slice e)) (hi:P.info? e = some inf) (hz:inf.zero = some z) (hp:plain z = true) (hl:z.cells.toList.length = inf.size) (hb:inf.bytes ≤ 65536) (H:Heap) (k k':IntKind) {l:Int} (h0:0 ≤ l) (h1:l ≤ 268435456) :
    aMakeSlice P H t (.int k l) (.int k' l) = some (.slice (some ⟨H.size,0,none⟩) l.toNat l.toNat,H.newExact (zeroRow z.cells.toList (l.toNat * inf.size)) e):=by
  unfold aMakeSlice;rw [ht];simp only [hi,hz];rw [if_pos ⟨h0,Int.le_refl _⟩,hp,Trie.beq_tt hl,show small l.toNat inf.bytes = true by unfold small; rw [Nat.ble_eq_true_of_le (show l.toNat ≤ 268435456 by omega),Nat.ble_eq_true_of_le hb]; rfl]
  rfl
theorem splice_at {l vs:List Value} {off:Nat} (h:off + vs.length ≤ l.length):((splice l off vs).drop off).take vs.length = vs:=by
  unfold splice;rw [List.drop_append_of_le_length (by rw [List.length_take]; omega),List.drop_of_length_le (by rw [List.length_take]; omega),List.nil_append,List.take_left]
end Go.AM

namespace Go.AM

/-! A row that grows: made by 'append'. -/
structure App (H:Heap) (b r:Nat) (e:TypeId) (sz:Nat) (cells:List Value):Prop where
  get:H.rows.get r = some { cells:=cells,elem:=e,exact:=false,ro:=false,esz:=sz,grp:=2 * b + 1,gpos:=0 }
  mem:memN r ((H.grps.get (2 * b + 1)).getD []) = true
  lt:r < H.size
  ge:b ≤ r

theorem App.alive {H:Heap} {b r:Nat} {e:TypeId} {sz:Nat} {cells:List Value} (h:App H b r e sz cells):H.alive r { cells:=cells,elem:=e,exact:=false,ro:=false,esz:=sz,grp:=2 * b + 1,gpos:=0 } = true:=h.mem

theorem App.keep {H H':Heap} {b r:Nat} {e:TypeId} {sz:Nat} {cells:List Value} (h:App H b r e sz cells) (hk:Keep H H'):App H' b r e sz cells where
  get:=(hk.row r _ h.lt h.get).1
  mem:=((hk.row r _ h.lt h.get).2.trans h.alive:_)
  lt:=Nat.lt_of_lt_of_le h.lt hk.size
  ge:=h.ge

theorem App.read {H:Heap} {b r:Nat} {e:TypeId} {sz:Nat} {cells:List Value} (h:App H b r e sz cells) {o n:Nat} (hn:o + n ≤ cells.length):H.read r o n = some ((cells.drop o).take n):=by
  unfold Heap.read;rw [h.get];simp only [];rw [h.alive,show Nat.ble (o + n) cells.length = true from Nat.ble_eq_true_of_le hn]
  rfl

theorem Keep.addApp {H:Heap} (hg:Grp H) (row:Row) (hx:row.exact = false) (hgr:row.grp = 2 * H.size + 1):Keep H (H.add row) where
  size:=by rw [Heap.add_size]; omega
  low:=fun h => by rw [Heap.add_size,Heap.add_low]; omega
  lo:=by rw [Heap.add_low]; omega
  row:=fun r x hr hrow => by
    refine ⟨by rw [Heap.add_get,if_neg (by omega)]; exact hrow,?_⟩
    unfold Heap.alive;rw [Heap.add_grps,hx,cond_false];cases x.loop with
    | some _ => rfl
    | none =>
      simp only [];cases he:x.exact with
      | true => rfl
      | false =>
        have h1:=(hg.1 r x hrow).2;rw [he] at h1;have h2:x.grp ≤ 2 * r + 1:=by rcases h1 with h1 | h1; cases h1; exact h1
        rw [Trie.get_put,if_neg (by omega)]
  grp:=fun g => g.add (.inr (by omega))
  mem:=fun g hlt => by rw [Heap.add_grps,hx,cond_false,Trie.get_put,if_neg (by omega)]

theorem App.first {P:Program} {H:Heap} (hg:Grp H) {e:TypeId} {sz:Nat} {cells:List Value}:Keep H (H.add { cells:=cells,elem:=e,exact:=false,ro:=false,esz:=sz,grp:=2 * H.size + 1,gpos:=0 }) ∧
    App (H.add { cells:=cells,elem:=e,exact:=false,ro:=false,esz:=sz,grp:=2 * H.size + 1,gpos:=0 }) H.size H.size e sz cells:=by
  refine ⟨Keep.addApp hg _ rfl rfl,⟨by rw [Heap.add_get,if_pos rfl],?_,by rw [Heap.add_size]; omega,Nat.le_refl _⟩⟩
  rw [Heap.add_grps];simp only [cond_false];rw [Trie.get_put,if_pos rfl];exact memN_self _ _

theorem killL_ge {H:Heap} {e b:Nat}:∀ {l:List Nat},(∀ q,memN q l = true → b ≤ q) → ∀ {a:Nat},b ≤ a → b ≤ minL a (killL H e l)
  | [],_,_,ha => ha
  | k :: l,h,a,ha => by
    have hl:∀ q,memN q l = true → b ≤ q:=fun q hq => h q (by unfold memN; cases Nat.beq k q <;> simp [hq])
    unfold killL;cases Nat.ble (H.endOf k) e with
    | true => exact killL_ge hl ha
    | false =>
      have h1:=killL_ge (H:=H) (e:=e) hl ha;have h2:=h k (memN_self _ _);show b ≤ Nat.min k (minL a (killL H e l));exact Nat.le_min.2 ⟨h2,h1⟩

theorem App.more {H:Heap} {b r:Nat} {e:TypeId} {sz:Nat} {cells new:List Value} (h:App H b r e sz cells) (hg:Grp H):∃ H2,H.grow r { cells:=cells,elem:=e,exact:=false,ro:=false,esz:=sz,grp:=2 * b + 1,gpos:=0 } 0 cells.length new = H2 ∧
    App H2 b H.size e sz (cells ++ new) ∧ H2.size = H.size + 1 ∧ (∀ H0,Grp H0 → Keep H0 H → H0.size ≤ b → Keep H0 H2) ∧ Grp H2 ∧ (∀ r' e' c',Own H r' e' c' → Own H2 r' e' c') ∧
    (∀ b' r' e' s' c',b' ≠ b → App H b' r' e' s' c' → App H2 b' r' e' s' c'):=by
  refine ⟨_,rfl,⟨?_,?_,by rw [Heap.grow_size]; omega,Nat.le_trans h.ge (Nat.le_of_lt h.lt)⟩,Heap.grow_size _ _ _ _ _ _,?_,?_,?_,?_⟩
  · rw [Heap.grow_rows,Trie.get_put,if_pos rfl];simp
  · rw [Heap.grow_grps,Trie.get_put,if_pos rfl];exact memN_self _ _
  · intro H0 g0 hk hb;refine ⟨by rw [Heap.grow_size]; exact Nat.le_succ_of_le hk.size,fun hl => ?_,?_,fun r' row hr' hrow => ?_,fun _ => ?_,fun g hlt => ?_⟩
    · rw [Heap.grow_size];have h1:=(grow_low (H:=H) (r:=r) (row:={ cells:=cells,elem:=e,exact:=false,ro:=false,esz:=sz,grp:=2 * b + 1,gpos:=0 }) (off:=0) (n:=cells.length) (vs:=new)).1;have:=h.lt;omega
    · rw [Heap.grow_lowIs];have hb1:∀ q,memN q ((H.grps.get (2 * b + 1)).getD []) = true → min H0.low H0.size ≤ q:=fun q hq => by
        have:=hg.2 _ _ hq; omega
      have hr:min H0.low H0.size ≤ Nat.min r H.low:=Nat.le_min.2 ⟨by have:=h.ge; omega,hk.lo⟩
      exact killL_ge hb1 hr
    · obtain ⟨k1,k2⟩:=hk.row r' row hr' hrow;refine ⟨by rw [Heap.grow_rows,Trie.get_put,if_neg (by have:=hk.size; omega)]; exact k1,?_⟩
      rw [← k2];unfold Heap.alive;cases row.loop with
      | some _ => rfl
      | none =>
        simp only [];cases he:row.exact with
        | true => rfl
        | false =>
          have h1:=(g0.1 r' row hrow).2;rw [he] at h1;have h2:row.grp ≤ 2 * r' + 1:=by rcases h1 with h1 | h1; cases h1; exact h1
          rw [Heap.grow_grps,Trie.get_put,if_neg (by show ¬ row.grp = 2 * b + 1; omega)]
    · exact (show Grp _ from by
        refine ⟨fun k x hx => ?_,fun k q hq => ?_⟩
        · rw [Heap.grow_rows,Trie.get_put] at hx;rw [Heap.grow_size];split at hx
          · rename_i hk2;cases hx;exact ⟨by omega,.inr (by show 2 * b + 1 ≤ 2 * k + 1; have:=h.ge; have:=h.lt; omega)⟩
          · obtain ⟨h1,h2⟩:=hg.1 k x hx;exact ⟨by omega,h2⟩
        · rw [Heap.grow_grps] at hq;rcases memN_put hq with ⟨rfl,h1⟩ | h1
          · unfold memN at h1;cases hqe:Nat.beq H.size q with
            | true =>
              have:=Nat.eq_of_beq_eq_true hqe;show 2 * b + 1 ≤ 2 * q + 1;have:=h.ge; have:=h.lt; omega
            | false =>
              rw [hqe,cond_false] at h1;exact hg.2 _ _ (memN_keepL h1).1
          · exact hg.2 k q h1)
    · rw [Heap.grow_grps,Trie.get_put,if_neg (by show ¬ g = 2 * b + 1; omega)]
      exact hk.mem g hlt
  · refine ⟨fun k x hx => ?_,fun k q hq => ?_⟩
    · rw [Heap.grow_rows,Trie.get_put] at hx;rw [Heap.grow_size];split at hx
      · rename_i hk2;cases hx;exact ⟨by omega,.inr (by show 2 * b + 1 ≤ 2 * k + 1; have:=h.ge; have:=h.lt; omega)⟩
      · obtain ⟨h1,h2⟩:=hg.1 k x hx;exact ⟨by omega,h2⟩
    · rw [Heap.grow_grps] at hq;rcases memN_put hq with ⟨rfl,h1⟩ | h1
      · unfold memN at h1;cases hqe:Nat.beq H.size q with
        | true =>
          have:=Nat.eq_of_beq_eq_true hqe;show 2 * b + 1 ≤ 2 * q + 1;have:=h.ge; have:=h.lt; omega
        | false =>
          rw [hqe,cond_false] at h1;exact hg.2 _ _ (memN_keepL h1).1
      · exact hg.2 k q h1
  · intro r' e' c' ho;exact ⟨by rw [Heap.grow_rows,Trie.get_put,if_neg (by have:=ho.lt; omega)]; exact ho.get,by rw [Heap.grow_size]; have:=ho.lt; omega⟩
  · intro b' r' e' s' c' hb ho;refine ⟨by rw [Heap.grow_rows,Trie.get_put,if_neg (by have:=ho.lt; omega)]; exact ho.get,?_,by rw [Heap.grow_size]; have:=ho.lt; omega,ho.ge⟩
    rw [Heap.grow_grps,Trie.get_put,if_neg (by show ¬ 2 * b' + 1 = 2 * b + 1; omega)]
    exact ho.mem

/-! 'append' of some elements. -/
structure ElemOk (P:Program) (ts:Array TypeId) (e:TypeId) (sz:Nat):Prop where
  ok:∃ sT xT d inf z,ts[0]? = some sT ∧ ts[1]? = some xT ∧ P.underlying sT = some (.slice e) ∧ P.underlying xT = some d ∧ isIntD d = false ∧ P.info? e = some inf ∧ inf.zero = some z ∧ z.cells.toList.length = inf.size ∧ inf.size = sz ∧ inf.bytes ≤ 65536
  pos:0 < sz

theorem append_nil {P:Program} {ts:Array TypeId} {e:TypeId} {sz:Nat} (h:ElemOk P ts e sz) {H:Heap} (hg:Grp H) {r o n c:Nat} {new:List Value} (hr:H.read r o (n * sz) = some new) (hn:0 < n) (hs:n ≤ 268435456) :
    ∃ H2,aAppend P H ts (.slice none 0 0) (.slice (some ⟨r,o,none⟩) n c) = some (.slice (some ⟨H.size,0,none⟩) n n,H2) ∧ App H2 H.size H.size e sz new ∧ Keep H H2:=by
  obtain ⟨⟨sT,xT,d,inf,z,h1,h2,h3,h4,h5,h6,h7,h8,h9,h10⟩,hp⟩:=h;obtain ⟨hk,ha⟩:=App.first (P:=P) hg (e:=e) (sz:=sz) (cells:=new);refine ⟨_,?_,ha,hk⟩;have hnz:Nat.beq (n * sz) 0 = false:=Trie.beq_ff (by have:=Nat.mul_pos hn hp; omega)
  have hfirst:aFirst H sz n (.slice (some ⟨r,o,none⟩) n c) = some new:=by
    show cond (Nat.beq (n * sz) 0) (some []) (H.read r o (n * sz)) = some new;rw [hnz]; exact hr
  unfold aAppend;rw [h1,h2];simp only [h3,h4,h5,h6,lenV,h7,h9];rw [hfirst];simp only [];rw [Trie.beq_tt (h8.trans h9),show Nat.blt 0 sz = true from Nat.ble_eq_true_of_le hp,show small n inf.bytes = true by unfold small; rw [Nat.ble_eq_true_of_le hs,Nat.ble_eq_true_of_le h10]; rfl]
  rw [show Nat.beq n 0 = false from Trie.beq_ff (by omega)]
  rfl

theorem append_more {P:Program} {ts:Array TypeId} {e:TypeId} {sz:Nat} (h:ElemOk P ts e sz) {H:Heap} (hg:Grp H) {b r0 l:Nat} {cells:List Value} (ha:App H b r0 e sz cells) (hl:cells.length = l * sz) {r o n c:Nat} {new:List Value} (hr:H.read r o (n * sz) = some new) (hn:0 < n)
    (hone:ones new = true) (hs:l + n ≤ 268435456) :
    ∃ H2,aAppend P H ts (.slice (some ⟨r0,0,none⟩) l l) (.slice (some ⟨r,o,none⟩) n c) = some (.slice (some ⟨H.size,0,none⟩) (l + n) (l + n),H2) ∧ App H2 b H.size e sz (cells ++ new) ∧ H2.size = H.size + 1 ∧ (∀ H0,Grp H0 → Keep H0 H → H0.size ≤ b → Keep H0 H2) ∧ Grp H2 ∧
      (∀ r' e' c',Own H r' e' c' → Own H2 r' e' c') ∧ (∀ b' r' e' s' c',b' ≠ b → App H b' r' e' s' c' → App H2 b' r' e' s' c'):=by
  obtain ⟨⟨sT,xT,d,inf,z,h1,h2,h3,h4,h5,h6,h7,h8,h9,h10⟩,hp⟩:=h;obtain ⟨H2,e2,k1,k2,k3,k4,k5,k6⟩:=ha.more (new:=new) hg;refine ⟨H2,?_,k1,k2,k3,k4,k5,k6⟩;have hnz:Nat.beq (n * sz) 0 = false:=Trie.beq_ff (by have:=Nat.mul_pos hn hp; omega)
  have hfirst:aFirst H sz n (.slice (some ⟨r,o,none⟩) n c) = some new:=by
    show cond (Nat.beq (n * sz) 0) (some []) (H.read r o (n * sz)) = some new;rw [hnz]; exact hr
  unfold aAppend;rw [h1,h2];simp only [h3,h4,h5,h6,lenV,h7,h9];rw [hfirst];simp only [];rw [Trie.beq_tt (h8.trans h9),show Nat.blt 0 sz = true from Nat.ble_eq_true_of_le hp,show small (l + n) inf.bytes = true by unfold small; rw [Nat.ble_eq_true_of_le hs,Nat.ble_eq_true_of_le h10]; rfl]
  simp only [Bool.and_self,cond_true];unfold aAppendSome;rw [ha.get];simp only []
  rw [show Nat.beq n 0 = false from Trie.beq_ff (by omega),cond_false,show Nat.ble (l + n) l = false by
    cases hq:Nat.ble (l + n) l with
    | false => rfl
    | true => have:=Nat.le_of_ble_eq_true hq; omega,Bool.false_and,cond_false,cond_false,ha.alive,Trie.beq_tt rfl,Trie.beq_tt rfl,hone,Nat.ble_eq_true_of_le (Nat.le_refl l),show Nat.ble (0 + l * sz) cells.length = true from Nat.ble_eq_true_of_le (by omega)]
  simp only [Bool.and_self,cond_true];rw [← hl,e2]
end Go.AM

namespace Go.AM

/-! A list of integers that is made by 'append',from nil on. -/
def Lst (e:TypeId) (k:IntKind) (H0 H:Heap) (v:Value) (w:List Int):Prop:=
  Keep H0 H ∧ Grp H ∧ ((w = [] ∧ v = .slice none 0 0) ∨ ∃ b r,H0.size ≤ b ∧ App H b r e 1 (w.map fun z => .int k z) ∧ v = .slice (some ⟨r,0,none⟩) w.length w.length ∧ 0 < w.length)

theorem Lst.nil {e:TypeId} {k:IntKind} {H0 H:Heap} (hk:Keep H0 H) (hg:Grp H):Lst e k H0 H (.slice none 0 0) []:=⟨hk,hg,.inl ⟨rfl,rfl⟩⟩

theorem Lst.push {P:Program} {ts:Array TypeId} {e:TypeId} {k:IntKind} {H0 H:Heap} {v:Value} {w:List Int} (hok:ElemOk P ts e 1) (g0:Grp H0) (h:Lst e k H0 H v w) (hw:w.length < 268435456) (z:Int) :
    ∃ v2 H2,aAppend P (H.newExact [.int k z] e) ts v (.slice (some ⟨H.size,0,none⟩) 1 1) = some (v2,H2) ∧ Lst e k H0 H2 v2 (w ++ [z]):=by
  obtain ⟨hk,hg,h⟩:=h;have hkn:=Keep.newExact H [.int k z] e;have ho:=Own.new H [.int k z] e;have hr:=ho.read (o:=0) (n:=1 * 1) (show 0 + 1 ≤ 1 by omega)
  rcases h with ⟨rfl,rfl⟩ | ⟨b,r,hb,ha,rfl,hpos⟩
  · obtain ⟨H2,h1,h2,h3⟩:=append_nil hok (hkn.grp hg) hr (by omega) (by omega)
    refine ⟨_,H2,h1,(hk.trans hkn).trans h3,h3.grp (hkn.grp hg),.inr ⟨_,_,Nat.le_trans hk.size hkn.size,h2,rfl,by simp⟩⟩
  · obtain ⟨H2,h1,h2,_,h3,h4,_⟩:=append_more hok (hkn.grp hg) (ha.keep hkn) (l:=w.length) (by simp) hr (by omega) rfl (by omega)
    refine ⟨_,H2,h1,h3 H0 g0 (hk.trans hkn) hb,h4,.inr ⟨b,_,hb,by rw [List.map_append]; exact h2,by simp,by simp⟩⟩

theorem Lst.sl {e:TypeId} {k:IntKind} {H0 H:Heap} {v:Value} {w:List Int} (h:Lst e k H0 H v w) (hr:∀ z ∈ w,k.min ≤ z ∧ z ≤ k.max) (hm:w.length ≤ Go.maxLen):∃ r,SlI k H v w r 0:=by
  obtain ⟨hk,hg,⟨rfl,rfl⟩ | ⟨b,r,hb,ha,rfl,hpos⟩⟩:=h
  · exact ⟨0,⟨none,0,rfl,fun h => absurd h (Nat.lt_irrefl 0)⟩,fun i hi => absurd hi (Nat.not_lt_zero i),fun h => absurd h (Nat.lt_irrefl 0),hm⟩
  · refine ⟨r,⟨_,_,rfl,fun _ => rfl⟩,fun i hi => ?_,fun _ => ha.lt,hm⟩
    have h1:=ha.read (o:=0 + i * 1) (n:=1) (by simp; omega)
    have h2:((w.map fun z => Value.int k z).drop (0 + i * 1)).take 1 = [.int k (w.getD i 0)]:=by
      rw [show 0 + i * 1 = i by omega,List.drop_eq_getElem_cons (by simpa using hi)]
      simp [List.getD_eq_getElem?_getD,List.getElem?_eq_getElem hi]
    rw [h2] at h1;exact ⟨_,h1,rfl,hr _ (getD_mem hi)⟩

theorem Lst.slF {e:TypeId} {k:IntKind} {H0 H:Heap} {v:Value} {w:List Int} (h:Lst e k H0 H v w) (hr:∀ z ∈ w,k.min ≤ z ∧ z ≤ k.max) (hm:w.length ≤ Go.maxLen):∃ r,SlI k H v w r 0 ∧ (0 < w.length → H0.size ≤ r):=by
  obtain ⟨r,s⟩:=h.sl hr hm;obtain ⟨hk,hg,⟨rfl,rfl⟩ | ⟨b,r1,hb,ha,rfl,hpos⟩⟩:=h
  · exact ⟨r,s,fun h0 => absurd h0 (Nat.lt_irrefl 0)⟩
  · obtain ⟨a,c,e1,e2⟩:=s.isv;cases e1;have:=e2 hpos;cases this;exact ⟨_,s,fun _ => Nat.le_trans hb ha.ge⟩
theorem map_at {k:IntKind} {w:List Int} {i:Nat} (hi:i < w.length):((w.map fun z => Value.int k z).drop i).take 1 = [.int k (w.getD i 0)]:=by
  rw [List.drop_eq_getElem_cons (by simpa using hi)]
  simp [List.getD_eq_getElem?_getD,List.getElem?_eq_getElem hi]
theorem Own.sl {H:Heap} {r:Nat} {e:TypeId} {k:IntKind} {w:List Int} (h:Own H r e (w.map fun z => .int k z)) (hr:∀ z ∈ w,k.min ≤ z ∧ z ≤ k.max) (hm:w.length ≤ Go.maxLen) (cap:Nat):SlI k H (.slice (some ⟨r,0,none⟩) w.length cap) w r 0:=
  ⟨⟨_,_,rfl,fun _ => rfl⟩,fun i hi => by
    have h1:=h.read (o:=0 + i * 1) (n:=1) (by simp; omega)
    rw [show 0 + i * 1 = i by omega,map_at hi] at h1
    exact ⟨_,by rw [show 0 + i * (intE k).sz = i by show 0 + i * 1 = i; omega]; exact h1,rfl,hr _ (getD_mem hi)⟩,fun _ => h.lt,hm⟩
theorem splice_map {k:IntKind} {w:List Int} {j:Nat} (hj:j < w.length) (z:Int):splice (w.map fun z => Value.int k z) j [.int k z] = (w.set j z).map fun z => .int k z:=by
  apply List.ext_getElem?;intro i;unfold splice;rw [List.getElem?_map,List.getElem?_set]
  by_cases h1:i < j
  · rw [List.getElem?_append_left (by rw [List.length_take,List.length_map]; omega),List.getElem?_take,if_pos h1,List.getElem?_map,if_neg (by omega)]
  · rw [List.getElem?_append_right (by rw [List.length_take]; omega),List.length_take,List.length_map,Nat.min_eq_left (by omega)]
    by_cases h2:i = j
    · subst h2;rw [Nat.sub_self,if_pos rfl,if_pos hj];simp
    · obtain ⟨q,rfl⟩:∃ q,i = j + 1 + q:=⟨i - j - 1,by omega⟩
      rw [show j + 1 + q - j = q + 1 by omega,if_neg (by omega)]
      simp
theorem set_getD {w:List Int} {i j:Nat} {z:Int} (hj:j < w.length):(w.set j z).getD i 0 = if i = j then z else w.getD i 0:=by
  rw [List.getD_eq_getElem?_getD,List.getElem?_set,List.getD_eq_getElem?_getD]
  by_cases h:j = i
  · subst h; rw [if_pos rfl,if_pos hj,if_pos rfl]; rfl
  · rw [if_neg h,if_neg (fun hc => h hc.symm)]

theorem Lst.keep {e:TypeId} {k:IntKind} {H0 H:Heap} {v:Value} {w:List Int} (h:Lst e k H0 H v w):Keep H0 H:=h.1
theorem Lst.grp {e:TypeId} {k:IntKind} {H0 H:Heap} {v:Value} {w:List Int} (h:Lst e k H0 H v w):Grp H:=h.2.1
theorem Lst.isv {e:TypeId} {k:IntKind} {H0 H:Heap} {v:Value} {w:List Int} (h:Lst e k H0 H v w):∃ a,v = .slice a w.length w.length:=by
  obtain ⟨_,_,⟨rfl,rfl⟩ | ⟨b,r,hb,ha,rfl,hpos⟩⟩:=h
  · exact ⟨none,rfl⟩
  · exact ⟨_,rfl⟩
theorem range_map_getD {k:IntKind} (w:List Int):(List.range w.length).map (fun j => Value.int k (w.getD j 0)) = w.map fun z => .int k z:=by
  apply List.ext_getElem?;intro i;rw [List.getElem?_map,List.getElem?_map]
  by_cases hi:i < w.length
  · rw [List.getElem?_range hi,List.getElem?_eq_getElem hi];simp [List.getD_eq_getElem?_getD,List.getElem?_eq_getElem hi]
  · rw [List.getElem?_eq_none (by simp; omega),List.getElem?_eq_none (by omega)]
    rfl
theorem SlE.all {k:IntKind} {H:Heap} {v:Value} {w:List Int} {r o:Nat} (h:SlI k H v w r o) (h0:0 < w.length):H.read r o w.length = some (w.map fun z => .int k z):=by
  have h1:=read_some (H:=H) (r:=r) (n:=w.length) (o:=o) (c:=fun j => Value.int k (w.getD j 0)) h0 (fun j hj => (h.rdI hj).1)
  rwa [range_map_getD] at h1

def Fine (v:Value):Prop:=∀ a n c,v = .slice (some a) n c → a.spot = none
theorem fine_nil:Fine (.slice none 0 0):=fun a n c h => by cases h
theorem fine_own (r o n c:Nat):Fine (.slice (some ⟨r,o,none⟩) n c):=fun a n c h => by cases h; rfl
theorem Lst.fine {e:TypeId} {k:IntKind} {H0 H:Heap} {v:Value} {w:List Int} (h:Lst e k H0 H v w):Fine v:=by
  obtain ⟨_,_,⟨rfl,rfl⟩ | ⟨b,r,hb,ha,rfl,hpos⟩⟩:=h
  · exact fine_nil
  · exact fine_own _ _ _ _

theorem append_own {P:Program} {ts:Array TypeId} {e:TypeId} {k:IntKind} (hok:ElemOk P ts e 1) {H:Heap} (hg:Grp H) {r0:Nat} {u:List Int} (ho:Own H r0 e (u.map fun z => .int k z)) (hu:0 < u.length) {x:Value} {w:List Int} {r o:Nat} (hx:SlI k H x w r o) (hfine:Fine x)
    (hr:∀ z ∈ u,k.min ≤ z ∧ z ≤ k.max) (hs:u.length + w.length ≤ 268435456) :
    ∃ v2 H2 r2,aAppend P H ts (.slice (some ⟨r0,0,none⟩) u.length u.length) x = some (v2,H2) ∧ Keep H H2 ∧ Grp H2 ∧ SlI k H2 v2 (u ++ w) r2 0:=by
  obtain ⟨⟨sT,xT,d,inf,z,h1,h2,h3,h4,h5,h6,h7,h8,h9,h10⟩,hp⟩:=hok;obtain ⟨a,c,rfl,ha⟩:=hx.isv;have hrw:∀ z ∈ u ++ w,k.min ≤ z ∧ z ≤ k.max:=fun z hz => by
    rcases List.mem_append.1 hz with h | h
    · exact hr z h
    · obtain ⟨j,hj,rfl⟩:=List.getElem_of_mem h;have:=(hx.rdI hj).2;rwa [List.getD_eq_getElem?_getD,List.getElem?_eq_getElem hj] at this
  have hml:(u ++ w).length ≤ Go.maxLen:=by
    have:Go.maxLen = 9223372036854775807:=rfl;rw [List.length_append]; omega
  have hsm:small (u.length + w.length) inf.bytes = true:=by unfold small; rw [Nat.ble_eq_true_of_le hs,Nat.ble_eq_true_of_le h10]; rfl
  rcases Nat.eq_zero_or_pos w.length with h0 | h0
  · obtain rfl:=List.length_eq_zero_iff.1 h0;rw [List.append_nil] at hrw hml;refine ⟨.slice (some ⟨r0,0,none⟩) u.length u.length,H,r0,?_,Keep.refl H,hg,by rw [List.append_nil]; exact ho.sl hrw hml u.length⟩
    have hfirst:aFirst H 1 0 (.slice a 0 c) = some []:=by
      unfold aFirst;cases a with
      | none => rfl
      | some a =>
        obtain ⟨b,f,sp⟩:=a;cases sp with
        | none => rfl
        | some sp => exact absurd (hfine _ _ _ rfl) (by simp)
    unfold aAppend;rw [h1,h2];simp only [h3,h4,h5,h6,lenV,h7,h9,List.length_nil];rw [hfirst];simp only [];rw [Trie.beq_tt (h8.trans h9),show Nat.blt 0 1 = true from rfl]
    rw [List.length_nil] at hsm;rw [hsm];simp only [Bool.and_self,cond_true];unfold aAppendSome;rw [ho.get];simp only [];rw [show Nat.beq 0 0 = true from rfl,cond_true,Nat.ble_eq_true_of_le (Nat.le_refl _),cond_true]
  · obtain rfl:=ha h0;have hnew:=hx.all h0;refine ⟨.slice (some ⟨H.size,0,none⟩) (u.length + w.length) (u.length + w.length),_,H.size,?_,(App.first (P:=P) hg (e:=e) (sz:=1) (cells:=(u.map fun z => Value.int k z) ++ (w.map fun z => Value.int k z))).1,(App.first (P:=P) hg (e:=e) (sz:=1) (cells:=(u.map fun z => Value.int k z) ++ (w.map fun z => Value.int k z))).1.grp hg,?_⟩
    · have hfirst:aFirst H 1 w.length (.slice (some ⟨r,o,none⟩) w.length c) = some (w.map fun z => Value.int k z):=by
        show cond (Nat.beq (w.length * 1) 0) (some []) (H.read r o (w.length * 1)) = _;rw [Trie.beq_ff (by omega),Nat.mul_one]; exact hnew
      have hold:H.read r0 0 (u.length * 1) = some (u.map fun z => Value.int k z):=by
        have:=ho.read (o:=0) (n:=u.length) (by simp)
        rw [Nat.mul_one,this,List.drop_zero,List.take_of_length_le (by simp)]
      unfold aAppend;rw [h1,h2];simp only [h3,h4,h5,h6,lenV,h7,h9];rw [hfirst];simp only [];rw [Trie.beq_tt (h8.trans h9),show Nat.blt 0 1 = true from rfl,hsm]
      simp only [Bool.and_self,cond_true];unfold aAppendSome;rw [ho.get];simp only []
      rw [show Nat.beq w.length 0 = false from Trie.beq_ff (by omega),cond_false,show Nat.ble (u.length + w.length) u.length = false by
        cases hq:Nat.ble (u.length + w.length) u.length with
        | false => rfl
        | true => have:=Nat.le_of_ble_eq_true hq; omega,Bool.false_and,cond_false,cond_true,show Nat.beq (u.length * 1) 0 = false from Trie.beq_ff (by omega),cond_false,hold]
      rfl
    · have happ:=(App.first (P:=P) hg (e:=e) (sz:=1) (cells:=(u.map fun z => Value.int k z) ++ (w.map fun z => Value.int k z))).2
      rw [← List.map_append] at happ ⊢;rw [← List.length_append]
      exact ⟨⟨_,_,rfl,fun _ => rfl⟩,fun i hi => by
        have h1:=happ.read (o:=0 + i * 1) (n:=1) (by simp at hi ⊢; omega)
        rw [show 0 + i * 1 = i by omega,map_at hi] at h1
        exact ⟨_,by rw [show 0 + i * (intE k).sz = i by show 0 + i * 1 = i; omega]; exact h1,rfl,hrw _ (getD_mem hi)⟩,fun _ => happ.lt,hml⟩
end Go.AM

namespace Go.AM
open Go Go.ChangeShapes Go.WideShapes Go.ChangeAt Go.RowKit Go.Deep

theorem drawn {P:Program} {S:Sys} {f:FuncId} {args:List Value} {H:Heap} {v:Value} (hL:H.low ≤ H.size) (h:∃ H',Keep (H.relow H.size) H' ∧ Runs P S (.fn f) args (H.relow H.size) v H') :
    ∃ H4 H5,Keep H H5 ∧ H5.low ≤ H5.size ∧ (∀ (K:Value → Heap → Prop) (b:Blk K),sxCallB P S (.fn f) args (H.relow H.size) K b = K v H4) ∧ (∀ (all:List Oper) (n:Nat) (k:Heap → Prop),sxD all n H H4 k = k H5):=by
  obtain ⟨H',hk,hr⟩:=h;exact ⟨H',H'.relow (Nat.min H.low H'.low),Keep.draw hk,(Keep.draw hk).low hL,hr.bx,fun all n k => sxD_keep hk k⟩

end Go.AM

namespace Go.AM
open Go Go.ChangeShapes Go.WideShapes Go.ChangeAt Go.RowKit Go.Deep

theorem App.other {P:Program} {H H2:Heap} {r:Nat} {e t:TypeId} {cells:List Value} (h:Own H r e cells) {o:Nat} {v:Value} (hs:aStore P H t (.pointer (some ⟨r,o,none⟩)) v = some H2) {b r1:Nat} {e1:TypeId} {sz:Nat} {c1:List Value} (ha:App H b r1 e1 sz c1):App H2 b r1 e1 sz c1:=by
  have hne:r1 ≠ r:=fun he => by
    subst he;have h1:=ha.get;rw [h.get] at h1;cases h1
  unfold aStore at hs;simp only [h.get] at hs;split at hs
  · rename_i i row hi hrow;cases hrow;obtain ⟨_,hs⟩:=Zaaw (b:=_) hs;cases hs;refine ⟨by rw [Heap.store_get,if_neg hne]; exact ha.get,?_,by rw [Heap.store_size]; exact ha.lt,ha.ge⟩
    rw [Heap.store_grps];exact ha.mem
  · cases hs

theorem Lst.on {e:TypeId} {k:IntKind} {H0 H H':Heap} {v:Value} {w:List Int} (h:Lst e k H0 H v w) (hk:Keep H H'):Lst e k H0 H' v w:=by
  obtain ⟨h1,h2,h3⟩:=h;refine ⟨h1.trans hk,hk.grp h2,?_⟩;rcases h3 with h3 | ⟨b,r,hb,ha,hv,hp⟩
  · exact .inl h3
  · exact .inr ⟨b,r,hb,ha.keep hk,hv,hp⟩
theorem Lst.other {P:Program} {e:TypeId} {k:IntKind} {H0 H H2:Heap} {v:Value} {w:List Int} (h:Lst e k H0 H v w) (g0:Grp H0) {r:Nat} {e' t:TypeId} {cells:List Value} (ho:Own H r e' cells) {o:Nat} {u:Value} (hs:aStore P H t (.pointer (some ⟨r,o,none⟩)) u = some H2) (hk:Keep H0 H2):Lst e k H0 H2 v w:=by
  obtain ⟨h1,h2,h3⟩:=h;refine ⟨hk,hk.grp g0,?_⟩;rcases h3 with h3 | ⟨b,r1,hb,ha,hv,hp⟩
  · exact .inl h3
  · exact .inr ⟨b,r1,hb,App.other ho hs ha,hv,hp⟩
end Go.AM

namespace Go.AM
open Go Go.RowKit

end Go.AM

namespace Go.AM
open Go

/-! Strings,as lists of bytes. -/

abbrev str (l:List UInt8):Value:=.string ⟨⟨l⟩⟩
def bts (l:List UInt8):List Value:=l.map fun b => .int .u8 (b.toNat:Nat)
end Go.AM

namespace Go.AM
open Go Go.RowKit

/-! What stays readable; lists of any data that append makes. -/

structure Ge (L:Nat) (H H2:Heap):Prop where
  size:H.size ≤ H2.size
  row:∀ r row,L ≤ r → r < H.size → H.rows.get r = some row → H2.rows.get r = some row ∧ H2.alive r row = H.alive r row
theorem Ge.refl (L:Nat) (H:Heap):Ge L H H:=⟨Nat.le_refl _,fun _ _ _ _ h => ⟨h,rfl⟩⟩
theorem Ge.trans {L:Nat} {A B C:Heap} (h:Ge L A B) (k:Ge L B C):Ge L A C:=⟨Nat.le_trans h.size k.size,fun r row hL hr hrow => by
  obtain ⟨h1,h2⟩:=h.row r row hL hr hrow;obtain ⟨k1,k2⟩:=k.row r row hL (Nat.lt_of_lt_of_le hr h.size) h1
  exact ⟨k1,k2.trans h2⟩⟩
theorem Ge.mono {L L':Nat} {A B:Heap} (h:Ge L A B) (hL:L ≤ L'):Ge L' A B:=⟨h.size,fun r row h1 => h.row r row (Nat.le_trans hL h1)⟩
theorem Keep.ge {A B:Heap} (h:Keep A B) (L:Nat):Ge L A B:=⟨h.size,fun r row _ => h.row r row⟩
theorem Ge.read {L:Nat} {H H':Heap} (h:Ge L H H') {r o n:Nat} {l:List Value} (hL:L ≤ r) (hr:r < H.size) (e:H.read r o n = some l):H'.read r o n = some l:=by
  obtain ⟨row,h1,h2,h3,h4⟩:=read_inv e;obtain ⟨k1,k2⟩:=h.row r row hL hr h1;unfold Heap.read at e ⊢;rw [h1] at e;rw [k1];simp only [k2] at e ⊢;exact e
theorem Ge.relow {L l:Nat} {A B:Heap} (h:Ge L A B):Ge L A (B.relow l):=⟨h.size,h.row⟩
def Stable {α:Type} (E:Enc α) (L:Nat):Prop:=∀ {H H2:Heap} {x:α} {cs:List Value},Ge L H H2 → E.At H x cs → E.At H2 x cs
theorem SlE.ge {α:Type} [Inhabited α] {E:Enc α} {L:Nat} (hE:Stable E L) {H H':Heap} {v:Value} {xs:List α} {r o:Nat} (h:SlE E H v xs r o) (hL:0 < xs.length → L ≤ r) (hk:Ge L H H'):SlE E H' v xs r o where
  isv:=h.isv
  rd:=fun i hi => by
    obtain ⟨es,h1,h2⟩:=h.rd i hi;exact ⟨es,hk.read (hL (by omega)) (h.lt (by omega)) h1,hE hk h2⟩
  lt:=fun h0 => Nat.lt_of_lt_of_le (h.lt h0) hk.size
  ml:=h.ml
def Enc.from {α:Type} (E:Enc α) (L:Nat):Enc α where
  sz:=E.sz
  At:=fun H x cs => ∀ H2,Ge L H H2 → E.At H2 x cs
  len:=fun {H x cs} h => E.len (h H (Ge.refl L H))
  keep:=fun hk h H2 h2 => h H2 ((hk.ge L).trans h2)
def Chunks {α:Type} [Inhabited α] (E:Enc α) (H:Heap) (xs:List α) (cells:List Value):Prop:=
  cells.length = xs.length * E.sz ∧ ∀ i,i < xs.length → E.At H (xs.getD i default) ((cells.drop (i * E.sz)).take E.sz)
theorem Chunks.nil {α:Type} [Inhabited α] {E:Enc α} {H:Heap}:Chunks E H ([] : List α) []:=⟨by simp,fun i hi => absurd hi (Nat.not_lt_zero i)⟩
theorem Chunks.one {α:Type} [Inhabited α] {E:Enc α} {H:Heap} {x:α} {es:List Value} (h:E.At H x es):Chunks E H [x] es:=by
  have hl:=E.len h;refine ⟨by simp [hl],fun i hi => ?_⟩
  obtain rfl:i = 0:=by simp at hi; omega
  rw [Nat.zero_mul,List.drop_zero,← hl,List.take_length];exact h
theorem Chunks.append {α:Type} [Inhabited α] {E:Enc α} {H:Heap} {xs ys:List α} {c d:List Value} (h:Chunks E H xs c) (k:Chunks E H ys d):Chunks E H (xs ++ ys) (c ++ d):=by
  obtain ⟨h1,h2⟩:=h;obtain ⟨k1,k2⟩:=k;refine ⟨by rw [List.length_append,List.length_append,h1,k1,Nat.add_mul],fun i hi => ?_⟩
  rw [List.length_append] at hi
  by_cases hx:i < xs.length
  · have h3:=h2 i hx;have hle:i * E.sz + E.sz ≤ c.length:=by rw [h1,← Nat.succ_mul]; exact Nat.mul_le_mul_right _ hx
    rw [List.drop_append_of_le_length (by omega),List.take_append_of_le_length (by rw [List.length_drop]; omega),List.getD_eq_getElem?_getD,List.getElem?_append_left hx,← List.getD_eq_getElem?_getD]
    exact h3
  · have h3:=k2 (i - xs.length) (by omega)
    have he:i * E.sz = c.length + (i - xs.length) * E.sz:=by rw [h1,← Nat.add_mul]; congr 1; omega
    rw [he,List.drop_append,List.drop_of_length_le (by omega),List.nil_append,Nat.add_sub_cancel_left,List.getD_eq_getElem?_getD,List.getElem?_append_right (by omega),← List.getD_eq_getElem?_getD]
    exact h3
theorem Chunks.mono {α:Type} [Inhabited α] {E:Enc α} {H H':Heap} {xs:List α} {c:List Value} (h:Chunks E H xs c) (hE:∀ x cs,E.At H x cs → E.At H' x cs):Chunks E H' xs c:=⟨h.1,fun i hi => hE _ _ (h.2 i hi)⟩
def Full (H:Heap) (b n:Nat):Prop:=∀ q,memN q ((H.grps.get (2 * b + 1)).getD []) = true → ∃ x,H.rows.get q = some x ∧ x.exact = false ∧ x.gpos + x.cells.length ≤ n ∧ q < H.size ∧ b ≤ q
theorem keepL_all {H:Heap} {e:Nat}:∀ {l:List Nat},(∀ q,memN q l = true → H.endOf q ≤ e) → keepL H e l = l
  | [],_ => rfl
  | k :: l,h => by
    unfold keepL;have h1:H.endOf k ≤ e:=h k (by unfold memN; rw [Trie.beq_tt rfl]; rfl)
    have h2:∀ q,memN q l = true → H.endOf q ≤ e:=fun q hq => h q (by unfold memN; cases Nat.beq k q <;> simp [hq])
    rw [Nat.ble_eq_true_of_le h1,cond_true,keepL_all h2]
theorem Full.ge {L:Nat} {H H':Heap} {b n:Nat} (h:Full H b n) (hL:L ≤ b) (hk:Ge L H H') (hm:H'.grps.get (2 * b + 1) = H.grps.get (2 * b + 1)):Full H' b n:=fun q hq => by
  rw [hm] at hq;obtain ⟨x,h1,h2,h3,h4,h5⟩:=h q hq;exact ⟨x,(hk.row q x (Nat.le_trans hL h5) h4 h1).1,h2,h3,Nat.lt_of_lt_of_le h4 hk.size,h5⟩
theorem App.geH {L:Nat} {H H':Heap} {b r:Nat} {e:TypeId} {sz:Nat} {cells:List Value} (h:App H b r e sz cells) (hL:L ≤ b) (hk:Ge L H H'):App H' b r e sz cells where
  get:=(hk.row r _ (Nat.le_trans hL h.ge) h.lt h.get).1
  mem:=((hk.row r _ (Nat.le_trans hL h.ge) h.lt h.get).2.trans h.alive:_)
  lt:=Nat.lt_of_lt_of_le h.lt hk.size
  ge:=h.ge
theorem Own.ge {L:Nat} {H H':Heap} {r:Nat} {e:TypeId} {cells:List Value} (h:Own H r e cells) (hL:L ≤ r) (hk:Ge L H H'):Own H' r e cells where
  get:=(hk.row r _ hL h.lt h.get).1
  lt:=Nat.lt_of_lt_of_le h.lt hk.size

theorem App.fullG {H:Heap} {b r:Nat} {e:TypeId} {sz:Nat} {cells new:List Value} (h:App H b r e sz cells) (hf:Full H b cells.length) :
    Ge 0 H (H.grow r { cells:=cells,elem:=e,exact:=false,ro:=false,esz:=sz,grp:=2 * b + 1,gpos:=0 } 0 cells.length new) ∧
    Full (H.grow r { cells:=cells,elem:=e,exact:=false,ro:=false,esz:=sz,grp:=2 * b + 1,gpos:=0 } 0 cells.length new) b (cells ++ new).length:=by
  have hend:∀ q,memN q ((H.grps.get (2 * b + 1)).getD []) = true → H.endOf q ≤ 0 + 0 + cells.length:=fun q hq => by
    obtain ⟨x,h1,_,h3,_⟩:=hf q hq;unfold Heap.endOf;rw [h1];simp only [];omega
  have hkl:=keepL_all hend;have hmem:∀ q,memN q (H.size :: (H.grps.get (2 * b + 1)).getD []) = true → q = H.size ∨ memN q ((H.grps.get (2 * b + 1)).getD []) = true:=fun q hq => by
    unfold memN at hq;cases he:Nat.beq H.size q with
    | true => exact .inl (Nat.eq_of_beq_eq_true he).symm
    | false => rw [he,cond_false] at hq; exact .inr hq
  constructor
  · refine ⟨by rw [Heap.grow_size]; omega,fun r' row _ hr' hrow => ⟨by rw [Heap.grow_rows,Trie.get_put,if_neg (by omega)]; exact hrow,?_⟩⟩
    unfold Heap.alive;cases row.loop with
    | some _ => rfl
    | none =>
      simp only [];rw [Heap.grow_grps,Trie.get_put];split
      · rename_i hg;simp only [Option.getD_some];rw [hkl,hg];show (row.exact || memN r' (H.size :: (H.grps.get (2 * b + 1)).getD [])) = _;have:memN r' (H.size :: (H.grps.get (2 * b + 1)).getD []) = memN r' ((H.grps.get (2 * b + 1)).getD []):=by
          rw [show memN r' (H.size :: (H.grps.get (2 * b + 1)).getD []) = cond (Nat.beq H.size r') true (memN r' ((H.grps.get (2 * b + 1)).getD [])) from rfl,Trie.beq_ff (show H.size ≠ r' by omega),cond_false]
        rw [this]
      · rfl
  · intro q hq;rw [Heap.grow_grps,Trie.get_put,if_pos rfl,Option.getD_some,hkl] at hq;rw [Heap.grow_rows,Heap.grow_size];rcases hmem q hq with rfl | hq
    · refine ⟨_,by rw [Trie.get_put,if_pos rfl],rfl,?_,by omega,Nat.le_trans h.ge (Nat.le_of_lt h.lt)⟩
      simp
    · obtain ⟨x,h1,h2,h3,h4,h5⟩:=hf q hq;exact ⟨x,by rw [Trie.get_put,if_neg (by omega)]; exact h1,h2,by rw [List.length_append]; omega,by omega,h5⟩

def LstG {α:Type} [Inhabited α] (E:Enc α) (e:TypeId) (L:Nat) (H:Heap) (v:Value) (xs:List α):Prop:=
  (xs = [] ∧ v = .slice none 0 0) ∨ ∃ b r cells,L ≤ b ∧ b < H.size ∧ App H b r e E.sz cells ∧ Full H b cells.length ∧ v = .slice (some ⟨r,0,none⟩) xs.length xs.length ∧ 0 < xs.length ∧ Chunks E H xs cells

section list
variable {α:Type} [Inhabited α] {E:Enc α} {e:TypeId} {L:Nat} {H:Heap} {v:Value} {xs:List α}

theorem LstG.nil:LstG E e L H (.slice none 0 0) ([] : List α):=.inl ⟨rfl,rfl⟩
theorem LstG.isv (h:LstG E e L H v xs):∃ a,v = .slice a xs.length xs.length:=by
  rcases h with ⟨rfl,rfl⟩ | ⟨b,r,cells,_,_,_,_,rfl,_⟩
  · exact ⟨none,rfl⟩
  · exact ⟨_,rfl⟩
theorem LstG.fine (h:LstG E e L H v xs):Fine v:=by
  rcases h with ⟨rfl,rfl⟩ | ⟨b,r,cells,_,_,_,_,rfl,_⟩
  · exact fine_nil
  · exact fine_own _ _ _ _
theorem LstG.keep {H':Heap} (h:LstG E e L H v xs) (hk:Keep H H'):LstG E e L H' v xs:=by
  rcases h with h | ⟨b,r,cells,hb,hl,ha,hf,hv,hp,hc⟩
  · exact .inl h
  · exact .inr ⟨b,r,cells,hb,Nat.lt_of_lt_of_le hl hk.size,ha.keep hk,hf.ge (Nat.zero_le _) (hk.ge 0) (hk.mem _ (by omega)),hv,hp,hc.mono fun _ _ => E.keep hk⟩
theorem LstG.ge {H':Heap} (h:LstG E e L H v xs) (hE:Stable E L) (hk:Ge L H H') (hm:∀ g,g < 2 * H.size → H'.grps.get g = H.grps.get g):LstG E e L H' v xs:=by
  rcases h with h | ⟨b,r,cells,hb,hl,ha,hf,hv,hp,hc⟩
  · exact .inl h
  · exact .inr ⟨b,r,cells,hb,Nat.lt_of_lt_of_le hl hk.size,ha.geH hb hk,hf.ge hb hk (hm _ (by omega)),hv,hp,hc.mono fun _ _ => hE hk⟩
theorem LstG.low (h:LstG E e L H v xs) (hE:Stable E L) {l:Nat}:LstG E e L (H.relow l) v xs:=h.ge hE ⟨Nat.le_refl _,fun _ _ _ _ h => ⟨h,rfl⟩⟩ fun _ _ => rfl
theorem LstG.mono {L':Nat} (h:LstG E e L H v xs) (hL:L' ≤ L):LstG E e L' H v xs:=by
  rcases h with h | ⟨b,r,cells,hb,h⟩
  · exact .inl h
  · exact .inr ⟨b,r,cells,Nat.le_trans hL hb,h⟩
theorem LstG.sl (h:LstG E e L H v xs) (hm:xs.length ≤ Go.maxLen):∃ r,SlE E H v xs r 0 ∧ (0 < xs.length → L ≤ r):=by
  rcases h with ⟨rfl,rfl⟩ | ⟨b,r,cells,hb,hl,ha,hf,rfl,hp,hc⟩
  · exact ⟨0,⟨⟨none,0,rfl,fun h => absurd h (Nat.lt_irrefl 0)⟩,fun i hi => absurd hi (Nat.not_lt_zero i),fun h => absurd h (Nat.lt_irrefl 0),hm⟩,fun h => absurd h (Nat.lt_irrefl 0)⟩
  · refine ⟨r,⟨⟨_,_,rfl,fun _ => rfl⟩,fun i hi => ?_,fun _ => ha.lt,hm⟩,fun _ => Nat.le_trans hb ha.ge⟩
    have hle:i * E.sz + E.sz ≤ cells.length:=by rw [hc.1,← Nat.succ_mul]; exact Nat.mul_le_mul_right _ hi
    refine ⟨_,ha.read (o:=0 + i * E.sz) (n:=E.sz) (by omega),?_⟩
    rw [Nat.zero_add];exact hc.2 i hi
theorem LstG.all (h:LstG E e L H v xs):(xs = [] ∧ v = .slice none 0 0) ∨ ∃ r cells,v = .slice (some ⟨r,0,none⟩) xs.length xs.length ∧ r < H.size ∧ L ≤ r ∧ H.read r 0 cells.length = some cells ∧ Chunks E H xs cells:=by
  rcases h with h | ⟨b,r,cells,hb,hl,ha,hf,rfl,hp,hc⟩
  · exact .inl h
  · refine .inr ⟨r,cells,rfl,ha.lt,Nat.le_trans hb ha.ge,?_,hc⟩;have:=ha.read (o:=0) (n:=cells.length) (by omega)
    rwa [List.drop_zero,List.take_length] at this

structure Grow (L:Nat) (H H2:Heap):Prop where
  ge:Ge 0 H H2
  base:∀ H0,Grp H0 → Keep H0 H → H0.size ≤ L → Keep H0 H2
  grp:Grp H → Grp H2
  low:H.low ≤ H.size → H2.low ≤ H2.size
  mem:∀ g,g < 2 * L → g < 2 * H.size → H2.grps.get g = H.grps.get g
theorem Grow.refl (L:Nat) (H:Heap):Grow L H H:=⟨Ge.refl _ _,fun _ _ h _ => h,id,id,fun _ _ _ => rfl⟩
theorem Grow.trans {L:Nat} {A B C:Heap} (h:Grow L A B) (k:Grow L B C):Grow L A C:=⟨h.ge.trans k.ge,fun H0 g hk hl => k.base H0 g (h.base H0 g hk hl) hl,fun g => k.grp (h.grp g),fun l => k.low (h.low l),fun g h1 h2 => (k.mem g h1 (Nat.lt_of_lt_of_le h2 (Nat.mul_le_mul_left 2 h.ge.size))).trans (h.mem g h1 h2)⟩
theorem Keep.growG {A B:Heap} (h:Keep A B) (L:Nat):Grow L A B:=⟨h.ge 0,fun _ _ k _ => k.trans h,h.grp,h.low,fun g _ h2 => h.mem g h2⟩

theorem LstG.put {P:Program} {ts:Array TypeId} (hok:ElemOk P ts e E.sz) (hE:Stable E 0) (hg:Grp H) (h:LstG E e L H v xs) (hL:L ≤ H.size) {x:Value} {n:Nat} {new:List Value} {ys:List α} (hn:lenV x = some n) (hfst:aFirst H E.sz n x = some new) (hy:ys.length = n)
    (hone:ones new = true) (hc:Chunks E H ys new) (hs:xs.length + n ≤ 268435456) :
    ∃ v2 H2,aAppend P H ts v x = some (v2,H2) ∧ LstG E e L H2 v2 (xs ++ ys) ∧ Grow L H H2:=by
  obtain ⟨⟨sT,xT,d,inf,z,h1,h2,h3,h4,h5,h6,h7,h8,h9,h10⟩,hp⟩:=hok;have hcl:new.length = n * E.sz:=by rw [← hy]; exact hc.1
  rcases h with ⟨rfl,rfl⟩ | ⟨b,r,cells,hb,hl,ha,hf,rfl,hpos,hch⟩
  · rcases Nat.eq_zero_or_pos n with h0 | h0
    · subst h0;obtain rfl:=List.length_eq_zero_iff.1 hy;refine ⟨.slice none 0 0,H,?_,.nil,Grow.refl _ _⟩;unfold aAppend;rw [h1,h2];simp only [h3,h4,h5,h6,hn,h7,h9];rw [hfst];simp only [];rw [Trie.beq_tt (h8.trans h9),show Nat.blt 0 E.sz = true from Nat.ble_eq_true_of_le hp,show small 0 inf.bytes = true by unfold small; rw [Nat.ble_eq_true_of_le h10]; rfl]
      rfl
    · obtain ⟨hk,hA⟩:=App.first (P:=P) hg (e:=e) (sz:=E.sz) (cells:=new);refine ⟨_,_,?_,.inr ⟨H.size,H.size,new,hL,hA.lt,hA,?_,rfl,by simp; omega,?_⟩,hk.growG L⟩
      · have hnz:Nat.beq n 0 = false:=Trie.beq_ff (by omega)
        unfold aAppend;rw [h1,h2];simp only [h3,h4,h5,h6,hn,h7,h9];rw [hfst];simp only [];rw [Trie.beq_tt (h8.trans h9),show Nat.blt 0 E.sz = true from Nat.ble_eq_true_of_le hp,show small n inf.bytes = true by unfold small; rw [Nat.ble_eq_true_of_le (show n ≤ 268435456 by simp at hs; omega),Nat.ble_eq_true_of_le h10]; rfl]
        rw [hnz,List.nil_append,hy];rfl
      · intro q hq;rw [Heap.add_grps,cond_false,Trie.get_put,if_pos rfl,Option.getD_some] at hq;obtain rfl:=memN_single hq;exact ⟨_,hA.get,rfl,by simp,hA.lt,Nat.le_refl _⟩
      · rw [List.nil_append];exact hc.mono fun _ _ => E.keep hk
  · rcases Nat.eq_zero_or_pos n with h0 | h0
    · subst h0;obtain rfl:=List.length_eq_zero_iff.1 hy;rw [List.append_nil];refine ⟨_,H,?_,.inr ⟨b,r,cells,hb,hl,ha,hf,rfl,hpos,hch⟩,Grow.refl _ _⟩;unfold aAppend;rw [h1,h2];simp only [h3,h4,h5,h6,hn,h7,h9];rw [hfst];simp only [];rw [Trie.beq_tt (h8.trans h9),show Nat.blt 0 E.sz = true from Nat.ble_eq_true_of_le hp,show small (xs.length + 0) inf.bytes = true by unfold small; rw [Nat.ble_eq_true_of_le (show xs.length + 0 ≤ 268435456 by omega),Nat.ble_eq_true_of_le h10]; rfl]
      simp only [Bool.and_self,cond_true];unfold aAppendSome;rw [ha.get];simp only [];rw [show Nat.beq 0 0 = true from rfl,cond_true,Nat.ble_eq_true_of_le (Nat.le_refl _),cond_true]
    · obtain ⟨H2,e2,k1,k2,k3,k4,_⟩:=ha.more (new:=new) hg;obtain ⟨f1,f2⟩:=ha.fullG (new:=new) hf;rw [e2] at f1 f2;refine ⟨_,H2,?_,.inr ⟨b,H.size,cells ++ new,hb,by omega,k1,f2,by rw [List.length_append,hy],by rw [List.length_append]; omega,?_⟩,⟨f1,fun H0 g0 hk hl0 => k3 H0 g0 hk (by omega),fun _ => k4,fun _ => ?_,fun g h1 h2 => ?_⟩⟩
      · unfold aAppend;rw [h1,h2];simp only [h3,h4,h5,h6,hn,h7,h9];rw [hfst];simp only [];rw [Trie.beq_tt (h8.trans h9),show Nat.blt 0 E.sz = true from Nat.ble_eq_true_of_le hp,show small (xs.length + n) inf.bytes = true by unfold small; rw [Nat.ble_eq_true_of_le hs,Nat.ble_eq_true_of_le h10]; rfl]
        simp only [Bool.and_self,cond_true];unfold aAppendSome;rw [ha.get];simp only [];have hcl2:cells.length = xs.length * E.sz:=hch.1
        rw [show Nat.beq n 0 = false from Trie.beq_ff (by omega),cond_false,show Nat.ble (xs.length + n) xs.length = false by
          cases hq:Nat.ble (xs.length + n) xs.length with
          | false => rfl
          | true => have:=Nat.le_of_ble_eq_true hq; omega,Bool.false_and,cond_false,cond_false,ha.alive,Trie.beq_tt rfl,Trie.beq_tt rfl,hone,Nat.ble_eq_true_of_le (Nat.le_refl xs.length),show Nat.ble (0 + xs.length * E.sz) cells.length = true from Nat.ble_eq_true_of_le (by omega)]
        simp only [Bool.and_self,cond_true];rw [← hcl2,e2]
      · exact (hch.append hc).mono fun _ _ => hE f1
      · rw [← e2,Heap.grow_size];have h1:=(grow_low (H:=H) (r:=r) (row:={ cells:=cells,elem:=e,exact:=false,ro:=false,esz:=E.sz,grp:=2 * b + 1,gpos:=0 }) (off:=0) (n:=cells.length) (vs:=new)).1;have:=ha.lt;omega
      · rw [← e2,Heap.grow_grps,Trie.get_put,if_neg (by show ¬ g = 2 * b + 1; omega)]
theorem LstG.push {P:Program} {ts:Array TypeId} (hok:ElemOk P ts e E.sz) (hE:Stable E 0) (hg:Grp H) (h:LstG E e L H v xs) (hL:L ≤ H.size) {x:α} {es:List Value} (hx:E.At H x es) (hone:ones es = true) (hs:xs.length + 1 ≤ 268435456) (t:TypeId) :
    ∃ v2 H2,aAppend P (H.newExact es t) ts v (.slice (some ⟨H.size,0,none⟩) 1 1) = some (v2,H2) ∧ LstG E e L H2 v2 (xs ++ [x]) ∧ Grow L H H2:=by
  have hkn:=Keep.newExact H es t;have ho:=Own.new H es t;have hl:=E.len hx;have hr:=ho.read (o:=0) (n:=es.length) (by omega)
  rw [List.drop_zero,List.take_length] at hr
  obtain ⟨v2,H2,h1,h2,h3⟩:=(h.keep hkn).put hok hE (hkn.grp hg) (Nat.le_trans hL hkn.size) (x:=.slice (some ⟨H.size,0,none⟩) 1 1) (n:=1) (new:=es) (ys:=[x]) rfl (by
    show cond (Nat.beq (1 * E.sz) 0) (some []) ((H.newExact es t).read H.size 0 (1 * E.sz)) = some es;rw [Nat.one_mul,Trie.beq_ff (by have:=hok.pos; omega),cond_false,← hl]
    exact hr) rfl hone ((Chunks.one hx).mono fun _ _ => E.keep hkn) hs
  exact ⟨v2,H2,h1,h2,(hkn.growG L).trans h3⟩
end list


structure KeepX (x:Nat) (H H2:Heap):Prop where
  size:H.size ≤ H2.size
  low:H.low ≤ H.size → H2.low ≤ H2.size
  row:∀ r row,r ≠ x → r < H.size → H.rows.get r = some row → H2.rows.get r = some row ∧ H2.alive r row = H.alive r row
  base:∀ H0,Grp H0 → Keep H0 H → H0.size ≤ x → Keep H0 H2
  grp:Grp H → Grp H2
  mem:∀ g,g < 2 * H.size → H2.grps.get g = H.grps.get g
theorem KeepX.refl (x:Nat) (H:Heap):KeepX x H H:=⟨Nat.le_refl _,id,fun _ _ _ _ h => ⟨h,rfl⟩,fun _ _ h _ => h,id,fun _ _ => rfl⟩
theorem KeepX.trans {x:Nat} {A B C:Heap} (h:KeepX x A B) (k:KeepX x B C):KeepX x A C where
  size:=Nat.le_trans h.size k.size
  low:=fun l => k.low (h.low l)
  row:=fun r row hx hr hrow => by
    obtain ⟨h1,h2⟩:=h.row r row hx hr hrow;obtain ⟨k1,k2⟩:=k.row r row hx (Nat.lt_of_lt_of_le hr h.size) h1;exact ⟨k1,k2.trans h2⟩
  base:=fun H0 g0 h0 hl => k.base H0 g0 (h.base H0 g0 h0 hl) hl
  grp:=fun g => k.grp (h.grp g)
  mem:=fun g hg => (k.mem g (Nat.lt_of_lt_of_le hg (Nat.mul_le_mul_left 2 h.size))).trans (h.mem g hg)
theorem Keep.x {A B:Heap} (h:Keep A B) (x:Nat):KeepX x A B:=⟨h.size,h.low,fun r row _ => h.row r row,fun _ _ k _ => k.trans h,h.grp,h.mem⟩
theorem KeepX.ge {x:Nat} {A B:Heap} (h:KeepX x A B):Ge (x + 1) A B:=⟨h.size,fun r row hr => h.row r row (by omega)⟩
theorem KeepX.grow {x L:Nat} {A B C:Heap} (h:KeepX x A B) (k:Grow L B C) (hL:A.size ≤ L) (hx:x ≤ L):KeepX x A C where
  size:=Nat.le_trans h.size k.ge.size
  low:=fun l => k.low (h.low l)
  row:=fun r row hne hr hrow => by
    obtain ⟨h1,h2⟩:=h.row r row hne hr hrow;obtain ⟨k1,k2⟩:=k.ge.row r row (Nat.zero_le _) (Nat.lt_of_lt_of_le hr h.size) h1;exact ⟨k1,k2.trans h2⟩
  base:=fun H0 g0 h0 hl => k.base H0 g0 (h.base H0 g0 h0 hl) (Nat.le_trans hl hx)
  grp:=fun g => k.grp (h.grp g)
  mem:=fun g hg => (k.mem g (Nat.lt_of_lt_of_le hg (Nat.mul_le_mul_left 2 hL)) (Nat.lt_of_lt_of_le hg (Nat.mul_le_mul_left 2 h.size))).trans (h.mem g hg)
theorem KeepX.other {x r:Nat} {A B C:Heap} (h:KeepX x A B) (k:KeepX r B C) (hA:A.size ≤ r) (hx:x ≤ r):KeepX x A C where
  size:=Nat.le_trans h.size k.size
  low:=fun l => k.low (h.low l)
  row:=fun r' row hne hr hrow => by
    obtain ⟨h1,h2⟩:=h.row r' row hne hr hrow;obtain ⟨k1,k2⟩:=k.row r' row (by omega) (Nat.lt_of_lt_of_le hr h.size) h1
    exact ⟨k1,k2.trans h2⟩
  base:=fun H0 g0 h0 hl => k.base H0 g0 (h.base H0 g0 h0 hl) (Nat.le_trans hl hx)
  grp:=fun g => k.grp (h.grp g)
  mem:=fun g hg => (k.mem g (Nat.lt_of_lt_of_le hg (Nat.mul_le_mul_left 2 h.size))).trans (h.mem g hg)
theorem KeepX.relow {x l:Nat} {A B:Heap} (h:KeepX x A B) (hl:min B.low A.low ≤ l) (hl2:A.low ≤ A.size → l ≤ B.size) (hx:∀ H0,Keep H0 B → H0.size ≤ x → min H0.low H0.size ≤ l):KeepX x A (B.relow l) where
  size:=h.size
  low:=hl2
  row:=h.row
  base:=fun H0 g0 h0 hl0 => by
    have k:=h.base H0 g0 h0 hl0;exact ⟨k.size,fun hlo => Nat.le_trans (Nat.le_refl _) (hl2 (h0.low hlo)),hx H0 k hl0,k.row,k.grp,k.mem⟩
  grp:=h.grp
  mem:=h.mem
theorem KeepX.draw {x r:Nat} {A B C:Heap} (h:KeepX x A B) (k:KeepX r (B.relow B.size) C) (hr:r = x ∨ (A.size ≤ r ∧ x ≤ r)):KeepX x A (C.relow (Nat.min B.low C.low)) where
  size:=Nat.le_trans h.size k.size
  low:=fun l => Nat.le_trans (Nat.min_le_left _ _) (Nat.le_trans (h.low l) k.size)
  row:=fun r' row hne hlt hrow => by
    obtain ⟨h1,h2⟩:=h.row r' row hne hlt hrow;obtain ⟨k1,k2⟩:=k.row r' row (by omega) (Nat.lt_of_lt_of_le hlt h.size) h1
    exact ⟨k1,k2.trans h2⟩
  base:=fun H0 g0 h0 hl => by
    have k2:=h.base H0 g0 h0 hl;exact k2.lower (k.base H0 g0 (k2.trans (Keep.relowS B)) (by omega))
  grp:=fun g => k.grp (h.grp g)
  mem:=fun g hg => (k.mem g (Nat.lt_of_lt_of_le hg (Nat.mul_le_mul_left 2 h.size))).trans (h.mem g hg)
def cutQ (i:Nat) (R:F → Heap → Prop) (Q:QC):QC:=fun e ρ H => match e with
  | .exit j => if j = i then R ρ H else Q (.exit j) ρ H
  | e => Q e ρ H
end Go.AM

namespace Go.AM
open Go Go.RowKit

/-! A row that is turned in place: of one's own,or made by append. -/

structure Base extends Heap where
  side:List (Nat × TypeId × List Value)

structure Arr (HB:Base) (H:Heap) (b r:Nat) (e:TypeId) (sz:Nat) (k:Bool) (cells:List Value):Prop where
  keep:Keep HB.toHeap H
  le:HB.size ≤ b
  ge:b ≤ r
  grpB:Grp HB.toHeap
  side:∀ x ∈ HB.side,Own H x.1 x.2.1 x.2.2 ∧ x.1 ≠ r
  row:(k = true ∧ Own H r e cells) ∨ (k = false ∧ App H b r e sz cells ∧ Full H b cells.length)

section arr
variable {HB:Base} {H:Heap} {b r:Nat} {e:TypeId} {sz:Nat} {k:Bool} {cells:List Value}
theorem Arr.lt (h:Arr HB H b r e sz k cells):r < H.size:=by
  rcases h.row with ⟨_,h⟩ | ⟨_,h,_⟩
  · exact h.lt
  · exact h.lt
theorem Arr.grp (h:Arr HB H b r e sz k cells):Grp H:=h.keep.grp h.grpB
theorem Arr.read (h:Arr HB H b r e sz k cells) {o n:Nat} (hn:o + n ≤ cells.length):H.read r o n = some ((cells.drop o).take n):=by
  rcases h.row with ⟨_,h⟩ | ⟨_,h,_⟩
  · exact h.read hn
  · exact h.read hn
theorem Arr.kept {H2:Heap} (h:Arr HB H b r e sz k cells) (hk:Keep H H2):Arr HB H2 b r e sz k cells where
  keep:=h.keep.trans hk
  le:=h.le
  ge:=h.ge
  grpB:=h.grpB
  side:=fun x hx => ⟨(h.side x hx).1.keep hk,(h.side x hx).2⟩
  row:=by
    rcases h.row with ⟨h0,h1⟩ | ⟨h0,h1,h2⟩
    · exact .inl ⟨h0,h1.keep hk⟩
    · exact .inr ⟨h0,h1.keep hk,h2.ge (Nat.zero_le _) (hk.ge 0) (hk.mem _ (by have:=h1.ge; have:=h1.lt; omega))⟩
theorem Arr.other {H2:Heap} {s:Nat} {e':TypeId} {c':List Value} (h:Arr HB H b r e sz k cells) (ho:Own H s e' c') (hk:KeepX s H H2) (hs:HB.size ≤ s) (hr:s ≠ r) (hsd:∀ x ∈ HB.side,x.1 ≠ s):Arr HB H2 b r e sz k cells where
  keep:=hk.base HB.toHeap h.grpB h.keep hs
  le:=h.le
  ge:=h.ge
  grpB:=h.grpB
  side:=fun x hx => by
    obtain ⟨h1,h2⟩:=h.side x hx;exact ⟨⟨(hk.row x.1 _ (hsd x hx) h1.lt h1.get).1,Nat.lt_of_lt_of_le h1.lt hk.size⟩,h2⟩
  row:=by
    rcases h.row with ⟨h0,h1⟩ | ⟨h0,h1,h2⟩
    · exact .inl ⟨h0,⟨(hk.row r _ (Ne.symm hr) h1.lt h1.get).1,Nat.lt_of_lt_of_le h1.lt hk.size⟩⟩
    · have hm:=hk.mem (2 * b + 1) (by have:=h1.ge; have:=h1.lt; omega)
      refine .inr ⟨h0,⟨(hk.row r _ (Ne.symm hr) h1.lt h1.get).1,by rw [hm]; exact h1.mem,Nat.lt_of_lt_of_le h1.lt hk.size,h1.ge⟩,fun q hq => ?_⟩
      rw [hm] at hq;obtain ⟨x,g1,g2,g3,g4,g5⟩:=h2 q hq;have hqs:q ≠ s:=fun hh => by
        subst hh;rw [ho.get] at g1;cases g1;cases g2
      exact ⟨x,(hk.row q x hqs g4 g1).1,g2,g3,Nat.lt_of_lt_of_le g4 hk.size,g5⟩
theorem splice_len {l vs:List Value} {off:Nat} (h:off + vs.length ≤ l.length):(splice l off vs).length = l.length:=by
  unfold splice;rw [List.length_append,List.length_append,List.length_take,List.length_drop];omega
theorem minL_ge {b:Nat}:∀ {l:List Nat} {a:Nat},b ≤ a → (∀ q,memN q l = true → b ≤ q) → b ≤ minL a l
  | [],_,ha,_ => ha
  | k :: l,a,ha,h => by
    show b ≤ Nat.min k (minL a l);refine Nat.le_min.2 ⟨h k (memN_self _ _),minL_ge ha fun q hq => h q (by unfold memN; cases Nat.beq k q <;> simp [hq])⟩
theorem Arr.store {P:Program} {t:TypeId} (h:Arr HB H b r e sz k cells) {i:TypeInfo} (hi:P.info? t = some i) {v:Value} {new:List Value} (hv:v.cells.toList = new) (hs:i.size = new.length) (h1:ones new = true) {o:Nat} (ho:o + new.length ≤ cells.length) :
    ∃ H2,aStore P H t (.pointer (some ⟨r,o,none⟩)) v = some H2 ∧ Arr HB H2 b r e sz k (splice cells o new) ∧ H2.size = H.size:=by
  have hgr:=h.grp;rcases h.row with ⟨h0,hr⟩ | ⟨h0,hr,hf⟩
  · obtain ⟨H2,k1,k2,k3,k4,k5⟩:=hr.store hi hv hs h1 ho;exact ⟨H2,k1,⟨k5 HB.toHeap h.keep (Nat.le_trans h.le h.ge),h.le,h.ge,h.grpB,fun x hx => ⟨k4 _ _ _ (h.side x hx).2 (h.side x hx).1,(h.side x hx).2⟩,.inl ⟨h0,k2⟩⟩,k3⟩
  · subst hv;have hlen:(splice cells o v.cells.toList).length = cells.length:=splice_len ho;refine ⟨H.store r { cells:=cells,elem:=e,exact:=false,ro:=false,esz:=sz,grp:=2 * b + 1,gpos:=0 } o v.cells.toList,?_,⟨?_,h.le,h.ge,h.grpB,fun x hx => ?_,.inr ⟨h0,⟨?_,?_,?_,hr.ge⟩,?_⟩⟩,by rw [Heap.store_size]⟩
    · unfold aStore;rw [hi];simp only [hr.get];rw [hr.alive,Trie.beq_tt hs.symm,h1,show Nat.ble (o + v.cells.toList.length) cells.length = true from Nat.ble_eq_true_of_le ho]
      rfl
    · have hk:=h.keep;have hb1:∀ q,memN q ((H.grps.get (2 * b + 1)).getD []) = true → b ≤ q:=fun q hq => by
        have:=hgr.2 _ _ hq; omega
      refine ⟨by rw [Heap.store_size]; exact hk.size,fun hl => ?_,?_,fun r' row hr' hrow => ?_,fun _ => hgr.store hr.get _ _,fun g hg => ?_⟩
      · rw [Heap.store_size,Heap.store_low];simp only [cond_false];exact Nat.le_trans (minL_le _ _) (Nat.le_trans (Nat.min_le_right _ _) (hk.low hl))
      · rw [Heap.store_low];simp only [cond_false];refine minL_ge (Nat.le_min.2 ⟨?_,hk.lo⟩) fun q hq => ?_
        · have:=h.le; have:=h.ge; omega
        · have:=hb1 q hq; have:=h.le; omega
      · obtain ⟨k1,k2⟩:=hk.row r' row hr' hrow;have hle:=h.le;have hge:=h.ge;refine ⟨by rw [Heap.store_get,if_neg (by omega)]; exact k1,?_⟩
        rw [← k2];unfold Heap.alive;rw [Heap.store_grps];simp only [cond_false];cases row.loop with
        | some _ => rfl
        | none =>
          simp only [];cases he:row.exact with
          | true => rfl
          | false =>
            have h3:=(hgr.1 r' row k1).2;rw [he] at h3;have h4:row.grp ≤ 2 * r' + 1:=by rcases h3 with h3 | h3; cases h3; exact h3
            rw [Trie.get_put,if_neg (by omega)]
      · rw [Heap.store_grps];simp only [cond_false];have hle:=h.le;rw [Trie.get_put,if_neg (by omega)]
        exact hk.mem g hg
    · obtain ⟨h1,h2⟩:=h.side x hx;exact ⟨⟨by rw [Heap.store_get,if_neg h2]; exact h1.get,by rw [Heap.store_size]; exact h1.lt⟩,h2⟩
    · rw [Heap.store_get,if_pos rfl]
    · rw [Heap.store_grps];simp only [cond_false];rw [Trie.get_put,if_pos rfl,Option.getD_some];exact memN_self _ _
    · rw [Heap.store_size]; exact hr.lt
    · intro q hq;rw [Heap.store_grps] at hq;simp only [cond_false] at hq;rw [Trie.get_put,if_pos rfl,Option.getD_some] at hq;obtain rfl:=memN_single hq;refine ⟨_,by rw [Heap.store_get,if_pos rfl],rfl,?_,by rw [Heap.store_size]; exact hr.lt,hr.ge⟩
      simp
theorem Arr.own (hk:Keep HB.toHeap H) (hg:Grp HB.toHeap) (hs:HB.size ≤ r) (hsd:∀ x ∈ HB.side,Own H x.1 x.2.1 x.2.2 ∧ x.1 ≠ r) (ho:Own H r e cells):Arr HB H r r e sz true cells:=⟨hk,hs,Nat.le_refl _,hg,hsd,.inl ⟨rfl,ho⟩⟩
theorem Arr.relow {l:Nat} (h:Arr HB H b r e sz k cells) (h1:min HB.low HB.size ≤ l) (h2:HB.low ≤ HB.size → l ≤ H.size):Arr HB (H.relow l) b r e sz k cells where
  keep:=⟨h.keep.size,h2,h1,h.keep.row,h.keep.grp,h.keep.mem⟩
  le:=h.le
  ge:=h.ge
  grpB:=h.grpB
  side:=fun x hx => ⟨⟨(h.side x hx).1.get,(h.side x hx).1.lt⟩,(h.side x hx).2⟩
  row:=by
    rcases h.row with ⟨h0,h1⟩ | ⟨h0,h1,h2⟩
    · exact .inl ⟨h0,⟨h1.get,h1.lt⟩⟩
    · exact .inr ⟨h0,⟨h1.get,h1.mem,h1.lt,h1.ge⟩,h2⟩
theorem Arr.toOwn (h:Arr HB H b r e sz true cells):Own H r e cells:=by
  rcases h.row with ⟨_,h⟩ | ⟨h,_⟩
  · exact h
  · cases h
end arr

/-! Lists of data of fixed size,as cells. -/
structure Cel (α:Type) where
  sz:Nat
  pos:0 < sz
  ce:α → List Value
  val:α → Value
  len:∀ x,(ce x).length = sz
  cells:∀ x,(val x).cells.toList = ce x
  ones:∀ x,ones (ce x) = true

def flat {α:Type} (C:Cel α) (d:Array α):List Value:=d.toList.flatMap C.ce
section cel
variable {α:Type} [Inhabited α] {C:Cel α}
end cel

def celInt:Cel Int where
  sz:=1
  pos:=Nat.one_pos
  ce:=fun z => [.int .i64 z]
  val:=fun z => .int .i64 z
  len:=fun _ => rfl
  cells:=fun _ => rfl
  ones:=fun _ => rfl
def celTwo:Cel (Int × Int) where
  sz:=2
  pos:=Nat.succ_pos 1
  ce:=fun z => [.int .i64 z.1,.int .i64 z.2]
  val:=fun z => .agg ⟨[.int .i64 z.1,.int .i64 z.2]⟩
  len:=fun _ => rfl
  cells:=fun _ => rfl
  ones:=fun _ => rfl
def slD (r n c:Nat):Value:=.slice (some ⟨r,0,none⟩) n c
end Go.AM

namespace Go.AM

/-! Code in pieces: what holds between two of them. -/
section wc
variable {P:Program} {S:Sys} {N:Nat}
theorem WC.mono {c:Code} {ρ:F} {H:Heap} {Q Q':QC} (h:WC P S N c ρ H Q) (hQ:∀ e ρ H,Q e ρ H → Q' e ρ H):WC P S N c ρ H Q':=fun a ha => by
  obtain ⟨D,d,e,a',H',ρ',hr,hf,hq⟩:=h a ha;exact ⟨D,d,e,a',H',ρ',hr,hf,hQ _ _ _ hq⟩
theorem WC.of {c:Code} {ρ:F} {H:Heap} {Q:QC} (h:sxC P S N c ρ H Q):WC P S N c ρ H Q:=sxC_sound h
theorem WC.seq {x y:Code} {ρ:F} {H:Heap} {Q:QC} (h:WC P S N x ρ H (seqQ (fun ρ H => WC P S N y ρ H Q) Q)):WC P S N (.seq x y) ρ H Q:=fun a ha => by
  obtain ⟨D,d,e,a1,H1,ρ1,hr,hf,hq⟩:=h a ha
  by_cases he:e = .normal
  · subst he;have hq:WC P S N y ρ1 H1 Q:=hq;obtain ⟨D',d',e',a',H',ρ',hr',hf',hq'⟩:=hq a1 hf;refine ⟨max D D' + 1,max d d',e',a',H',ρ',?_,hf',hq'⟩;have h1:=aCode_le (n:=D) (n':=max D D') (oCallN_le (P:=P) (S:=S) (D:=D) (D':=max D D' + 1) (d:=d) (d':=max d d') (by omega) (by omega)) (by omega) hr
    have h2:=aCode_le (n:=D') (n':=max D D') (oCallN_le (P:=P) (S:=S) (D:=D') (D':=max D D' + 1) (d:=d') (d':=max d d') (by omega) (by omega)) (by omega) hr'
    unfold aCode;simp only [h1];exact h2
  · refine ⟨D + 1,d,e,a1,H1,ρ1,?_,hf,?_⟩
    · have h1:=aCode_le (n:=D) (n':=D) (oCallN_le (P:=P) (S:=S) (D:=D) (D':=D + 1) (d:=d) (d':=d) (by omega) (by omega)) (by omega) hr
      unfold aCode;simp only [h1];cases e with
      | normal => exact absurd rfl he
      | _ => rfl
    · cases e with
      | normal => exact absurd rfl he
      | _ => exact hq
theorem WC.block {id:Nat} {x:Code} {ρ:F} {H:Heap} {Q:QC} (h:WC P S N x ρ H (blockQ id Q)):WC P S N (.block id x) ρ H Q:=fun a ha => by
  obtain ⟨D,d,e,a',H',ρ',hr,hf,hq⟩:=h a ha;have h1:=aCode_le (n:=D) (n':=D) (oCallN_le (P:=P) (S:=S) (D:=D) (D':=D + 1) (d:=d) (d':=d) (by omega) (by omega)) (by omega) hr
  cases e with
  | exit i =>
    have hq:(if i = id then Q .normal ρ' H' else Q (.exit i) ρ' H'):=hq
    by_cases hi:i = id
    · rw [if_pos hi] at hq;refine ⟨D + 1,d,.normal,a',H',ρ',?_,hf,hq⟩;unfold aCode;simp only [h1,outOf,Trie.beq_tt hi,cond_true]
    · rw [if_neg hi] at hq;refine ⟨D + 1,d,.exit i,a',H',ρ',?_,hf,hq⟩;unfold aCode;simp only [h1,outOf,Trie.beq_ff hi,cond_false]
  | normal => exact ⟨D + 1,d,_,a',H',ρ',by unfold aCode; simp only [h1,outOf],hf,hq⟩
  | goto l => exact ⟨D + 1,d,_,a',H',ρ',by unfold aCode; simp only [h1,outOf],hf,hq⟩
  | ret => exact ⟨D + 1,d,_,a',H',ρ',by unfold aCode; simp only [h1,outOf],hf,hq⟩
theorem WC.cut {x y:Code} {ρ:F} {H:Heap} {Q:QC} (R:F → Heap → Prop) (hx:sxC P S N x ρ H (seqQ R Q)) (hy:∀ ρ H,R ρ H → WC P S N y ρ H Q):WC P S N (.seq x y) ρ H Q:=by
  refine WC.seq ((WC.of hx).mono fun e ρ' H' hq => ?_)
  cases e with
  | normal => exact hy _ _ hq
  | _ => exact hq
end wc
end Go.AM

namespace Go.AM
open Go Go.RowKit

/-! Range over a function: the loop's record is a row; the body is called for each element. -/

variable {P:Program} {S:Sys} {N:Nat}

def rowL (l:Nat) (lr:LoopRec):Row:={ cells:=[],elem:=0,exact:=true,ro:=false,esz:=0,grp:=2 * l,gpos:=0,loop:=some (.lp lr) }
structure LoopAt (H:Heap) (l:Nat) (lr:LoopRec):Prop where
  get:H.rows.get l = some (rowL l lr)
  lt:l < H.size
def LoopRec.st (lr:LoopRec) (st:LoopState) (pd:Option Code):LoopRec:={ lr with state:=st,pending:=pd }
def loopSet (H:Heap) (l:Nat) (lr:LoopRec) (st:LoopState) (pd:Option Code):Heap:=H.setLoop l (rowL l lr) st pd
theorem loopSet_eq (H:Heap) (l:Nat) (lr:LoopRec) (st:LoopState) (pd:Option Code):loopSet H l lr st pd = { size:=H.size,rows:=H.rows.put l (rowL l (lr.st st pd)),grps:=H.grps,low:=Nat.min l H.low }:=
  setLoop_eq (row:=rowL l lr) (lr:=lr) rfl st pd
theorem LoopAt.new (H:Heap) (lr:LoopRec):LoopAt (H.addLoop lr) H.size lr ∧ Keep H (H.addLoop lr) ∧ (H.addLoop lr).size = H.size + 1:=by
  have hg:∀ r,(H.addLoop lr).rows.get r = if r = H.size then some (rowL H.size lr) else H.rows.get r:=fun r => Heap.add_get _ _ _
  have hs:(H.addLoop lr).size = H.size + 1:=Heap.add_size _ _;have hgr:(H.addLoop lr).grps = H.grps:=by unfold Heap.addLoop; rw [Heap.add_grps]; rfl
  refine ⟨⟨by rw [hg,if_pos rfl],by omega⟩,?_,hs⟩
  constructor
  · omega
  · intro h;rw [show (H.addLoop lr).low = H.low from Heap.add_low _ _]
    omega
  · rw [show (H.addLoop lr).low = H.low from Heap.add_low _ _]
    exact Nat.min_le_left _ _
  · intro r row hr hrow;refine ⟨by rw [hg,if_neg (by omega)]; exact hrow,?_⟩
    unfold Heap.alive;rw [hgr]
  · intro g;exact Grp.add g (.inl rfl)
  · intro g _;rw [hgr]
theorem LoopAt.keep {H H':Heap} {l:Nat} {lr:LoopRec} (h:LoopAt H l lr) (hk:Keep H H'):LoopAt H' l lr:=⟨(hk.row l _ h.lt h.get).1,Nat.lt_of_lt_of_le h.lt hk.size⟩
theorem LoopAt.set {H:Heap} {l:Nat} {lr:LoopRec} (h:LoopAt H l lr) (st:LoopState) (pd:Option Code):LoopAt (loopSet H l lr st pd) l (lr.st st pd) ∧ KeepX l H (loopSet H l lr st pd):=by
  rw [loopSet_eq];refine ⟨⟨by simp [Trie.get_put],h.lt⟩,?_⟩
  have hlt:=h.lt;constructor
  · exact Nat.le_refl _
  · intro hL;show Nat.min l H.low ≤ H.size;exact Nat.le_trans (Nat.min_le_right _ _) hL
  · intro r row hr hlt hrow;exact ⟨by show (H.rows.put l _).get r = _; rw [Trie.get_put_ne _ _ hr]; exact hrow,rfl⟩
  · intro H0 g hk hl;constructor
    · exact hk.size
    · intro h0;exact Nat.le_trans (Nat.min_le_right _ _) (hk.low h0)
    · have:=hk.lo;have:=hk.size;show _ ≤ Nat.min l H.low;refine Nat.le_min.2 ⟨?_,hk.lo⟩;have:=Nat.min_le_right H0.low H0.size;omega
    · intro r row hr hrow;obtain ⟨h1,h2⟩:=hk.row r row hr hrow;exact ⟨by show (H.rows.put l _).get r = _; rw [Trie.get_put_ne _ _ (by omega)]; exact h1,h2⟩
    · intro g0;obtain ⟨g1,g2⟩:=hk.grp g0;refine ⟨fun r x hx => ?_,g2⟩
      have hx:(H.rows.put l (rowL l (lr.st st pd))).get r = some x:=hx;rw [Trie.get_put] at hx;split at hx
      · cases hx;rename_i e;rw [e];exact ⟨hlt,.inl rfl⟩
      · exact g1 r x hx
    · intro g hg;exact hk.mem g hg
  · rintro ⟨g1,g2⟩;refine ⟨fun r x hx => ?_,g2⟩
    have hx:(H.rows.put l (rowL l (lr.st st pd))).get r = some x:=hx;rw [Trie.get_put] at hx;split at hx
    · cases hx;rename_i e;rw [e];exact ⟨hlt,.inl rfl⟩
    · exact g1 r x hx
  · intro g _;rfl

def updL (ρ:F):List Tmp → List Value → F
  | t :: ts,v :: vs => updL (upd ρ t v) ts vs
  | _,_ => ρ
end Go.AM

namespace Go.AM
open Go Go.RowKit

/-! Append of one element inside a region that draws. -/
variable {P:Program} {α:Type} [Inhabited α] {E:Enc α} {e:TypeId} {L:Nat} {H:Heap} {v:Value} {xs:List α}

theorem LstG.low0 (h:LstG E e L H v xs) (hE:Stable E 0) {l:Nat}:LstG E e L (H.relow l) v xs:=by
  rcases h with h | ⟨b,r,cells,hb,hl,ha,hf,hv,hp,hc⟩
  · exact .inl h
  · exact .inr ⟨b,r,cells,hb,hl,⟨ha.get,ha.mem,ha.lt,ha.ge⟩,hf,hv,hp,hc.mono fun _ _ => hE ⟨Nat.le_refl _,fun _ _ _ _ h => ⟨h,rfl⟩⟩⟩
theorem LstG.pushD {ts:Array TypeId} (hok:ElemOk P ts e E.sz) (hE:Stable E 0) (hg:Grp H) (hlow:H.low ≤ H.size) (h:LstG E e L H v xs) (hL:L ≤ H.size) {x:α} {es:List Value} (hx:E.At H x es) (hone:ones es = true) (hs:xs.length + 1 ≤ 268435456) (t:TypeId) :
    ∃ H1 H2 v2 H3 H4,(H.relow H.size).newExact es t = H1 ∧ (∀ (all:List Oper) (n:Nat) (k:Heap → Prop),sxD all n H H1 k = k H2) ∧ H2.size = H.size + 1 ∧ H2.low ≤ H2.size ∧
      aAppend P (H2.relow H2.size) ts v (.slice (some ⟨H.size,0,none⟩) 1 1) = some (v2,H3) ∧ H3.relow (Nat.min H2.low H3.low) = H4 ∧ LstG E e L H4 v2 (xs ++ [x]) ∧
      (∀ H0,Grp H0 → Keep H0 H → H0.size ≤ L → Keep H0 H4) ∧ Grp H4 ∧ Ge 0 H H4 ∧ H4.low ≤ H4.size:=by
  have hkn:=Keep.newExact (H.relow H.size) es t;have k2:=Keep.draw hkn;have hz2:=size_new (H.relow H.size) es t;have ho:=Own.new (H.relow H.size) es t;have hl:=E.len hx;have hr:=ho.read (o:=0) (n:=es.length) (by omega)
  rw [List.drop_zero,List.take_length] at hr;have hfd:∀ (all:List Oper) (n:Nat) (k:Heap → Prop),sxD all n H _ k = _:=fun all n k => sxD_keep hkn k
  obtain ⟨H1,hH1⟩:∃ H1,H1 = (H.relow H.size).newExact es t:=⟨_,rfl⟩;rw [← hH1] at hkn k2 hr hfd hz2;obtain ⟨H2,hH2⟩:∃ H2,H2 = H1.relow (Nat.min H.low H1.low):=⟨_,rfl⟩;rw [← hH2] at k2 hfd;have hlow2:=k2.low hlow;have hg2:Grp (H2.relow H2.size):=k2.grp hg;have hr2:(H2.relow H2.size).read H.size 0 es.length = some es:=by rw [hH2]; exact hr
  have l2:=(h.keep k2).low0 hE (l:=H2.size);have hx2:E.At (H2.relow H2.size) x es:=E.keep (Keep.relowS H2) (E.keep k2 hx)
  obtain ⟨v2,H3,h1,h2,h3⟩:=l2.put (P:=P) (ts:=ts) hok hE hg2 (Nat.le_trans hL k2.size) (x:=.slice (some ⟨H.size,0,none⟩) 1 1) (n:=1) (new:=es) (ys:=[x]) rfl (by
    show cond (Nat.beq (1 * E.sz) 0) (some []) ((H2.relow H2.size).read H.size 0 (1 * E.sz)) = some es;rw [Nat.one_mul,Trie.beq_ff (by have:=hok.pos; omega),cond_false,← hl]
    exact hr2) rfl hone (Chunks.one hx2) hs
  refine ⟨H1,H2,v2,H3,_,hH1.symm,hfd,by rw [hH2]; exact hz2,hlow2,h1,rfl,h2.low0 hE,fun H0 g0 hk hl0 => ?_,?_,?_,?_⟩
  · exact Keep.lower (hk.trans k2) (h3.base H0 g0 ((hk.trans k2).trans (Keep.relowS H2)) hl0)
  · exact h3.grp hg2
  · exact ((k2.ge 0).trans ((Keep.relowS H2).ge 0)).trans (h3.ge.relow)
  · exact Nat.le_trans (Nat.min_le_right _ _) (h3.low (Nat.le_refl _))
end Go.AM

namespace Go.AM
open Go Go.RowKit

/-! A row that is turned in place,and a loop's record beside it. -/
variable {P:Program} {HB:Base} {H:Heap} {b r:Nat} {e:TypeId} {sz:Nat} {cells:List Value} {l:Nat} {lr:LoopRec}

theorem Arr.loopSet (h:Arr HB H b r e sz true cells) (hl:LoopAt H l lr) (h1:HB.size ≤ l) (h2:l ≠ r) (h3:∀ x ∈ HB.side,x.1 ≠ l) (st:LoopState) (pd:Option Code):Arr HB (loopSet H l lr st pd) b r e sz true cells:=by
  obtain ⟨k1,k2⟩:=hl.set st pd;have hown:∀ {s:Nat} {e':TypeId} {c':List Value},Own H s e' c' → s ≠ l → Own (AM.loopSet H l lr st pd) s e' c':=fun ho hs => ⟨(k2.row _ _ hs ho.lt ho.get).1,Nat.lt_of_lt_of_le ho.lt k2.size⟩
  refine ⟨k2.base HB.toHeap h.grpB h.keep h1,h.le,h.ge,h.grpB,fun x hx => ?_,.inl ⟨rfl,hown h.toOwn (Ne.symm h2)⟩⟩
  obtain ⟨g1,g2⟩:=h.side x hx;exact ⟨hown g1 (h3 x hx),g2⟩
theorem LoopAt.store {t:TypeId} {o:Nat} {v:Value} {H2:Heap} (hl:LoopAt H l lr) (hs:aStore P H t (.pointer (some ⟨r,o,none⟩)) v = some H2) (hr:l ≠ r):LoopAt H2 l lr:=by
  unfold aStore at hs;simp only [] at hs;split at hs
  · rename_i inf row h1 h2;obtain ⟨_,hs⟩:=Zaaw (b:=_) hs;cases hs;exact ⟨by rw [Heap.store_get,if_neg hr]; exact hl.get,by rw [Heap.store_size]; exact hl.lt⟩
  · cases hs
theorem LoopAt.relow {k:Nat} (hl:LoopAt H l lr):LoopAt (H.relow k) l lr:=⟨hl.get,hl.lt⟩
variable {S:Sys} {N:Nat}
end Go.AM

namespace Go.AM
open Go Go.RowKit

/-! A slice that came in,all its cells at once; what append makes of an empty slice that is not nil. -/
variable {P:Program} {α:Type} [Inhabited α] {E:Enc α} {e:TypeId} {L:Nat} {H:Heap} {v:Value} {xs ys:List α}

theorem SlE.cells {r o:Nat} (h:SlE E H v xs r o) (hz:0 < E.sz):∃ cells,Chunks E H xs cells ∧ (0 < xs.length → H.read r o (xs.length * E.sz) = some cells):=by
  rcases Nat.eq_zero_or_pos xs.length with h0 | h0
  · obtain rfl:=List.length_eq_zero_iff.1 h0;exact ⟨[],.nil,fun h => absurd h (Nat.lt_irrefl 0)⟩
  obtain ⟨es,h1,h2⟩:=h.rd (xs.length - 1) (by omega)
  obtain ⟨row,k1,k2,k3,k4⟩:=read_inv h1;have hend:(xs.length - 1) * E.sz + E.sz = xs.length * E.sz:=by rw [← Nat.succ_mul]; congr 1; omega
  have hle:o + xs.length * E.sz ≤ row.cells.length:=by omega
  have hrd:∀ n j,j + n ≤ xs.length * E.sz → H.read r (o + j) n = some ((row.cells.drop (o + j)).take n):=fun n j hj => by
    unfold Heap.read;rw [k1];simp only [];rw [k2,show Nat.ble (o + j + n) row.cells.length = true from Nat.ble_eq_true_of_le (by omega)]
    rfl
  refine ⟨(row.cells.drop o).take (xs.length * E.sz),⟨?_,fun i hi => ?_⟩,fun _ => hrd _ 0 (by omega)⟩
  · rw [List.length_take,List.length_drop]; omega
  · obtain ⟨es,m1,m2⟩:=h.rd i hi;have hb:i * E.sz + E.sz ≤ xs.length * E.sz:=by rw [← Nat.succ_mul]; exact Nat.mul_le_mul_right _ hi
    have m3:=hrd E.sz (i * E.sz) hb;rw [m1] at m3;cases m3;have:(((row.cells.drop o).take (xs.length * E.sz)).drop (i * E.sz)).take E.sz = (row.cells.drop (o + i * E.sz)).take E.sz:=by
      rw [List.drop_take,List.take_take,List.drop_drop,Nat.min_eq_left (by omega)]
    rw [this];exact m2
theorem aFirst_zero (H:Heap) (sz:Nat) (a:Option Addr):aFirst H sz 0 (.slice a 0 0) = some []:=by
  cases a with
  | none => rfl
  | some a =>
    obtain ⟨r',o',p⟩:=a;cases p with
    | none => show cond (Nat.beq (0 * sz) 0) (some []) _ = _; rw [Nat.zero_mul]; rfl
    | some _ => rfl
theorem SlE.first {r o:Nat} (h:SlE E H v xs r o) (hz:0 < E.sz) (h0:Plain0 v):∃ cells,Chunks E H xs cells ∧ aFirst H E.sz xs.length v = some cells ∧ lenV v = some xs.length:=by
  obtain ⟨cells,h1,h2⟩:=h.cells hz;obtain ⟨a,c,rfl,ha⟩:=h.isv;refine ⟨cells,h1,?_,rfl⟩;rcases Nat.eq_zero_or_pos xs.length with hx | hx
  · have hc:cells = []:=List.length_eq_zero_iff.1 (by rw [h1.1,hx,Nat.zero_mul])
    subst hc;rw [hx] at h0 ⊢;cases a with
    | none => rfl
    | some a =>
      rcases h0 a 0 c rfl with hp | ⟨_,hp⟩
      · obtain ⟨r',o',p⟩:=a;obtain rfl:p = none:=hp;show cond (Nat.beq (0 * E.sz) 0) (some []) _ = _;rw [Nat.zero_mul]; rfl
      · rw [hp]; exact aFirst_zero H _ _
  · rw [ha hx];show cond (Nat.beq (xs.length * E.sz) 0) (some []) (H.read r o (xs.length * E.sz)) = some cells;rw [Trie.beq_ff (by have:=Nat.mul_pos hx hz; omega)]
    exact h2 hx

theorem ones_append:∀ {a b:List Value},ones a = true → ones b = true → ones (a ++ b) = true
  | [],_,_,h => h
  | v :: l,b,h,k => by
    cases v <;> first | (simp [ones] at h; done) | exact ones_append (a:=l) h k
theorem Chunks.ones (hE:∀ {x cs},E.At H x cs → ones cs = true):∀ {xs:List α} {cells:List Value},Chunks E H xs cells → ones cells = true
  | [],cells,h => by
    have:cells = []:=List.length_eq_zero_iff.1 (by rw [h.1]; simp)
    rw [this]; rfl
  | x :: xs,cells,h => by
    have hl:=h.1;rw [List.length_cons,Nat.succ_mul] at hl;have h0:=h.2 0 (by simp)
    rw [Nat.zero_mul,List.drop_zero] at h0
    have h1:Chunks E H xs (cells.drop E.sz):=⟨by rw [List.length_drop]; omega,fun i hi => by
      have:=h.2 (i + 1) (by simp; omega)
      rw [List.drop_drop,Nat.add_comm E.sz];rw [Nat.succ_mul] at this
      exact this⟩
    have:=ones_append (hE h0) (Chunks.ones hE h1);rwa [List.take_append_drop] at this

def LstO {α:Type} [Inhabited α] (E:Enc α) (e:TypeId) (L:Nat) (H:Heap) (v:Value) (xs:List α):Prop:=
  LstG E e L H v xs ∨ (xs = [] ∧ ∃ r e',v = .slice (some ⟨r,0,none⟩) 0 0 ∧ Own H r e' [] ∧ L ≤ r)
theorem LstO.keep {H':Heap} (h:LstO E e L H v xs) (hk:Keep H H'):LstO E e L H' v xs:=by
  rcases h with h | ⟨rfl,r,e',rfl,ho,hL⟩
  · exact .inl (h.keep hk)
  · exact .inr ⟨rfl,r,e',rfl,ho.keep hk,hL⟩
theorem LstO.isv (h:LstO E e L H v xs):∃ a,v = .slice a xs.length xs.length:=by
  rcases h with h | ⟨rfl,r,e',rfl,_⟩
  · exact h.isv
  · exact ⟨_,rfl⟩
theorem LstO.sl (h:LstO E e L H v xs) (hm:xs.length ≤ Go.maxLen):∃ r,SlE E H v xs r 0 ∧ (0 < xs.length → L ≤ r):=by
  rcases h with h | ⟨rfl,r,e',rfl,_⟩
  · exact h.sl hm
  · exact ⟨r,⟨⟨_,0,rfl,fun h => absurd h (Nat.lt_irrefl 0)⟩,fun i hi => absurd hi (Nat.not_lt_zero i),fun h => absurd h (Nat.lt_irrefl 0),hm⟩,fun h => absurd h (Nat.lt_irrefl 0)⟩
theorem LstO.empty (H:Heap) (t:TypeId) (hL:L ≤ H.size):LstO E e L (H.newExact [] t) (.slice (some ⟨H.size,0,none⟩) 0 0) ([] : List α):=.inr ⟨rfl,_,t,rfl,Own.new H [] t,hL⟩
theorem Own.put0 {ts:Array TypeId} (hok:ElemOk P ts e E.sz) (hg:Grp H) {r:Nat} {e':TypeId} (ho:Own H r e' []) (hr:L ≤ r) (hL:L ≤ H.size) {x:Value} {n:Nat} {new:List Value} (hn:lenV x = some n) (hfst:aFirst H E.sz n x = some new) (hy:ys.length = n)
    (hc:Chunks E H ys new) (hs:n ≤ 268435456) :
    ∃ v2 H2,aAppend P H ts (.slice (some ⟨r,0,none⟩) 0 0) x = some (v2,H2) ∧ LstO E e L H2 v2 ys ∧ (0 < n → LstG E e L H2 v2 ys) ∧ Keep H H2:=by
  obtain ⟨⟨sT,xT,d,inf,z,h1,h2,h3,h4,h5,h6,h7,h8,h9,h10⟩,hp⟩:=hok;have hsm:small (0 + n) inf.bytes = true:=by unfold small; rw [Nat.ble_eq_true_of_le (show 0 + n ≤ 268435456 by omega),Nat.ble_eq_true_of_le h10]; rfl
  rcases Nat.eq_zero_or_pos n with h0 | h0
  · subst h0;obtain rfl:=List.length_eq_zero_iff.1 hy;refine ⟨_,H,?_,.inr ⟨rfl,r,e',rfl,ho,hr⟩,fun h => absurd h (Nat.lt_irrefl 0),Keep.refl _⟩
    unfold aAppend;rw [h1,h2];simp only [h3,h4,h5,h6,hn,h7,h9];rw [hfst];simp only [];rw [Trie.beq_tt (h8.trans h9),show Nat.blt 0 E.sz = true from Nat.ble_eq_true_of_le hp,hsm]
    simp only [Bool.and_self,cond_true];unfold aAppendSome;rw [ho.get];simp only [];rw [show Nat.beq 0 0 = true from rfl,cond_true,Nat.ble_eq_true_of_le (Nat.le_refl _),cond_true]
  · obtain ⟨hk,hA⟩:=App.first (P:=P) hg (e:=e) (sz:=E.sz) (cells:=new);have hG:LstG E e L (H.add { cells:=new,elem:=e,exact:=false,ro:=false,esz:=E.sz,grp:=2 * H.size + 1,gpos:=0 }) (.slice (some ⟨H.size,0,none⟩) n n) ys:=by
      refine .inr ⟨H.size,H.size,new,hL,hA.lt,hA,?_,by rw [hy],by omega,hc.mono fun _ _ => E.keep hk⟩
      intro q hq;rw [Heap.add_grps,cond_false,Trie.get_put,if_pos rfl,Option.getD_some] at hq;obtain rfl:=memN_single hq;exact ⟨_,hA.get,rfl,by simp,hA.lt,Nat.le_refl _⟩
    refine ⟨_,_,?_,.inl hG,fun _ => hG,hk⟩
    unfold aAppend;rw [h1,h2];simp only [h3,h4,h5,h6,hn,h7,h9];rw [hfst];simp only [];rw [Trie.beq_tt (h8.trans h9),show Nat.blt 0 E.sz = true from Nat.ble_eq_true_of_le hp,hsm]
    simp only [Bool.and_self,cond_true];unfold aAppendSome;rw [ho.get];simp only []
    rw [show Nat.beq n 0 = false from Trie.beq_ff (by omega),cond_false,show Nat.ble (0 + n) 0 = false by
      cases hq:Nat.ble (0 + n) 0 with
      | false => rfl
      | true => have:=Nat.le_of_ble_eq_true hq; omega,Bool.false_and,cond_false,cond_true]
    simp only [Nat.zero_mul,Nat.zero_add,show Nat.beq 0 0 = true from rfl,cond_true,Option.map_some,List.nil_append]
theorem LstO.put {ts:Array TypeId} (hok:ElemOk P ts e E.sz) (hE:Stable E 0) (hg:Grp H) (h:LstO E e L H v xs) (hL:L ≤ H.size) {x:Value} {n:Nat} {new:List Value} (hn:lenV x = some n) (hfst:aFirst H E.sz n x = some new) (hy:ys.length = n)
    (hone:ones new = true) (hc:Chunks E H ys new) (hs:xs.length + n ≤ 268435456) :
    ∃ v2 H2,aAppend P H ts v x = some (v2,H2) ∧ LstO E e L H2 v2 (xs ++ ys) ∧ (0 < n → LstG E e L H2 v2 (xs ++ ys)) ∧ Grow L H H2:=by
  rcases h with h | ⟨rfl,r,e',rfl,ho,hr⟩
  · obtain ⟨v2,H2,h1,h2,h3⟩:=h.put hok hE hg hL hn hfst hy hone hc hs;exact ⟨v2,H2,h1,.inl h2,fun _ => h2,h3⟩
  obtain ⟨v2,H2,h1,h2,h3,h4⟩:=ho.put0 (P:=P) (E:=E) (L:=L) hok hg hr hL hn hfst hy hc (by simp at hs; omega)
  exact ⟨v2,H2,h1,h2,h3,h4.growG L⟩
theorem LstO.push {ts:Array TypeId} (hok:ElemOk P ts e E.sz) (hE:Stable E 0) (hg:Grp H) (h:LstO E e L H v xs) (hL:L ≤ H.size) {x:α} {es:List Value} (hx:E.At H x es) (hone:ones es = true) (hs:xs.length + 1 ≤ 268435456) (t:TypeId) :
    ∃ v2 H2,aAppend P (H.newExact es t) ts v (.slice (some ⟨H.size,0,none⟩) 1 1) = some (v2,H2) ∧ LstG E e L H2 v2 (xs ++ [x]) ∧ Grow L H H2:=by
  have hkn:=Keep.newExact H es t;have ho:=Own.new H es t;have hl:=E.len hx;have hr:=ho.read (o:=0) (n:=es.length) (by omega)
  rw [List.drop_zero,List.take_length] at hr
  obtain ⟨v2,H2,h1,_,h2,h3⟩:=(h.keep hkn).put hok hE (hkn.grp hg) (Nat.le_trans hL hkn.size) (x:=.slice (some ⟨H.size,0,none⟩) 1 1) (n:=1) (new:=es) (ys:=[x]) rfl (by
    show cond (Nat.beq (1 * E.sz) 0) (some []) ((H.newExact es t).read H.size 0 (1 * E.sz)) = some es;rw [Nat.one_mul,Trie.beq_ff (by have:=hok.pos; omega),cond_false,← hl]
    exact hr) rfl hone ((Chunks.one hx).mono fun _ _ => E.keep hkn) hs
  exact ⟨v2,H2,h1,h2 (by omega),(hkn.growG L).trans h3⟩
/-! The same inside a region that draws. -/
theorem LstO.low0 (h:LstO E e L H v xs) (hE:Stable E 0) {l:Nat}:LstO E e L (H.relow l) v xs:=by
  rcases h with h | ⟨rfl,r,e',rfl,ho,hL⟩
  · exact .inl (h.low0 hE)
  · exact .inr ⟨rfl,r,e',rfl,⟨ho.get,ho.lt⟩,hL⟩
theorem newD (H:Heap) (hlow:H.low ≤ H.size) (es:List Value) (t:TypeId):∃ H1 H2,(H.relow H.size).newExact es t = H1 ∧ (∀ (all:List Oper) (n:Nat) (k:Heap → Prop),sxD all n H H1 k = k H2) ∧ Keep H H2 ∧ H2.size = H.size + 1 ∧ H2.low ≤ H2.size ∧ Own H2 H.size t es:=by
  have hkn:=Keep.newExact (H.relow H.size) es t;have ho:=Own.new (H.relow H.size) es t;have k2:=Keep.draw hkn;exact ⟨_,_,rfl,fun all n k => sxD_keep hkn k,k2,size_new (H.relow H.size) es t,k2.low hlow,⟨ho.get,ho.lt⟩⟩
theorem LstO.pushD {ts:Array TypeId} (hok:ElemOk P ts e E.sz) (hE:Stable E 0) (hg:Grp H) (hlow:H.low ≤ H.size) (h:LstO E e L H v xs) (hL:L ≤ H.size) {x:α} {es:List Value} (hx:E.At H x es) (hone:ones es = true) (hs:xs.length + 1 ≤ 268435456) (t:TypeId) :
    ∃ H1 H2 v2 H3 H4,(H.relow H.size).newExact es t = H1 ∧ (∀ (all:List Oper) (n:Nat) (k:Heap → Prop),sxD all n H H1 k = k H2) ∧ H2.size = H.size + 1 ∧ H2.low ≤ H2.size ∧
      aAppend P (H2.relow H2.size) ts v (.slice (some ⟨H.size,0,none⟩) 1 1) = some (v2,H3) ∧ H3.relow (Nat.min H2.low H3.low) = H4 ∧ LstG E e L H4 v2 (xs ++ [x]) ∧
      (∀ H0,Grp H0 → Keep H0 H → H0.size ≤ L → Keep H0 H4) ∧ Grp H4 ∧ Ge 0 H H4 ∧ H4.low ≤ H4.size:=by
  obtain ⟨H1,H2,h1,fd,k2,hz2,hlow2,ho⟩:=newD H hlow es t;have hg2:Grp (H2.relow H2.size):=k2.grp hg;have hl:=E.len hx;have hr:=ho.read (o:=0) (n:=es.length) (by omega)
  rw [List.drop_zero,List.take_length] at hr;have l2:=(h.keep k2).low0 hE (l:=H2.size);have hx2:E.At (H2.relow H2.size) x es:=E.keep (Keep.relowS H2) (E.keep k2 hx)
  obtain ⟨v2,H3,m1,_,m2,m3⟩:=l2.put (P:=P) (ts:=ts) hok hE hg2 (Nat.le_trans hL k2.size) (x:=.slice (some ⟨H.size,0,none⟩) 1 1) (n:=1) (new:=es) (ys:=[x]) rfl (by
    show cond (Nat.beq (1 * E.sz) 0) (some []) ((H2.relow H2.size).read H.size 0 (1 * E.sz)) = some es;rw [Nat.one_mul,Trie.beq_ff (by have:=hok.pos; omega),cond_false,← hl]
    exact hr) rfl hone (Chunks.one hx2) hs
  refine ⟨H1,H2,v2,H3,_,h1,fd,hz2,hlow2,m1,rfl,(m2 (by omega)).low0 hE,fun H0 g0 hk hl0 => ?_,?_,?_,?_⟩
  · exact Keep.lower (hk.trans k2) (m3.base H0 g0 ((hk.trans k2).trans (Keep.relowS H2)) hl0)
  · exact m3.grp hg2
  · exact ((k2.ge 0).trans ((Keep.relowS H2).ge 0)).trans (m3.ge.relow)
  · exact Nat.le_trans (Nat.min_le_right _ _) (m3.low (Nat.le_refl _))
end Go.AM
