/- The nearest leg; the shortest journey. -/
import Derived.Test.YteechkbnccpicaaL3
import Derived.Test.YteechkbnccpicaaM1
set_option linter.unusedVariables false
set_option linter.unusedSimpArgs false
set_option linter.unusedSectionVars false

namespace Go.Proofs.Yteechkbnccpicaa
open Go Go.AM
set_option maxRecDepth 10000

def KOk (S:AM.Sys) (H0:Heap) (g:FuncId) (pre cs:List Value) (n:Nat) (K:Nat → Bool):Prop:=
  ∀ (H':Heap) (i:Nat),Keep H0 H' → i < n → ∃ H2,Keep H' H2 ∧ Runs Try.prog S (.fn g) (pre ++ [.int .i64 (i:Int)] ++ cs) H' (.bool (K i)) H2
def NearTo (K:Nat → Bool) (d:Array Int) (k:Nat) (z y:Int):Prop:=
  (z = -1 ∧ y = 10060 ∧ ∀ j,j < k → K j = true → ¬ d[j]! < 10060) ∨
  (∃ i:Nat,z = (i:Int) ∧ y = d[i]! ∧ i < k ∧ K i = true ∧ d[i]! < 10060 ∧ ∀ j,j < k → K j = true → d[i]! ≤ d[j]! ∧ (d[i]! = d[j]! → i ≤ j))
theorem NearTo.no {K:Nat → Bool} {d:Array Int} {k:Nat} {z y:Int} (h:NearTo K d k z y) (hn:¬ d[k]! < y ∨ K k = false):NearTo K d (k + 1) z y:=by
  have hlt:∀ j,j < k + 1 → j < k ∨ j = k:=fun j hj => by omega
  rcases h with ⟨h1,h2,h3⟩ | ⟨i,h1,h2,h3,h4,h5,h6⟩
  · refine .inl ⟨h1,h2,fun j hj hK => ?_⟩
    rcases hlt j hj with e | rfl
    · exact h3 j e hK
    · rcases hn with hn | hn
      · rw [h2] at hn; exact hn
      · rw [hn] at hK; cases hK
  · refine .inr ⟨i,h1,h2,by omega,h4,h5,fun j hj hK => ?_⟩
    rcases hlt j hj with e | rfl
    · exact h6 j e hK
    · rcases hn with hn | hn
      · rw [h2] at hn;exact ⟨by omega,fun _ => by omega⟩
      · rw [hn] at hK; cases hK
theorem NearTo.yes {K:Nat → Bool} {d:Array Int} {k:Nat} {z y:Int} (h:NearTo K d k z y) (hn:d[k]! < y) (hK:K k = true):NearTo K d (k + 1) (k:Int) d[k]!:=by
  have hlt:∀ j,j < k + 1 → j < k ∨ j = k:=fun j hj => by omega
  have hy:y ≤ 10060:=by
    rcases h with ⟨h1,h2,h3⟩ | ⟨i,h1,h2,h3,h4,h5,h6⟩ <;> omega
  refine .inr ⟨k,rfl,rfl,Nat.lt_succ_self k,hK,by omega,fun j hj hKj => ?_⟩
  rcases hlt j hj with e | rfl
  · rcases h with ⟨h1,h2,h3⟩ | ⟨i,h1,h2,h3,h4,h5,h6⟩
    · have:=h3 j e hKj;exact ⟨by omega,fun _ => by omega⟩
    · have:=h6 j e hKj;exact ⟨by omega,fun _ => by omega⟩
  · exact ⟨Int.le_refl _,fun _ => Nat.le_refl _⟩
def EndsB (to by':Int) (x:Lg):Prop:=x.t = to ∧ x.a ≤ by'
def BegB (fr at':Int) (x:Lg):Prop:=x.f = fr ∧ at' ≤ x.d
theorem intI (z:Nat) (hz:z ≤ 1000):(intE .i64).At emptyH (z:Int) [.int .i64 (z:Int)]:=⟨rfl,by
  have m1:IntKind.i64.min = -9223372036854775808:=by decide
  have m2:IntKind.i64.max = 9223372036854775807:=by decide
  rw [m1,m2]; omega⟩
theorem okI:ElemOk Try.prog #[25,25] 3 (intE .i64).sz:=⟨⟨25,25,_,Try.t3,.int .i64 0,rfl,rfl,Try.underlying25,Try.underlying25,rfl,by kernel_rfl,by kernel_rfl,by kernel_rfl,by kernel_rfl,of_decide_eq_true (by kernel_rfl)⟩,by show 0 < 1; decide⟩
def castL (x:List Nat):List Int:=x.map fun i:Nat => (i:Int)
def JL (L:Nat) (H:Heap) (v:Value) (x:List Nat):Prop:=
  (∃ i r,x = [i] ∧ i ≤ 1000 ∧ v = .slice (some ⟨r,0,none⟩) 1 1 ∧ L ≤ r ∧ Own H r 3 [.int .i64 (i:Int)]) ∨ (1 < x.length ∧ LstG (intE .i64) 3 L H v (castL x))
theorem JL.keep {L:Nat} {H H':Heap} {v:Value} {x:List Nat} (h:JL L H v x) (hk:Keep H H'):JL L H' v x:=by
  rcases h with ⟨i,r,h1,h0,h2,h3,h4⟩ | ⟨h1,h2⟩
  · exact .inl ⟨i,r,h1,h0,h2,h3,h4.keep hk⟩
  · exact .inr ⟨h1,h2.keep hk⟩
theorem JL.mono {L L':Nat} {H:Heap} {v:Value} {x:List Nat} (h:JL L H v x) (hL:L' ≤ L):JL L' H v x:=by
  rcases h with ⟨i,r,h1,h0,h2,h3,h4⟩ | ⟨h1,h2⟩
  · exact .inl ⟨i,r,h1,h0,h2,Nat.le_trans hL h3,h4⟩
  · exact .inr ⟨h1,h2.mono hL⟩
theorem castL_snoc (x:List Nat) (j:Nat):castL x ++ [(j:Int)] = castL (x ++ [j]):=by simp [castL]
theorem castL_len (x:List Nat):(castL x).length = x.length:=by simp [castL]
theorem JL.push {L:Nat} {H H0:Heap} {v:Value} {x:List Nat} (h:JL L H v x) (hg:Grp H) (hg0:Grp H0) (hk:Keep H0 H) (hL:H0.size ≤ L) (hL2:L ≤ H.size) {j:Nat} (hj:j ≤ 1000) (hx:x.length ≤ 100000) :
    ∃ v2 H2,aAppend Try.prog (H.newExact [.int .i64 (j:Int)] 3) #[25,25] v (.slice (some ⟨H.size,0,none⟩) 1 1) = some (v2,H2) ∧ JL L H2 v2 (x ++ [j]) ∧ Keep H0 H2:=by
  rcases h with ⟨i,r,rfl,hi,rfl,h3,h4⟩ | ⟨h1,h2⟩
  · have hch:Chunks (intE .i64) H [(i:Int)] [.int .i64 (i:Int)]:=Chunks.one (intI i hi);obtain ⟨v2,H2,k1,k2,k3⟩:=LstG.ofOwn (P:=Try.prog) (E:=intE .i64) (ts:=#[25,25]) (L:=L) okI hg h4 hch (by simp) hL2 (x:=(j:Int)) (intI j hj) (by simp) 3
    exact ⟨v2,H2,k1,.inr ⟨by simp,by simpa [castL] using k2⟩,hk.trans k3⟩
  · obtain ⟨v2,H2,k1,k2,k3⟩:=h2.push (P:=Try.prog) (ts:=#[25,25]) okI (stable_int _ _) hg hL2 (x:=(j:Int)) (intI j hj) rfl (by rw [castL_len]; omega) 3
    rw [castL_snoc] at k2;exact ⟨v2,H2,k1,.inr ⟨by simp; omega,k2⟩,k3.base H0 hg0 hk hL⟩

variable {S:AM.Sys} (hS:Only S 11)
include hS

end Go.Proofs.Yteechkbnccpicaa

namespace Go.Proofs.Yteechkbnccpicaa
open Go Go.AM

def chg1 (ls:List Lg) (i j:Nat):Nat:=if (ls.getD i default).l = (ls.getD j default).l then 0 else 1
theorem chg1_le (ls:List Lg) (i j:Nat):chg1 ls i j ≤ 1:=by unfold chg1; split <;> omega
def chg (ls:List Lg):Nat → List Nat → Nat
  | _,[] => 0
  | i,j :: r => chg1 ls i j + chg ls j r
theorem chg_snoc (ls:List Lg) (j:Nat):∀ (r:List Nat) (i:Nat),chg ls i (r ++ [j]) = chg ls i r + chg1 ls (lastN i r) j
  | [],i => by simp [chg,lastN]
  | k :: r,i => by
    show chg1 ls i k + chg ls k (r ++ [j]) = chg1 ls i k + chg ls k r + chg1 ls (lastN k r) j;rw [chg_snoc ls j r k]; omega
variable (ls:List Lg) (ch:Int) (B:Lg → Prop)
def CE (j:Nat) (z:Int):Prop:=∃ i r,Ch ls ch i r ∧ B (ls.getD i default) ∧ lastN i r = j ∧ ((chg ls i r:Nat):Int) = z
def CW (j:Nat) (z:Int):Prop:=(∀ y,CE ls ch B j y → z ≤ y) ∧ (z = 10060 ∨ CE ls ch B j z)
def CQ (R:Array Int) (q j:Nat) (z:Int):Prop:=(B (ls.getD j default) ∧ z = 0) ∨ ∃ (s i:Nat) (y:Int),s < q ∧ R[s]! = (i:Int) ∧ i < ls.length ∧ jn ls ch i j ∧ CE ls ch B i y ∧ z = y + chg1 ls i j
def CP (R:Array Int) (q j:Nat) (z:Int):Prop:=(∀ y,CQ ls ch B R q j y → z ≤ y) ∧ (z = 10060 ∨ CQ ls ch B R q j z) ∧ z ≤ 10060
variable {ls ch B}
theorem CE.nn {j:Nat} {z:Int} (h:CE ls ch B j z):0 ≤ z:=by
  obtain ⟨i,r,_,_,_,rfl⟩:=h; omega
theorem CE.step {j:Nat} {z:Int} (hj:j < ls.length):CE ls ch B j z ↔ (B (ls.getD j default) ∧ z = 0) ∨ ∃ (i:Nat) (y:Int),i < ls.length ∧ jn ls ch i j ∧ CE ls ch B i y ∧ z = y + chg1 ls i j:=by
  constructor
  · rintro ⟨i,r,h1,h2,h3,h4⟩;rcases List.eq_nil_or_concat r with rfl | ⟨r',k,rfl⟩
    · simp only [lastN] at h3;subst h3;exact .inl ⟨h2,by simp [chg] at h4; exact h4.symm⟩
    · rw [List.concat_eq_append] at h1 h3 h4;rw [lastN_snoc] at h3;subst h3;obtain ⟨k1,k2,k3⟩:=Ch.snoc.1 h1;refine .inr ⟨lastN i r',((chg ls i r':Nat):Int),k1.last_lt,k2,⟨i,r',k1,h2,rfl,rfl⟩,?_⟩;rw [← h4,chg_snoc]; omega
  · rintro (⟨h1,rfl⟩ | ⟨i,y,h1,h2,⟨i0,r,k1,k2,rfl,rfl⟩,rfl⟩)
    · exact ⟨j,[],hj,h1,rfl,rfl⟩
    · exact ⟨i0,r ++ [j],Ch.snoc.2 ⟨k1,h2,hj⟩,k2,lastN_snoc,by rw [chg_snoc]; omega⟩
theorem CP.start {R:Array Int} {j:Nat} [Decidable (B (ls.getD j default))] : CP ls ch B R 0 j (if B (ls.getD j default) then 0 else 10060):=by
  refine ⟨fun y h => ?_,?_,by split <;> omega⟩
  · rcases h with ⟨h1,rfl⟩ | ⟨s,i,y,h1,_⟩
    · rw [if_pos h1]; exact Int.le_refl _
    · omega
  · split
    · exact .inr (.inl ⟨by assumption,rfl⟩)
    · exact .inl rfl
theorem CQ.succ {R:Array Int} {q j:Nat} {z:Int}:CQ ls ch B R (q + 1) j z ↔ CQ ls ch B R q j z ∨ ∃ (i:Nat) (y:Int),R[q]! = (i:Int) ∧ i < ls.length ∧ jn ls ch i j ∧ CE ls ch B i y ∧ z = y + chg1 ls i j:=by
  constructor
  · rintro (h | ⟨s,i,y,h1,h2,h3⟩)
    · exact .inl (.inl h)
    · rcases Nat.lt_or_ge s q with h | h
      · exact .inl (.inr ⟨s,i,y,h,h2,h3⟩)
      · obtain rfl:s = q:=by omega
        exact .inr ⟨i,y,h2,h3⟩
  · rintro ((h | ⟨s,i,y,h1,h2⟩) | ⟨i,y,h2,h3⟩)
    · exact .inl h
    · exact .inr ⟨s,i,y,by omega,h2⟩
    · exact .inr ⟨q,i,y,by omega,h2,h3⟩
theorem CP.no {R:Array Int} {q j i:Nat} {z:Int} (h:CP ls ch B R q j z) (hq:R[q]! = (i:Int)) (hn:¬ jn ls ch i j):CP ls ch B R (q + 1) j z:=by
  obtain ⟨h1,h2,h3⟩:=h;refine ⟨fun y hy => ?_,h2.imp id fun h => CQ.succ.2 (.inl h),h3⟩
  rcases CQ.succ.1 hy with h | ⟨i',y',k1,k2,k3,_⟩
  · exact h1 y h
  · rw [hq] at k1;obtain rfl:i = i':=by omega
    exact absurd k3 hn
theorem CP.yes {R:Array Int} {q j i:Nat} {z e:Int} (h:CP ls ch B R q j z) (hq:R[q]! = (i:Int)) (hil:i < ls.length) (hy:jn ls ch i j) (he:CW ls ch B i e) (he2:e ≤ 10060):CP ls ch B R (q + 1) j (min z (e + chg1 ls i j)):=by
  obtain ⟨h1,h2,h3⟩:=h;obtain ⟨k1,k2⟩:=he;refine ⟨fun y hy' => ?_,?_,by omega⟩
  · rcases CQ.succ.1 hy' with h | ⟨i',y',m1,m2,m3,m4,rfl⟩
    · have:=h1 y h; omega
    · rw [hq] at m1;obtain rfl:i = i':=by omega
      have:=k1 y' m4; omega
  · rcases Int.le_total z (e + chg1 ls i j) with hle | hle
    · rw [Int.min_eq_left hle];exact h2.imp id fun h => CQ.succ.2 (.inl h)
    · rw [Int.min_eq_right hle];rcases k2 with rfl | k2
      · exact .inl (by omega)
      · exact .inr (CQ.succ.2 (.inr ⟨i,e,hq,hil,hy,k2,rfl⟩))
theorem CP.done {R:Array Int} (hR:OrdOk ls R) (hk:LOk ls ch) {p j:Nat} {z:Int} (hp:p < ls.length) (hj:R[p]! = (j:Int)) (hjl:j < ls.length) (h:CP ls ch B R p j z):CW ls ch B j z:=by
  have he:∀ y,CE ls ch B j y ↔ CQ ls ch B R p j y:=fun y => by
    rw [CE.step hjl];constructor
    · rintro (h | ⟨i,y,h1,h2,h3,h4⟩)
      · exact .inl h
      · obtain ⟨s0,q1,q2⟩:=hR.all i h1;obtain ⟨s,q3,q4,q5⟩:=hR.behind hk q1 q2 h2 hjl h1;have:s = p:=hR.inj s p q4 hp (by rw [q5,hj])
        exact .inr ⟨s0,i,y,by omega,q2,h1,h2,h3,h4⟩
    · rintro (h | ⟨s,i,y,h0,h1,h2⟩)
      · exact .inl h
      · exact .inr ⟨i,y,h2⟩
  exact ⟨fun y hy => h.1 y ((he y).1 hy),h.2.1.imp id fun h => (he z).2 h⟩
def TP (ls:List Lg) (ch:Int) (B E:Lg → Prop) (x y:Int):Prop:=∃ i r,Ch ls ch i r ∧ B (ls.getD i default) ∧ E (ls.getD (lastN i r) default) ∧ ((chg ls i r:Nat):Int) = x ∧ (ls.getD (lastN i r) default).a = y
theorem TP.iff {E:Lg → Prop} {x y:Int}:TP ls ch B E x y ↔ ∃ j,j < ls.length ∧ CE ls ch B j x ∧ E (ls.getD j default) ∧ (ls.getD j default).a = y:=
  ⟨fun ⟨i,r,h1,h2,h3,h4,h5⟩ => ⟨lastN i r,h1.last_lt,⟨i,r,h1,h2,rfl,h4⟩,h3,h5⟩,fun ⟨j,hj,⟨i,r,h1,h2,h3,h4⟩,h5,h6⟩ => ⟨i,r,h1,h2,h3 ▸ h5,h4,h3 ▸ h6⟩⟩
end Go.Proofs.Yteechkbnccpicaa

namespace Go.Proofs.Yteechkbnccpicaa
open Go Go.AM
set_option maxRecDepth 10000

theorem and_small:∀ n,n < 61 → IntKind.u64.wrap (((BitVec.ofInt IntKind.u64.bits ((n:Nat):Int) &&& BitVec.ofInt IntKind.u64.bits 4294967295).toNat:Nat):Int) = (n:Int):=by decide +kernel
theorem shr_small:∀ n,n < 61 → (((n:Nat):Int).fdiv (2 ^ min (Int.toNat 32) IntKind.u64.bits)) = 0:=by decide +kernel
theorem u64_in (n:Nat) (h:n < 61):IntKind.u64.wrap (n:Int) = (n:Int):=IntWalk.u64_in _ (by omega)

theorem copyO {H:Heap} {r r2:Nat} {e e2:TypeId} {c c2:List Value} (h:Own H r e c) (h2:Own H r2 e2 c2) {o o2 dl dc sl sc m:Nat} (hm:Nat.min sl dl = m) (h0:0 < m) (ho:o + m ≤ c.length) (ho2:o2 + m ≤ c2.length) (h1:ones ((c2.drop o2).take m) = true) :
    ∃ H2,aCopy Try.prog H #[25,25] (.slice (some ⟨r,o,none⟩) dl dc) (.slice (some ⟨r2,o2,none⟩) sl sc) = some (goInt m,H2) ∧ Own H2 r e (splice c o ((c2.drop o2).take m)) ∧ H2.size = H.size ∧ (∀ H0,Keep H0 H → H0.size ≤ r → Keep H0 H2):=by
  obtain ⟨i,hi,hsz⟩:=infoI;have hlen:((c2.drop o2).take m).length = m:=by rw [List.length_take,List.length_drop]; omega
  refine ⟨H.store r { cells:=c,elem:=e,exact:=true,ro:=false,esz:=0,grp:=2 * r,gpos:=0 } o ((c2.drop o2).take m),?_,⟨?_,?_⟩,?_,?_⟩
  · unfold aCopy;rw [show (#[25,25] : Array TypeId)[0]? = some 25 from rfl]
    simp only [];rw [Try.underlying25,h.get];simp only [lenV];rw [hi];simp only [];rw [hm];have hf:aFirst H i.size m (.slice (some ⟨r2,o2,none⟩) sl sc) = some ((c2.drop o2).take m):=by
      show cond (Nat.beq (m * i.size) 0) (some []) (H.read r2 o2 (m * i.size)) = _;rw [hsz,Nat.mul_one,Trie.beq_ff (by omega),cond_false,h2.read ho2]
    rw [hf];simp only [];rw [hlen,Trie.beq_ff (show m ≠ 0 by omega),cond_false,h1,show Nat.ble (o + m) c.length = true from Nat.ble_eq_true_of_le ho]
    rfl
  · rw [Heap.store_get,if_pos rfl]
  · rw [Heap.store_size]; exact h.lt
  · rw [Heap.store_size]
  · intro H0 hk hr;refine ⟨by rw [Heap.store_size]; exact hk.size,fun hl => ?_,?_,fun r' row hr' hrow => ?_,?_,fun g hg => ?_⟩
    · rw [Heap.store_size,Heap.store_low];simp only [cond_true];exact Nat.le_trans (Nat.min_le_right _ _) (hk.low hl)
    · rw [Heap.store_low];simp only [cond_true];have:=hk.lo;show min H0.low H0.size ≤ min r H.low;omega
    · obtain ⟨k1,k2⟩:=hk.row r' row hr' hrow;refine ⟨by rw [Heap.store_get,if_neg (by omega)]; exact k1,?_⟩
      rw [← k2];unfold Heap.alive;rw [Heap.store_grps];rfl
    · exact fun g => (hk.grp g).store h.get _ _
    · rw [Heap.store_grps]; exact hk.mem _ hg
theorem ones_map:∀ l:List Int,ones (l.map fun z => Value.int .i64 z) = true
  | [] => rfl
  | x :: l => (show ones (l.map fun z => Value.int .i64 z) = true from ones_map l)
theorem headI {H:Heap} {ro:Nat} {cells:List Value} (ho:Own H ro 3 cells) {n p:Nat} (hp:p ≤ n) (hn:n ≤ cells.length):aSlice Try.prog H 25 (.slice (some ⟨ro,0,none⟩) n n) none (some (.int .i64 (p:Int))) none = some (.slice (some ⟨ro,0,none⟩) p n):=by
  obtain ⟨i,hi,hsz⟩:=infoI;have hb:aBounds n n none (some (.int .i64 (p:Int))) none = some (0,p,n):=by
    unfold aBounds aBound;have g1:(0:Int) ≤ (p:Int) ∧ (p:Int) ≤ (n:Int):=by omega
    simp [g1]
  unfold aSlice;rw [Try.underlying25];simp only [];rw [hi,ho.get,hb];simp only [];rw [show Nat.ble n n = true from Nat.ble_eq_true_of_le (Nat.le_refl n),hsz]
  simp only [cond_true,Nat.sub_zero,Nat.zero_mul,Nat.add_zero];cases Nat.beq n 0 <;> rfl
theorem cvU (z:Int):aConv Try.prog 3 108 (.int .i64 z) = some (.int .u64 (IntKind.u64.wrap z)):=by kernel_rfl
theorem cvI (z:Int):aConv Try.prog 108 3 (.int .u64 z) = some (.int .i64 (IntKind.i64.wrap z)):=by kernel_rfl

variable {S:AM.Sys} (hS:Only S 11)
include hS

theorem mul64_runs (n:Nat) (hn:n < 61) (H:Heap):Runs Try.prog S (.fn 105) [.int .u64 1,.int .u64 (n:Int)] H (.tuple ⟨[.int .u64 0,.int .u64 (n:Int)]⟩) H:=by
  suffices h:WCall Try.prog S (.fn 105) [.int .u64 1,.int .u64 (n:Int)] H (fun u H' => u = .tuple ⟨[.int .u64 0,.int .u64 (n:Int)]⟩ ∧ H' = H) by
    obtain ⟨_,_,hr,rfl,rfl⟩:=h; exact hr
  have a1:=and_small n hn;have a2:IntKind.u64.wrap (((BitVec.ofInt IntKind.u64.bits 1 &&& BitVec.ofInt IntKind.u64.bits 4294967295).toNat:Nat):Int) = 1:=and_small 1 (by omega)
  have a0:IntKind.u64.wrap (((BitVec.ofInt IntKind.u64.bits 0 &&& BitVec.ofInt IntKind.u64.bits 4294967295).toNat:Nat):Int) = 0:=and_small 0 (by omega)
  have b1:=shr_small n hn;have b2:Int.fdiv 1 (2 ^ min (Int.toNat 32) IntKind.u64.bits) = 0:=shr_small 1 (by omega)
  have b0:Int.fdiv 0 (2 ^ min (Int.toNat 32) IntKind.u64.bits) = 0:=shr_small 0 (by omega)
  have c0:IntKind.u64.wrap 0 = 0:=u64_in 0 (by omega)
  have d32:(0:Int) ≤ 32:=by decide
  have c1:=u64_in n hn;refine Zabc Try.func105 rfl (Nat.le_of_ble_eq_true rfl) (hS.no rfl _ _) ?_
  rw [Try.ntmps105,Try.results105]
  repeat' (first | simp only [↓Zabz,↓Zacb,↓Zaca,↓Zacy,↓Zacx,↓Zadd,↓Zaaw,↓Zaan,↓Zaao,↓bxPut,↓Zabu,↓Zabs,↓Zadb,↓Zadc,↓Zade,↓Zabi,↓Zabg,Zacz,Zaae,Zabk,Zabp,↓reduceIte,Nat.reduceEqDiff,Nat.reduceLT,and_self, *,argF,List.getD_cons_zero,List.getD_cons_succ,Zabk,Int.one_mul,Int.zero_mul,Int.add_zero])
theorem mul_runs (n:Nat) (hn:n < 61) (H:Heap):Runs Try.prog S (.fn 84) [.int .u64 1,.int .u64 (n:Int)] H (.tuple ⟨[.int .u64 0,.int .u64 (n:Int)]⟩) H:=by
  suffices h:WCall Try.prog S (.fn 84) [.int .u64 1,.int .u64 (n:Int)] H (fun u H' => u = .tuple ⟨[.int .u64 0,.int .u64 (n:Int)]⟩ ∧ H' = H) by
    obtain ⟨_,_,hr,rfl,rfl⟩:=h; exact hr
  have ex0:∀ x y:Value,aExtract (.tuple ⟨[x,y]⟩) 0 = some x:=fun x y => by kernel_rfl
  have ex1:∀ x y:Value,aExtract (.tuple ⟨[x,y]⟩) 1 = some y:=fun x y => by kernel_rfl
  have f:=(mul64_runs hS n hn H).bx;refine Zabc Try.func84 rfl (Nat.le_of_ble_eq_true rfl) (hS.no rfl _ _) ?_
  rw [Try.ntmps84,Try.results84]
  repeat' (first | simp only [↓Zacc,↓Zabz,↓Zacb,↓Zaai,↓Zaca,↓Zacy,↓Zacx,↓Zadd,↓Zaaw,↓Zaan,↓Zaar,↓Zaba,↓bxOp_convert,↓bxPut,↓Zabu,↓Zabv,↓Zabs,↓Zadb,↓Zadc,↓Zade,↓Zabi,↓Zabg,↓Zabh,Zacz,Zacd,Zacv,Zabp,List.map_cons,List.map_nil,List.nil_append,List.append_nil,↓reduceIte,Nat.reduceEqDiff,Nat.reduceLT,and_self, *,argF,List.getD_cons_zero,List.getD_cons_succ])

theorem rep_runs (x:Int) (n:Nat) (r:Nat) (H:Heap) (hn:n < 61) (hg:Grp H) (hL:H.low ≤ H.size) (hx:Own H r 3 [.int .i64 x]) :
    ∃ H',Runs Try.prog S (.fn 75) [.slice (some ⟨r,0,none⟩) 1 1,.int .i64 (n:Int)] H (.slice (some ⟨H.size,0,none⟩) n n) H' ∧ Keep H H' ∧ Own H' H.size 3 ((List.replicate n x).map fun z => .int .i64 z):=by
  suffices h:WCall Try.prog S (.fn 75) [.slice (some ⟨r,0,none⟩) 1 1,.int .i64 (n:Int)] H (fun u H' => u = .slice (some ⟨H.size,0,none⟩) n n ∧ Keep H H' ∧ Own H' H.size 3 ((List.replicate n x).map fun z => .int .i64 z)) by
    obtain ⟨_,H',hr,rfl,h1,h2⟩:=h; exact ⟨H',hr,h1,h2⟩
  have ex0:∀ x y:Value,aExtract (.tuple ⟨[x,y]⟩) 0 = some x:=fun x y => by kernel_rfl
  have ex1:∀ x y:Value,aExtract (.tuple ⟨[x,y]⟩) 1 = some y:=fun x y => by kernel_rfl
  have f:=(mul_runs hS n hn H).bx;have hneg:¬ (n:Int) < 0:=by omega
  have cU1:aConv Try.prog 3 108 (.int .i64 ((1:Nat):Int)) = some (.int .u64 1):=(cvU 1).trans rfl;have cUn:aConv Try.prog 3 108 (.int .i64 (n:Int)) = some (.int .u64 (n:Int)):=by rw [cvU,u64_in n hn]
  have cIn:aConv Try.prog 108 3 (.int .u64 (n:Int)) = some (.int .i64 (n:Int)):=by rw [cvI,IntWalk.i64_in _ (by omega)]
  have hbig:¬ (9223372036854775807:Int) < (n:Int):=by omega
  have hbig':¬ (n:Int) > 9223372036854775807:=by omega
  have hz:¬ (0:Int) > 0:=by decide
  have mk:=mkI H (l:=(n:Int)) (by omega) (by omega)
  rw [Int.toNat_natCast] at mk;obtain ⟨H1,e1⟩:∃ H1,H.newExact ((List.replicate n (0:Int)).map fun z => .int .i64 z) 3 = H1:=⟨_,rfl⟩
  rw [e1] at mk;have k1:Keep H H1:=by rw [← e1]; exact Keep.newExact _ _ _
  have o1:Own H1 H.size 3 ((List.replicate n (0:Int)).map fun z => .int .i64 z):=by rw [← e1]; exact Own.new _ _ _
  have x1:=hx.keep k1;have hob:∃ (k0:Nat) (H2:Heap),aCopy Try.prog H1 #[25,25] (.slice (some ⟨H.size,0,none⟩) n n) (.slice (some ⟨r,0,none⟩) 1 1) = some (.int .i64 (k0:Int),H2) ∧ Own H2 H.size 3 (((List.replicate k0 x) ++ (List.replicate (n - k0) (0:Int))).map fun z => .int .i64 z) ∧ Keep H H2 ∧ k0 ≤ n ∧ (k0 < n → 0 < k0):=by
    by_cases h0:n = 0
    · subst h0;refine ⟨0,H1,?_,o1,k1,Nat.le_refl _,fun h => h⟩
      obtain ⟨i,hi,hsz⟩:=infoI;unfold aCopy;rw [show (#[25,25] : Array TypeId)[0]? = some 25 from rfl]
      simp only [];rw [Try.underlying25,o1.get];simp only [lenV];rw [hi];simp only [];rw [show Nat.min 1 0 = 0 from rfl]
      have hf:aFirst H1 i.size 0 (.slice (some ⟨r,0,none⟩) 1 1) = some []:=by
        show cond (Nat.beq (0 * i.size) 0) (some []) _ = _;rw [Nat.zero_mul]; rfl
      rw [hf];rfl
    · obtain ⟨H2,c1,c2,c3,c4⟩:=copyO (m:=1) (o:=0) (o2:=0) (dl:=n) (dc:=n) (sl:=1) (sc:=1) o1 x1 (by show min 1 n = 1; omega) Nat.one_pos (by simp; omega) (by simp) rfl
      refine ⟨1,H2,c1,?_,c4 H k1 (Nat.le_refl _),by omega,fun _ => Nat.one_pos⟩
      have:splice ((List.replicate n (0:Int)).map fun z => Value.int .i64 z) 0 (([Value.int .i64 x].drop 0).take 1) = ((List.replicate 1 x) ++ (List.replicate (n - 1) (0:Int))).map fun z => .int .i64 z:=by
        unfold splice;simp
      rw [this] at c2;exact c2
  obtain ⟨k0,H2,cp,o2,k2,hk0,hk1⟩:=hob;have hL2:=k2.low hL;refine Zabc Try.func75 rfl (Nat.le_of_ble_eq_true rfl) (hS.no rfl _ _) ?_
  rw [Try.ntmps75,Try.results75];clear e1 x1 hx hneg k1 o1;have hneg:¬ (n:Int) < 0:=by omega
  repeat' (first | simp only [↓Zacc,↓Zabz,↓Zacb,↓Zaai,↓Zaaj,↓Zabw,↓Zaca,↓Zacy,↓Zacx,↓Zadd,↓Zabb,↓Zaaw,↓Zaan,↓Zaax,↓Zaao,↓bxOp_makeI,↓bxOp_makeSlice,↓Zaar,↓Zaba,↓Zaau,↓bxOp_copy,↓bxOp_convert,↓Zada,↓bxPut,↓Zabu,↓Zabs,↓Zadb,↓Zadc,↓Zade,↓Zabi,↓Zabg,↓Zabh,↓dstAt,↓Zabj,aConvH_int,Zacz,Zaae,Zabk,Zaac,Zacd,Zacr,Zacv,Zabo,List.map_cons,List.map_nil,List.nil_append,List.append_nil,↓reduceIte,Nat.reduceEqDiff,Nat.reduceLT,dec_F, *,argF,List.getD_cons_zero,List.getD_cons_succ,lenI])
  --Y
  refine sxL_of (fun m ρ H3 => ∃ k:Nat,m = n - k ∧ k ≤ n ∧ (k < n → 0 < k) ∧ Keep H H3 ∧ Own H3 H.size 3 (((List.replicate k x) ++ (List.replicate (n - k) (0:Int))).map fun z => .int .i64 z) ∧ ρ 7 = .slice (some ⟨H.size,0,none⟩) n n ∧ ρ 8 = .int .i64 (k:Int))
    ⟨k0,rfl,hk0,hk1,k2,o2,rfl,rfl⟩ ?_
  clear cp k2 o2 hk0 hk1 mk f;rintro m ρ H3 ⟨k,rfl,hk,hkp,k3,o3,e7,e8⟩
  by_cases hlt:k < n
  case neg =>
    have hlt':¬ (k:Int) < (n:Int):=by omega
    have hkn:k = n:=Nat.le_antisymm hk (Nat.not_lt.1 hlt);rw [hkn,Nat.sub_self] at o3;have o3:Own H3 H.size 3 ((List.replicate n x).map fun z => .int .i64 z):=by
      rw [show List.replicate 0 (0:Int) = [] from rfl,List.append_nil] at o3; exact o3
    clear hkn hlt
    repeat' (first | simp only [↓Zacc,↓Zabx,↓Zabz,↓Zacb,↓Zaai,↓Zabw,↓Zaby,↓Zacy,↓Zacx,↓Zacq,↓Zaak,↓Zacl,↓sxDL_assign,↓Zacg,↓sxDL_slice,↓Zadd,↓Zaaw,↓Zaan,↓Zaao,↓bxOp_slice,↓Zaau,↓bxOp_copy,↓bxPut,↓Zabu,↓Zabt,↓Zaag,↓Zaaf,↓Zabm,↓Zabl,↓Zade,↓Zabi,Zacz,Zaae,Zabk,Zacv,↓reduceIte,Nat.reduceEqDiff,Nat.reduceLT,dec_F,and_self,Option.map_some,Option.map_none, *,lenI] | (with_reducible first | refine Zacf (by assumption) (by decide +kernel) ?_ | refine Zace (by decide +kernel) ?_ | refine Zaco (by decide +kernel) ?_ | refine Zach ?_))
  have hlt':(k:Int) < (n:Int):=by omega
  have L3:=k3.low hL;obtain ⟨m,hm⟩:∃ m,m = min k (n - k):=⟨_,rfl⟩;have hob:=tailI (o3.addr (l:=H3.size)) (p:=k) (n:=n) (by omega)
  obtain ⟨q,sl1,hq⟩:=hob;rw [hq hlt] at sl1;have sl2:=headI (o3.addr (l:=H3.size)) (p:=k) (n:=n) (by omega) (by simp; omega)
  have hdr:(((((List.replicate k x) ++ (List.replicate (n - k) (0:Int))).map fun z => Value.int .i64 z).drop 0).take m) = (List.replicate m x).map fun z => Value.int .i64 z:=by
    rw [List.drop_zero,← List.map_take,List.take_append_of_le_length (by simp; omega),List.take_replicate,show min m k = m by omega]
  have hob:=copyO (m:=m) (o:=k) (o2:=0) (dl:=n - k) (dc:=n - k) (sl:=k) (sc:=n) (o3.addr (l:=H3.size)) (o3.addr (l:=H3.size)) (by show min k (n - k) = m; exact hm.symm) (by have:=hkp hlt; omega) (by simp; omega) (by simp; omega) (by
    rw [hdr]; exact ones_map _)
  obtain ⟨Ha,c1,c2,c3,c4⟩:=hob;rw [hdr] at c2;have hsp:splice (((List.replicate k x) ++ (List.replicate (n - k) (0:Int))).map fun z => Value.int .i64 z) k ((List.replicate m x).map fun z => Value.int .i64 z) = ((List.replicate (k + m) x) ++ (List.replicate (n - (k + m)) (0:Int))).map fun z => Value.int .i64 z:=by
    unfold splice;rw [← List.map_take,← List.map_drop,← List.map_append,← List.map_append,List.length_map,List.length_replicate];congr 1;rw [List.take_append_of_le_length (by simp),List.take_of_length_le (by simp),List.drop_append,List.drop_of_length_le (by simp),List.length_replicate,List.nil_append,List.drop_replicate,← List.append_assoc,List.replicate_append_replicate,show n - k - (k + m - k) = n - (k + m) by omega]
  rw [hsp] at c2;have k4:=c4 H (k3.trans (Keep.relowS _)) (Nat.le_refl _);have hgb:∃ Hb,Ha.relow (Nat.min H3.low Ha.low) = Hb:=⟨_,rfl⟩;obtain ⟨Hb,rl⟩:=hgb;have kb:Keep H Hb:=by rw [← rl]; exact Keep.lower k3 k4
  have ob:Own Hb H.size 3 (((List.replicate (k + m) x) ++ (List.replicate (n - (k + m)) (0:Int))).map fun z => .int .i64 z):=by rw [← rl]; exact c2.addr
  have lb:=kb.low hL;have hwm:IntKind.i64.wrap ((k:Int) + (m:Int)) = ((k + m:Nat):Int):=IntWalk.i64_in _ (by omega)
  have hmk:0 < m:=by have:=hkp hlt; omega
  have hgm:goInt m = .int .i64 (m:Int):=rfl;rw [hgm] at c1;have hkm:k + m ≤ n:=by omega
  clear hm hq hdr hsp c2 c3 c4 k4 hkp o3 k3
  repeat' (first | simp only [↓Zacc,↓Zabx,↓Zabz,↓Zacb,↓Zaai,↓Zabw,↓Zaby,↓Zacy,↓Zacx,↓Zacq,↓Zaak,↓Zacl,↓sxDL_assign,↓Zacg,↓sxDL_slice,↓Zacp,↓Zadd,↓Zaaw,↓Zaan,↓Zaao,↓bxOp_slice,↓Zaau,↓bxOp_copy,↓bxPut,↓Zabu,↓Zabt,↓Zaag,↓Zaaf,↓Zabm,↓Zabl,↓Zade,↓Zabi,aSliceH_slice,Zacz,Zaae,Zabk,Zacw,↓reduceIte,Nat.reduceEqDiff,Nat.reduceLT,dec_T,true_and,Option.map_some,Option.map_none, *,lenI] | (with_reducible first | refine Zacf (by assumption) (by decide +kernel) ?_ | refine Zace (by decide +kernel) ?_ | refine Zaco (by decide +kernel) ?_ | refine Zach ?_))
  exact ⟨n - (k + m),by omega,k + m,rfl,hkm,fun _ => by omega,ob,rfl⟩
end Go.Proofs.Yteechkbnccpicaa
