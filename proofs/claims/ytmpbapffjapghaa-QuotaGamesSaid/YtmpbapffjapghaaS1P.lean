/- Sorting, at one type of elements: loads, stores, comparisons. -/
import Derived.Test.YtmpbapffjapghaaR0s
import Derived.Sort.Defs
set_option linter.unusedVariables false
set_option linter.unusedSimpArgs false
set_option linter.unusedSectionVars false

namespace Go.Proofs.Ytmpbapffjapghaa
open Go Go.AM
set_option maxRecDepth 10000
theorem ixP (r n c:Nat) (k:IntKind) (i:Int):Zaad Try.prog 40 (.slice (some ⟨r,0,none⟩) n c) (.int k i) = if 0 ≤ i ∧ i < (n:Int) then some (.pointer (some ⟨r,0 + i.toNat * 2,none⟩)) else none:=by kernel_rfl
theorem ldP (H:Heap) (r o:Nat):aLoad Try.prog H 43 (.pointer (some ⟨r,o,none⟩)) = ((H.read r o 2).map fun l => .agg ⟨l⟩):=by kernel_rfl
theorem infoP:∃ i,Try.prog.info? 43 = some i ∧ i.size = 2:=Option.map_eq_some_iff.1 (show (Try.prog.info? 43).map (·.size) = some 2 by kernel_rfl)
theorem lenP (a:Option Addr) (n c:Nat):aLen Try.prog #[40] (.slice a n c) = some (.int .i64 n):=by kernel_rfl
abbrev SaP (HB:Base) (H:Heap) (b r:Nat) (k:Bool) (d:Array (Int × Int)):Prop:=Arr HB H b r 43 2 k (flat celTwo d)
theorem ixAtP {r n c i:Nat} (h:i < n):Zaad Try.prog 40 (.slice (some ⟨r,0,none⟩) n c) (.int .i64 (i:Int)) = some (.pointer (some ⟨r,i * 2,none⟩)):=by
  rw [ixP,if_pos ⟨by omega,by omega⟩,Int.toNat_natCast,Nat.zero_add]
theorem ldAtP {HB:Base} {H:Heap} {b r:Nat} {k:Bool} {d:Array (Int × Int)} (h:SaP HB H b r k d) {i:Nat} (hi:i < d.size):aLoad Try.prog H 43 (.pointer (some ⟨r,i * 2,none⟩)) = some (celTwo.val d[i]!):=by
  have hle:i * 2 + 2 ≤ (flat celTwo d).length:=by rw [flat_len]; show _ ≤ d.size * 2; omega
  have h1:=h.read hle;have h2:=flat_at (C:=celTwo) d hi;have h2:((flat celTwo d).drop (i * 2)).take 2 = celTwo.ce d[i]!:=h2;rw [h2] at h1;rw [ldP];first
    | (rw [h1]; rfl)
    | (rw [Nat.mul_one] at h1; rw [h1]; rfl)
theorem stAtP {HB:Base} {H:Heap} {b r:Nat} {k:Bool} {d:Array (Int × Int)} (h:SaP HB H b r k d) {i:Nat} (hi:i < d.size) (x:(Int × Int)):∃ H2,aStore Try.prog H 43 (.pointer (some ⟨r,i * 2,none⟩)) (celTwo.val x) = some H2 ∧ SaP HB H2 b r k (d.setIfInBounds i x) ∧ H2.size = H.size:=by
  obtain ⟨inf,hi1,hi2⟩:=infoP;have hle:i * 2 + 2 ≤ (flat celTwo d).length:=by rw [flat_len]; show _ ≤ d.size * 2; omega
  obtain ⟨H2,h1,h2,h3⟩:=h.store hi1 (v:=celTwo.val x) (new:=celTwo.ce x) (celTwo.cells x) (hi2.trans (celTwo.len x).symm) (celTwo.ones x) (o:=i * 2) (by rw [celTwo.len]; exact hle)
  rw [show splice (flat celTwo d) (i * 2) (celTwo.ce x) = flat celTwo (d.setIfInBounds i x) from flat_set (C:=celTwo) d hi x] at h2
  refine ⟨H2,?_,h2,h3⟩;first
    | exact h1
    | (rw [Nat.mul_one] at h1; exact h1)
theorem swDP {HB:Base} {H:Heap} {b r:Nat} {k:Bool} {d:Array (Int × Int)} (hLB:HB.low ≤ HB.size) (h:SaP HB H b r k d) {i j:Nat} (hi:i < d.size) (hj:j < d.size) :
    ∃ H2 H3 H4 H5,aStore Try.prog (H.relow H.size) 43 (.pointer (some ⟨r,i * 2,none⟩)) (celTwo.val d[j]!) = some H2 ∧ H2.relow (Nat.min H.low H2.low) = H3 ∧
      aStore Try.prog (H3.relow H3.size) 43 (.pointer (some ⟨r,j * 2,none⟩)) (celTwo.val d[i]!) = some H4 ∧ H4.relow (Nat.min H3.low H4.low) = H5 ∧ SaP HB H5 b r k (Sort.swp d i j) ∧ H5.size = H.size ∧ H5.low ≤ H5.size ∧ H3.low ≤ H3.size:=by
  have hlo:=h.keep.lo;obtain ⟨H2,h1,h2,h3⟩:=stAtP (h.kept (Keep.relowS H)) hi d[j]!;have lo2:=h2.keep.lo;have lw2:=h2.keep.low hLB;have h3':H2.size = H.size:=h3;have hd3:SaP HB (H2.relow (Nat.min H.low H2.low)) b r k (d.setIfInBounds i d[j]!):=h2.relow (Nat.le_min.2 ⟨hlo,lo2⟩) fun _ => Nat.le_trans (Nat.min_le_right _ _) lw2
  obtain ⟨H4,g1,g2,g3⟩:=stAtP (hd3.kept (Keep.relowS _)) (i:=j) (by simp; exact hj) d[i]!
  have lo4:=g2.keep.lo;have lw4:=g2.keep.low hLB;have g3':H4.size = H2.size:=g3;have hd5:SaP HB (H4.relow (Nat.min (H2.relow (Nat.min H.low H2.low)).low H4.low)) b r k (Sort.swp d i j):=g2.relow (Nat.le_min.2 ⟨Nat.le_min.2 ⟨hlo,lo2⟩,lo4⟩) fun _ => Nat.le_trans (Nat.min_le_right _ _) lw4
  exact ⟨H2,_,H4,_,h1,rfl,g1,rfl,hd5,g3'.trans h3',Nat.le_trans (Nat.min_le_right _ _) lw4,Nat.le_trans (Nat.min_le_right _ _) lw2⟩
theorem stXP {HB:Base} {H:Heap} {b r:Nat} {k:Bool} {d:Array (Int × Int)} (h:SaP HB H b r k d) {i:Nat} (hi:i < d.size) (x:(Int × Int)) {H2:Heap} (hs:aStore Try.prog H 43 (.pointer (some ⟨r,i * 2,none⟩)) (celTwo.val x) = some H2) {s:Nat} {e:TypeId} {cl:List Value} (ho:Own H s e cl) (hr:r ≠ s):Own H2 s e cl:=by
  unfold aStore at hs;simp only [] at hs;split at hs
  · rename_i inf row h1 h2;obtain ⟨_,hs⟩:=Zacc (b:=_) hs;cases hs;exact ⟨by rw [Heap.store_get,if_neg (Ne.symm hr)]; exact ho.get,by rw [Heap.store_size]; exact ho.lt⟩
  · cases hs
theorem swDXP {HB:Base} {H:Heap} {b r:Nat} {k:Bool} {d:Array (Int × Int)} (hLB:HB.low ≤ HB.size) (h:SaP HB H b r k d) {s:Nat} {e:TypeId} {cl:List Value} (ho:Own H s e cl) (hr:r ≠ s) {i j:Nat} (hi:i < d.size) (hj:j < d.size) :
    ∃ H2 H3 H4 H5,aStore Try.prog (H.relow H.size) 43 (.pointer (some ⟨r,i * 2,none⟩)) (celTwo.val d[j]!) = some H2 ∧ H2.relow (Nat.min H.low H2.low) = H3 ∧
      aStore Try.prog (H3.relow H3.size) 43 (.pointer (some ⟨r,j * 2,none⟩)) (celTwo.val d[i]!) = some H4 ∧ H4.relow (Nat.min H3.low H4.low) = H5 ∧ SaP HB H5 b r k (Sort.swp d i j) ∧ H5.size = H.size ∧ H5.low ≤ H5.size ∧ H3.low ≤ H3.size ∧ Own H5 s e cl:=by
  have hlo:=h.keep.lo;obtain ⟨H2,h1,h2,h3⟩:=stAtP (h.kept (Keep.relowS H)) hi d[j]!;have lo2:=h2.keep.lo;have lw2:=h2.keep.low hLB;have h3':H2.size = H.size:=h3;have o2:=stXP (h.kept (Keep.relowS H)) hi d[j]! h1 (ho.addr (l:=H.size)) hr;have hd3:SaP HB (H2.relow (Nat.min H.low H2.low)) b r k (d.setIfInBounds i d[j]!):=h2.relow (Nat.le_min.2 ⟨hlo,lo2⟩) fun _ => Nat.le_trans (Nat.min_le_right _ _) lw2
  obtain ⟨H4,g1,g2,g3⟩:=stAtP (hd3.kept (Keep.relowS _)) (i:=j) (by simp; exact hj) d[i]!
  have o4:=stXP (hd3.kept (Keep.relowS _)) (i:=j) (by simp; exact hj) d[i]! g1 ((o2.addr (l:=Nat.min H.low H2.low)).addr (l:=(H2.relow (Nat.min H.low H2.low)).size)) hr
  have lo4:=g2.keep.lo;have lw4:=g2.keep.low hLB;have g3':H4.size = H2.size:=g3;have hd5:SaP HB (H4.relow (Nat.min (H2.relow (Nat.min H.low H2.low)).low H4.low)) b r k (Sort.swp d i j):=g2.relow (Nat.le_min.2 ⟨Nat.le_min.2 ⟨hlo,lo2⟩,lo4⟩) fun _ => Nat.le_trans (Nat.min_le_right _ _) lw4
  exact ⟨H2,_,H4,_,h1,rfl,g1,rfl,hd5,g3'.trans h3',Nat.le_trans (Nat.min_le_right _ _) lw4,Nat.le_trans (Nat.min_le_right _ _) lw2,o4.addr⟩
def CmpP (S:AM.Sys) (g:FuncId) (pre cs:List Value) (HB:Base) (V:(Int × Int) → Prop) (lt:(Int × Int) → (Int × Int) → Bool):Prop:=
  ∀ H x y,Keep HB.toHeap H → V x → V y → ∃ (z:Int) (H2:Heap),Keep H H2 ∧ (z < 0 ↔ lt x y = true) ∧ Runs Try.prog S (.fn g) (pre ++ [celTwo.val x,celTwo.val y] ++ cs) H (.int .i64 z) H2
def AllP (V:(Int × Int) → Prop) (d:Array (Int × Int)):Prop:=∀ i,i < d.size → V d[i]!
theorem AllP.swp {V:(Int × Int) → Prop} {d:Array (Int × Int)} (h:AllP V d) {i j:Nat} (hi:i < d.size) (hj:j < d.size):AllP V (Sort.swp d i j):=fun k hk => by
  have hk':k < d.size:=by simpa [Sort.swp] using hk
  have:(Sort.swp d i j)[k]! = d[k]! ∨ (Sort.swp d i j)[k]! = d[i]! ∨ (Sort.swp d i j)[k]! = d[j]!:=by
    unfold Sort.swp;rw [getElem!_pos _ k (by simpa using hk'),Array.getElem_setIfInBounds (by simpa using hk'),Array.getElem_setIfInBounds (by simpa using hk')]
    split
    · right; left; rfl
    · split
      · right; right; rfl
      · left; rw [getElem!_pos d k hk']
  rcases this with h1 | h1 | h1 <;> rw [h1]
  · exact h k hk'
  · exact h i hi
  · exact h j hj
theorem swp_szP (d:Array (Int × Int)) (i j:Nat):(Sort.swp d i j).size = d.size:=by simp [Sort.swp]
theorem cmpDP {S:AM.Sys} {g:FuncId} {pre cs:List Value} {HB:Base} {V:(Int × Int) → Prop} {lt:(Int × Int) → (Int × Int) → Bool} (hc:CmpP S g pre cs HB V lt) (hLB:HB.low ≤ HB.size) {H:Heap} {b r:Nat} {k:Bool} {d:Array (Int × Int)} (h:SaP HB H b r k d) (hV:AllP V d) {i j:Nat} (hi:i < d.size) (hj:j < d.size) :
    ∃ (z:Int) (H4 H5:Heap),decide (z < 0) = lt d[i]! d[j]! ∧ (∀ (K:Value → Heap → Prop) (bl:Blk K),sxCallB Try.prog S (.fn g) (pre ++ [celTwo.val d[i]!,celTwo.val d[j]!] ++ cs) (H.relow H.size) K bl = K (.int .i64 z) H4) ∧
      (∀ (all:List Oper) (n:Nat) (kk:Heap → Prop),sxD all n H H4 kk = kk H5) ∧ SaP HB H5 b r k d ∧ H.size ≤ H5.size ∧ H5.low ≤ H5.size:=by
  obtain ⟨z,H3,hK3,hz,hR3⟩:=hc (H.relow H.size) d[i]! d[j]! (h.keep.trans (Keep.relowS H)) (hV _ hi) (hV _ hj);obtain ⟨H4,H5,hK5,hL5,f5,hd5⟩:=drawn (h.keep.low hLB) ⟨H3,hK3,hR3⟩;refine ⟨z,H4,H5,?_,f5,hd5,h.kept hK5,hK5.size,hL5⟩;cases hl:lt d[i]! d[j]! with
  | true => exact decide_eq_true (hz.2 hl)
  | false => exact decide_eq_false fun hh => by rw [hz.1 hh] at hl; cases hl
theorem SaP.lowS {HB:Base} {H:Heap} {b r:Nat} {k:Bool} {d:Array (Int × Int)} (h:SaP HB H b r k d) (hLB:HB.low ≤ HB.size):H.low ≤ H.size:=h.keep.low hLB
end Go.Proofs.Ytmpbapffjapghaa
