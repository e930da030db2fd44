/- Sorting, at one type of elements: loads, stores, comparisons. -/
import Derived.Test.YteechkbnccpicaaM1
set_option linter.unusedVariables false
set_option linter.unusedSimpArgs false
set_option linter.unusedSectionVars false

namespace Go.Proofs.Yteechkbnccpicaa
open Go Go.AM
set_option maxRecDepth 10000
theorem ixP (r n c:Nat) (k:IntKind) (i:Int):Zaaa Try.prog 35 (.slice (some ⟨r,0,none⟩) n c) (.int k i) = if 0 ≤ i ∧ i < (n:Int) then some (.pointer (some ⟨r,0 + i.toNat * 2,none⟩)) else none:=by kernel_rfl
theorem ldP (H:Heap) (r o:Nat):aLoad Try.prog H 40 (.pointer (some ⟨r,o,none⟩)) = ((H.read r o 2).map fun l => .agg ⟨l⟩):=by kernel_rfl
theorem infoP:∃ i,Try.prog.info? 40 = some i ∧ i.size = 2:=Option.map_eq_some_iff.1 (show (Try.prog.info? 40).map (·.size) = some 2 by kernel_rfl)
theorem lenP (a:Option Addr) (n c:Nat):aLen Try.prog #[35] (.slice a n c) = some (.int .i64 n):=by kernel_rfl
abbrev SaP (HB:Base) (H:Heap) (b r:Nat) (k:Bool) (d:Array (Int × Int)):Prop:=Arr HB H b r 40 2 k (flat celTwo d)
theorem ixAtP {r n c i:Nat} (h:i < n):Zaaa Try.prog 35 (.slice (some ⟨r,0,none⟩) n c) (.int .i64 (i:Int)) = some (.pointer (some ⟨r,i * 2,none⟩)):=by
  rw [ixP,if_pos ⟨by omega,by omega⟩,Int.toNat_natCast,Nat.zero_add]
theorem ldAtP {HB:Base} {H:Heap} {b r:Nat} {k:Bool} {d:Array (Int × Int)} (h:SaP HB H b r k d) {i:Nat} (hi:i < d.size):aLoad Try.prog H 40 (.pointer (some ⟨r,i * 2,none⟩)) = some (celTwo.val d[i]!):=by
  have hle:i * 2 + 2 ≤ (flat celTwo d).length:=by rw [flat_len]; show _ ≤ d.size * 2; omega
  have h1:=h.read hle;have h2:=flat_at (C:=celTwo) d hi;have h2:((flat celTwo d).drop (i * 2)).take 2 = celTwo.ce d[i]!:=h2;rw [h2] at h1;rw [ldP];first
    | (rw [h1]; rfl)
    | (rw [Nat.mul_one] at h1; rw [h1]; rfl)
theorem stAtP {HB:Base} {H:Heap} {b r:Nat} {k:Bool} {d:Array (Int × Int)} (h:SaP HB H b r k d) {i:Nat} (hi:i < d.size) (x:(Int × Int)):∃ H2,aStore Try.prog H 40 (.pointer (some ⟨r,i * 2,none⟩)) (celTwo.val x) = some H2 ∧ SaP HB H2 b r k (d.setIfInBounds i x) ∧ H2.size = H.size:=by
  obtain ⟨inf,hi1,hi2⟩:=infoP;have hle:i * 2 + 2 ≤ (flat celTwo d).length:=by rw [flat_len]; show _ ≤ d.size * 2; omega
  obtain ⟨H2,h1,h2,h3⟩:=h.store hi1 (v:=celTwo.val x) (new:=celTwo.ce x) (celTwo.cells x) (hi2.trans (celTwo.len x).symm) (celTwo.ones x) (o:=i * 2) (by rw [celTwo.len]; exact hle)
  rw [show splice (flat celTwo d) (i * 2) (celTwo.ce x) = flat celTwo (d.setIfInBounds i x) from flat_set (C:=celTwo) d hi x] at h2
  refine ⟨H2,?_,h2,h3⟩;first
    | exact h1
    | (rw [Nat.mul_one] at h1; exact h1)
theorem swDP {HB:Base} {H:Heap} {b r:Nat} {k:Bool} {d:Array (Int × Int)} (hLB:HB.low ≤ HB.size) (h:SaP HB H b r k d) {i j:Nat} (hi:i < d.size) (hj:j < d.size) :
    ∃ H2 H3 H4 H5,aStore Try.prog (H.relow H.size) 40 (.pointer (some ⟨r,i * 2,none⟩)) (celTwo.val d[j]!) = some H2 ∧ H2.relow (Nat.min H.low H2.low) = H3 ∧
      aStore Try.prog (H3.relow H3.size) 40 (.pointer (some ⟨r,j * 2,none⟩)) (celTwo.val d[i]!) = some H4 ∧ H4.relow (Nat.min H3.low H4.low) = H5 ∧ SaP HB H5 b r k (Sort.swp d i j) ∧ H5.size = H.size ∧ H5.low ≤ H5.size ∧ H3.low ≤ H3.size:=by
  have hlo:=h.keep.lo;obtain ⟨H2,h1,h2,h3⟩:=stAtP (h.kept (Keep.relowS H)) hi d[j]!;have lo2:=h2.keep.lo;have lw2:=h2.keep.low hLB;have h3':H2.size = H.size:=h3;have hd3:SaP HB (H2.relow (Nat.min H.low H2.low)) b r k (d.setIfInBounds i d[j]!):=h2.relow (Nat.le_min.2 ⟨hlo,lo2⟩) fun _ => Nat.le_trans (Nat.min_le_right _ _) lw2
  obtain ⟨H4,g1,g2,g3⟩:=stAtP (hd3.kept (Keep.relowS _)) (i:=j) (by simp; exact hj) d[i]!
  have lo4:=g2.keep.lo;have lw4:=g2.keep.low hLB;have g3':H4.size = H2.size:=g3;have hd5:SaP HB (H4.relow (Nat.min (H2.relow (Nat.min H.low H2.low)).low H4.low)) b r k (Sort.swp d i j):=g2.relow (Nat.le_min.2 ⟨Nat.le_min.2 ⟨hlo,lo2⟩,lo4⟩) fun _ => Nat.le_trans (Nat.min_le_right _ _) lw4
  exact ⟨H2,_,H4,_,h1,rfl,g1,rfl,hd5,g3'.trans h3',Nat.le_trans (Nat.min_le_right _ _) lw4,Nat.le_trans (Nat.min_le_right _ _) lw2⟩
theorem stXP {HB:Base} {H:Heap} {b r:Nat} {k:Bool} {d:Array (Int × Int)} (h:SaP HB H b r k d) {i:Nat} (hi:i < d.size) (x:(Int × Int)) {H2:Heap} (hs:aStore Try.prog H 40 (.pointer (some ⟨r,i * 2,none⟩)) (celTwo.val x) = some H2) {s:Nat} {e:TypeId} {cl:List Value} (ho:Own H s e cl) (hr:r ≠ s):Own H2 s e cl:=by
  unfold aStore at hs;simp only [] at hs;split at hs
  · rename_i inf row h1 h2;obtain ⟨_,hs⟩:=Zabc (b:=_) hs;cases hs;exact ⟨by rw [Heap.store_get,if_neg (Ne.symm hr)]; exact ho.get,by rw [Heap.store_size]; exact ho.lt⟩
  · cases hs
theorem swDXP {HB:Base} {H:Heap} {b r:Nat} {k:Bool} {d:Array (Int × Int)} (hLB:HB.low ≤ HB.size) (h:SaP HB H b r k d) {s:Nat} {e:TypeId} {cl:List Value} (ho:Own H s e cl) (hr:r ≠ s) {i j:Nat} (hi:i < d.size) (hj:j < d.size) :
    ∃ H2 H3 H4 H5,aStore Try.prog (H.relow H.size) 40 (.pointer (some ⟨r,i * 2,none⟩)) (celTwo.val d[j]!) = some H2 ∧ H2.relow (Nat.min H.low H2.low) = H3 ∧
      aStore Try.prog (H3.relow H3.size) 40 (.pointer (some ⟨r,j * 2,none⟩)) (celTwo.val d[i]!) = some H4 ∧ H4.relow (Nat.min H3.low H4.low) = H5 ∧ SaP HB H5 b r k (Sort.swp d i j) ∧ H5.size = H.size ∧ H5.low ≤ H5.size ∧ H3.low ≤ H3.size ∧ Own H5 s e cl:=by
  have hlo:=h.keep.lo;obtain ⟨H2,h1,h2,h3⟩:=stAtP (h.kept (Keep.relowS H)) hi d[j]!;have lo2:=h2.keep.lo;have lw2:=h2.keep.low hLB;have h3':H2.size = H.size:=h3;have o2:=stXP (h.kept (Keep.relowS H)) hi d[j]! h1 (ho.addr (l:=H.size)) hr;have hd3:SaP HB (H2.relow (Nat.min H.low H2.low)) b r k (d.setIfInBounds i d[j]!):=h2.relow (Nat.le_min.2 ⟨hlo,lo2⟩) fun _ => Nat.le_trans (Nat.min_le_right _ _) lw2
  obtain ⟨H4,g1,g2,g3⟩:=stAtP (hd3.kept (Keep.relowS _)) (i:=j) (by simp; exact hj) d[i]!
  have o4:=stXP (hd3.kept (Keep.relowS _)) (i:=j) (by simp; exact hj) d[i]! g1 ((o2.addr (l:=Nat.min H.low H2.low)).addr (l:=(H2.relow (Nat.min H.low H2.low)).size)) hr
  have lo4:=g2.keep.lo;have lw4:=g2.keep.low hLB;have g3':H4.size = H2.size:=g3;have hd5:SaP HB (H4.relow (Nat.min (H2.relow (Nat.min H.low H2.low)).low H4.low)) b r k (Sort.swp d i j):=g2.relow (Nat.le_min.2 ⟨Nat.le_min.2 ⟨hlo,lo2⟩,lo4⟩) fun _ => Nat.le_trans (Nat.min_le_right _ _) lw4
  exact ⟨H2,_,H4,_,h1,rfl,g1,rfl,hd5,g3'.trans h3',Nat.le_trans (Nat.min_le_right _ _) lw4,Nat.le_trans (Nat.min_le_right _ _) lw2,o4.addr⟩
def CmpP (S:AM.Sys) (g:FuncId) (pre cs:List Value) (HB:Base) (V:(Int × Int) → Prop) (lt:(Int × Int) → (Int × Int) → Bool):Prop:=
  ∀ H x y,Keep HB.toHeap H → V x → V y → ∃ (z:Int) (H2:Heap),Keep H H2 ∧ (z < 0 ↔ lt x y = true) ∧ Runs Try.prog S (.fn g) (pre ++ [celTwo.val x,celTwo.val y] ++ cs) H (.int .i64 z) H2
def AllP (V:(Int × Int) → Prop) (d:Array (Int × Int)):Prop:=∀ i,i < d.size → V d[i]!
theorem AllP.swp {V:(Int × Int) → Prop} {d:Array (Int × Int)} (h:AllP V d) {i j:Nat} (hi:i < d.size) (hj:j < d.size):AllP V (Sort.swp d i j):=fun k hk => by
  have hk':k < d.size:=by simpa [Sort.swp] using hk
  have:(Sort.swp d i j)[k]! = d[k]! ∨ (Sort.swp d i j)[k]! = d[i]! ∨ (Sort.swp d i j)[k]! = d[j]!:=by
    unfold Sort.swp;rw [getElem!_pos _ k (by simpa using hk'),Array.getElem_setIfInBounds (by simpa using hk'),Array.getElem_setIfInBounds (by simpa using hk')]
    split
    · right; left; rfl
    · split
      · right; right; rfl
      · left; rw [getElem!_pos d k hk']
  rcases this with h1 | h1 | h1 <;> rw [h1]
  · exact h k hk'
  · exact h i hi
  · exact h j hj
theorem swp_szP (d:Array (Int × Int)) (i j:Nat):(Sort.swp d i j).size = d.size:=by simp [Sort.swp]
theorem cmpDP {S:AM.Sys} {g:FuncId} {pre cs:List Value} {HB:Base} {V:(Int × Int) → Prop} {lt:(Int × Int) → (Int × Int) → Bool} (hc:CmpP S g pre cs HB V lt) (hLB:HB.low ≤ HB.size) {H:Heap} {b r:Nat} {k:Bool} {d:Array (Int × Int)} (h:SaP HB H b r k d) (hV:AllP V d) {i j:Nat} (hi:i < d.size) (hj:j < d.size) :
    ∃ (z:Int) (H4 H5:Heap),decide (z < 0) = lt d[i]! d[j]! ∧ (∀ (K:Value → Heap → Prop) (bl:Blk K),sxCallB Try.prog S (.fn g) (pre ++ [celTwo.val d[i]!,celTwo.val d[j]!] ++ cs) (H.relow H.size) K bl = K (.int .i64 z) H4) ∧
      (∀ (all:List Oper) (n:Nat) (kk:Heap → Prop),sxD all n H H4 kk = kk H5) ∧ SaP HB H5 b r k d ∧ H.size ≤ H5.size ∧ H5.low ≤ H5.size:=by
  obtain ⟨z,H3,hK3,hz,hR3⟩:=hc (H.relow H.size) d[i]! d[j]! (h.keep.trans (Keep.relowS H)) (hV _ hi) (hV _ hj);obtain ⟨H4,H5,hK5,hL5,f5,hd5⟩:=drawn (h.keep.low hLB) ⟨H3,hK3,hR3⟩;refine ⟨z,H4,H5,?_,f5,hd5,h.kept hK5,hK5.size,hL5⟩;cases hl:lt d[i]! d[j]! with
  | true => exact decide_eq_true (hz.2 hl)
  | false => exact decide_eq_false fun hh => by rw [hz.1 hh] at hl; cases hl
theorem SaP.lowS {HB:Base} {H:Heap} {b r:Nat} {k:Bool} {d:Array (Int × Int)} (h:SaP HB H b r k d) (hLB:HB.low ≤ HB.size):H.low ≤ H.size:=h.keep.low hLB
end Go.Proofs.Yteechkbnccpicaa

namespace Go.Proofs.Yteechkbnccpicaa
open Go Go.AM
set_option maxRecDepth 10000

def stE:Enc Pt:=prodE (intE .i64) (intE .i64)
def pc (x:Pt):List Value:=[.int .i64 x.1,.int .i64 x.2]
theorem stE_inv {H:Heap} {x:Pt} {cs:List Value} (h:stE.At H x cs):cs = pc x ∧ R64 x.1 ∧ R64 x.2:=by
  obtain ⟨c1,c2,rfl,⟨rfl,h1⟩,rfl,h2⟩:=h;exact ⟨rfl,h1,h2⟩
theorem stE_at {H:Heap} {x:Pt} (h1:R64 x.1) (h2:R64 x.2):stE.At H x (pc x):=⟨_,_,rfl,⟨rfl,h1⟩,rfl,h2⟩
abbrev SlP (H:Heap) (v:Value) (w:List Pt) (r o:Nat):Prop:=SlE stE H v w r o
theorem ldS (H:Heap) (r o:Nat):aLoad Try.prog H 40 (.pointer (some ⟨r,o,none⟩)) = (H.read r o 2).map fun l => .agg ⟨l⟩:=by kernel_rfl
theorem lenS (a:Option Addr) (n c:Nat):aLen Try.prog #[35] (.slice a n c) = some (.int .i64 n):=by kernel_rfl
theorem faS0 (r o:Nat):aFieldAt Try.prog 40 0 (.pointer (some ⟨r,o,none⟩)) = some (.pointer (some ⟨r,o + 0,none⟩)):=by kernel_rfl
theorem faS1 (r o:Nat):aFieldAt Try.prog 40 1 (.pointer (some ⟨r,o,none⟩)) = some (.pointer (some ⟨r,o + 1,none⟩)):=by kernel_rfl
theorem alS (H:Heap):aAlloc Try.prog H 40 = some (.pointer (some ⟨H.size,0,none⟩),H.newExact [.int .i64 0,.int .i64 0] 40):=by kernel_rfl
theorem newS (H:Heap) (x:Pt):∃ H2,aStore Try.prog (H.newExact [.int .i64 0,.int .i64 0] 40) 40 (.pointer (some ⟨H.size,0,none⟩)) (.agg ⟨pc x⟩) = some H2 ∧ Keep H H2 ∧ H.size < H2.size ∧ H2.read H.size 0 2 = some (pc x) ∧ H2.read H.size 0 1 = some [.int .i64 x.1] ∧ H2.read H.size 1 1 = some [.int .i64 x.2]:=by
  obtain ⟨i,hi,hsz⟩:=infoP;obtain ⟨H2,h1,h2,h3,h4,h5⟩:=(Own.new H [.int .i64 0,.int .i64 0] 40).store (t:=40) hi (v:=.agg ⟨pc x⟩) (new:=pc x) rfl (by rw [hsz]; rfl) rfl (o:=0) (by show 0 + 2 ≤ 2; decide)
  have h2:Own H2 H.size 40 (pc x):=h2;exact ⟨H2,h1,h5 H (Keep.newExact _ _ _) (Nat.le_refl _),h2.lt,h2.read (o:=0) (n:=2) (by show 0 + 2 ≤ 2; decide),h2.read (o:=0) (n:=1) (by show 0 + 1 ≤ 2; decide),h2.read (o:=1) (n:=1) (by show 1 + 1 ≤ 2; decide)⟩
theorem boxP (H:Heap) (x:Pt):∃ H1,H.newExact (pc x) 40 = H1 ∧ Keep H H1 ∧ H1.read H.size 0 2 = some (pc x) ∧ H1.read H.size 0 1 = some [.int .i64 x.1] ∧ H1.read H.size 1 1 = some [.int .i64 x.2]:=by
  obtain ⟨H1,e1,hK1,hz1,hr1,hrs⟩:=boxS H (pc x) 40;exact ⟨H1,e1,hK1,hr1,hrs 0 1 (by show _ ≤ 2; decide),hrs 1 1 (by show _ ≤ 2; decide)⟩
theorem SlP_at {H:Heap} {w:List Pt} {r o:Nat} {a:Option Addr} {cap:Nat} (h:SlP H (.slice a w.length cap) w r o) {k:Nat} (h1:k < w.length) :
    ∃ q,Zaaa Try.prog 35 (.slice a w.length cap) (.int .i64 (k:Int)) = some (.pointer (some ⟨r,q,none⟩)) ∧ H.read r q 2 = some (pc (w.getD k default)) ∧
      H.read r q 1 = some [.int .i64 (w.getD k default).1] ∧ H.read r (q + 1) 1 = some [.int .i64 (w.getD k default).2] ∧ R64 (w.getD k default).1 ∧ R64 (w.getD k default).2:=by
  obtain ⟨a',cap',e,ha⟩:=h.isv;cases e;obtain ⟨es,h2,h3⟩:=h.rd k h1;obtain ⟨rfl,h4,h5⟩:=stE_inv h3;have h2:H.read r (o + k * 2) 2 = some (pc (w.getD k default)):=h2;have hs:=fun j (hj:j + 1 ≤ 2) => read_sub h2 hj
  have hx:Zaaa Try.prog 35 (.slice (some ⟨r,o,none⟩) w.length cap) (.int .i64 (k:Int)) = if 0 ≤ (k:Int) ∧ (k:Int) < ((w.length:Nat):Int) then some (.pointer (some ⟨r,o + ((k:Int)).toNat * 2,none⟩)) else none:=by kernel_rfl
  refine ⟨o + k * 2,by rw [ha (by omega),hx,if_pos ⟨by omega,by omega⟩,Int.toNat_natCast],h2,?_,hs 1 (by omega),h4,h5⟩
  exact hs 0 (by omega)
def PostB (H:Heap) (p:Prop) (u:Value) (H':Heap):Prop:=∃ b,u = .bool b ∧ (b = true ↔ p) ∧ Keep H H'

variable {S:AM.Sys} (hS:Only S 11)
include hS

end Go.Proofs.Yteechkbnccpicaa
