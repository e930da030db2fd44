/- slices.SortFunc. -/
import Derived.Test.YtmpbapffjapghaaSDP
set_option linter.unusedVariables false
set_option linter.unusedSimpArgs false
set_option linter.unusedSectionVars false

namespace Go.Proofs.Ytmpbapffjapghaa
open Go Go.AM
set_option maxRecDepth 10000
variable {S:AM.Sys} (hS:Only S 5) {g:FuncId} {pre cs:List Value} {HB:Base} {V:(Int × Int) → Prop} {lt:(Int × Int) → (Int × Int) → Bool} (hc:CmpP S g pre cs HB V lt) (hLB:HB.low ≤ HB.size) {b r c:Nat} {k:Bool}
include hS hc hLB

theorem sortP_runs (hw:Sort.SWO lt) (d:Array (Int × Int)) (H:Heap) (hm:d.size ≤ 60000) (hd:SaP HB H b r k d) (hV:AllP V d) :
    ∃ u H',Runs Try.prog S (.fn 30) [.slice (some ⟨r,0,none⟩) d.size c,.func (.func g) ⟨pre⟩ ⟨cs⟩] H u H' ∧ DoneP HB b r k V lt 0 d.size d H H':=by
  suffices h:WCall Try.prog S (.fn 30) [.slice (some ⟨r,0,none⟩) d.size c,.func (.func g) ⟨pre⟩ ⟨cs⟩] H (fun u H' => DoneP HB b r k V lt 0 d.size d H H') by
    obtain ⟨u,H',hr,h⟩:=h; exact ⟨u,H',hr,h⟩
  have f1:=(bLen_runs hS d.size (by omega) H).bx
  have hw0:IntKind.u64.wrap ((d.size:Nat):Int) = ((d.size:Nat):Int):=IntWalk.u64_in _ (by omega)
  obtain ⟨u,H2,hR2,hdone⟩:=pdqP_runs hS hc hLB (c:=c) hw (d.size - 0) 0 d.size ((Sort.bitsLen d.size:Nat):Int) d H rfl (Nat.zero_le _) (Nat.le_refl _) hm (.inl rfl) hd hV;have f2:=hR2.bx;have f2':∀ (K:Value → Heap → Prop) (bl:Blk K),sxCallB Try.prog S (.fn 49) [.slice (some ⟨r,0,none⟩) d.size c,.int .i64 0,.int .i64 ((d.size:Nat):Int),.int .i64 ((Sort.bitsLen d.size:Nat):Int),.func (.func g) ⟨pre⟩ ⟨cs⟩] H K bl = K u H2:=f2;clear hR2 hd hV f2;refine call_of Try.func30 rfl (Nat.le_of_ble_eq_true rfl) (hS.no rfl _ _) ?_
  rw [Try.ntmps30,Try.results30]
  repeat' simp only [↓Zadi,↓Zadk,↓Zafk,↓Zafj,↓Zafq,↓Zabt,↓Zaay,↓Zabz,↓Zabm,↓Zabf,↓bxPut,↓Zadb,↓Zacx,↓Zafo,↓Zafs,↓Zacj,↓Zacg,↓Zach,Zaaa,Zafm,Zadm,List.map,List.nil_append,List.append_nil,↓reduceIte,Nat.reduceEqDiff,Nat.reduceLT, *,argF,List.getD_cons_zero,List.getD_cons_succ,lenP,cvIU]
end Go.Proofs.Ytmpbapffjapghaa
