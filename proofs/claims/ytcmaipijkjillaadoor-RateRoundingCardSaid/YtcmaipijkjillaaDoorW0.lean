/- What came in, as the machine's memory has it: offers, numbers, prices; and the package variable. -/
import Derived.Test.YtcmaipijkjillaaDoorK0
import Derived.Test.YtcmaipijkjillaaDoorKB
import Derived.Test.YtcmaipijkjillaaDoorRows
set_option linter.unusedVariables false
set_option linter.unusedSimpArgs false
set_option linter.unusedSectionVars false

namespace Go.Proofs.YtcmaipijkjillaaDoor
open Go Go.ChangeShapes Go.WideShapes Go.ChangeAt Go.RowKit Go.Deep
set_option maxRecDepth 100000

theorem own:ownKnob Tryd.prog.godebug = none:=by kernel_rfl
theorem laidOut:laidOutB Tryd.prog = true:=by kernel_rfl
theorem gOne:Tryd.prog.globalNamed "cocket/rate.one" = some 0:=by kernel_rfl
theorem tOne:(Tryd.prog.globals[0]?).map (·.type) = some 58:=by kernel_rfl
theorem cellsI:Tryd.prog.cellsOf 3 = 1:=by kernel_rfl
theorem cellsF:Tryd.prog.cellsOf 58 = 2:=by kernel_rfl
theorem cellsOf4:Tryd.prog.cellsOf 40 = 4:=by kernel_rfl
theorem trod_pair {H:Type} {enc:TypeId × Value → H} {W:World} {fuel:Nat} {x:DataW H × List MemPlace} {spare:Nat → Bool} {held:Bool} {cs:List Value} (h:DataW.trod enc Tryd.prog W 0 spare held fuel 58 cs = some x):∃ a b,cs = [.int .i64 a,.int .i64 b] ∧ x.1 = .agg [.lit (.int .i64 a),.lit (.int .i64 b)]:=by
  obtain ⟨xs,n',_,rfl,hcl,hxl,hf⟩:=DataW.trod_struct Tryd.underlying58 h;have hxl:xs.length = 2:=hxl;rw [cellsF] at hcl
  match cs,hcl with
  | [c0,c1],_ =>
    match xs,hxl with
    | [y0,y1],_ =>
      have fld:∀ (k:Nat) (f:Field) (y:DataW H × List MemPlace),f.type = 3 → f.offset = k → k < 2 → DataW.trod enc Tryd.prog W 0 spare held n' f.type (([c0,c1].drop f.offset).take (Tryd.prog.cellsOf f.type)) = some y →
          ∃ z:Int,[c0,c1][k]? = some (.int .i64 z) ∧ y = (.lit (.int .i64 z),[]):=by
        intro k f y h1 h2 hk h3;rw [h1,h2,cellsI] at h3;obtain ⟨z,hz,hy,_⟩:=DataW.trod_int Tryd.underlying3 h3;refine ⟨z,?_,hy⟩;have:=congrArg (fun l => l[0]?) hz
        simpa using this
      obtain ⟨z0,e0,rfl⟩:=fld 0 _ _ rfl rfl (by omega) (hf 0 _ rfl)
      obtain ⟨z1,e1,rfl⟩:=fld 1 _ _ rfl rfl (by omega) (hf 1 _ rfl)
      cases e0; cases e1;exact ⟨z0,z1,rfl,rfl⟩

theorem of_laid {W:World} (h:laidMetH Tryd.prog [("cocket/rate.one",Rows.laid_cocket_rate_one)] W):∃ t fz,W.heap[0]? = some (.cells #[.int .i64 1,.int .i64 1] t fz):=by
  rw [MakeChecks.laidMetH_plain _ _ _ (by kernel_rfl)] at h
  obtain ⟨ps,⟨g0,t0,cs0,f0,p0,q0,hg0,ht0,hv0,hd0,_,_⟩,_,_⟩:=h;obtain rfl:=Option.some.inj (gOne.symm.trans hg0);obtain rfl:=Option.some.inj (tOne.symm.trans ht0);obtain ⟨t,fz,hb⟩:=AM.var_block hg0 hv0;obtain ⟨a,b,hcs,hx⟩:=trod_pair hd0;unfold Rows.laid_cocket_rate_one at hx;simp only [DataW.agg.injEq,List.cons.injEq,DataW.lit.injEq,Lit.int.injEq,true_and,and_true] at hx;obtain ⟨ha,hb2⟩:=hx;subst ha; subst hb2;refine ⟨t,fz,?_⟩;rw [hb];congr 2;exact Array.toList_inj.1 (by rw [hcs])

open AM in
theorem int_imp:Imp Tryd.prog 3 (intE .i64):=intE_imp Tryd.underlying3
open AM in
theorem ints_imp:Imp Tryd.prog 23 (sliceE (intE .i64)):=sliceE_imp int_imp Tryd.underlying23 cellsI Nat.one_pos
open AM in
theorem off4_imp:Imp Tryd.prog 40 (prodE (intE .i64) (prodE (intE .i64) (prodE (intE .i64) (intE .i64)))):=
  structE_imp Tryd.underlying40 cellsOf4 (FImp.cons int_imp cellsI rfl (FImp.cons int_imp cellsI rfl (FImp.cons int_imp cellsI rfl (FImp.one int_imp cellsI))))
open AM in
theorem off_imp:Imp Tryd.prog 40 offE:=mapE_imp (fun z:Int × Int × Int × Int => (⟨z.1,z.2.1,z.2.2.1,z.2.2.2⟩:Off)) (fun z => rfl) off4_imp
open AM in
theorem offs_imp:Imp Tryd.prog 22 (sliceE offE):=sliceE_imp off_imp Tryd.underlying22 cellsOf4 (show 0 < 4 by omega)
end Go.Proofs.YtcmaipijkjillaaDoor
