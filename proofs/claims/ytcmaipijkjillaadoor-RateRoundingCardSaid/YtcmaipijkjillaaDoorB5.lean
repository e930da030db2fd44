/- Whole numbers of any size, continued: a number of a sign and digits. -/
import Derived.Test.YtcmaipijkjillaaDoorB4
set_option linter.unusedVariables false
set_option linter.unusedSimpArgs false
set_option linter.unusedSectionVars false

namespace Go.Proofs.YtcmaipijkjillaaDoor
open Go Go.AM
set_option maxRecDepth 10000
variable {S:AM.Sys} (hS:Only S 6)
include hS

theorem whole_runs (neg:Bool) (v:Value) (d:List Int) (r o:Nat) (H:Heap) (hg:Grp H) (hL:H.low ≤ H.size) (hd:SlI .i64 H v d r o) (hs:d.length ≤ 100000) :
    ∃ H' v' r' o',Keep H H' ∧ Grp H' ∧ SlI .i64 H' v' (trimL d) r' o' ∧ Fine v' ∧ (0 < (trimL d).length → H.size ≤ r') ∧ Runs Tryd.prog S (.fn 54) [.bool neg,v] H (.agg ⟨[.bool (neg && decide (0 < (trimL d).length)),v']⟩) H':=by
  suffices h:WCall Tryd.prog S (.fn 54) [.bool neg,v] H (fun v' H' => ∃ v3 r' o',v' = .agg ⟨[.bool (neg && decide (0 < (trimL d).length)),v3]⟩ ∧ Keep H H' ∧ Grp H' ∧ SlI .i64 H' v3 (trimL d) r' o' ∧ Fine v3 ∧ (0 < (trimL d).length → H.size ≤ r')) by
    obtain ⟨_,H',hr,v3,r',o',rfl,h1,h2,h3,h4,h5⟩:=h; exact ⟨H',v3,r',o',h1,h2,h3,h4,h5,hr⟩
  obtain ⟨H1,e1,hK1,hs1,zz,_⟩:=box1 H [.bool false,.slice none 0 0] 35;have w1:Own H1 H.size 35 [.bool false,.slice none 0 0]:=e1 ▸ Own.new H _ _;have hal:aAlloc Tryd.prog H 35 = some (.pointer (some ⟨H.size,0,none⟩),H.newExact [.bool false,.slice none 0 0] 35):=by kernel_rfl
  have hob:=trim_runs hS v d r o H1 (hK1.grp hg) (hK1.low hL) (hd.keep hK1) hs;obtain ⟨H3,v3,r3,o3,hK3,hg3,s3,hF3,hfr3,hR3⟩:=hob;have f3:=hR3.bx;obtain ⟨a3,c3,rfl⟩:=s3.v0;have w3:=w1.keep hK3;have hK13:=hK1.trans hK3;have hob2:=w3.store (P:=Tryd.prog) (t:=35) (i:=Tryd.t35) (by kernel_rfl) (v:=.agg ⟨[.bool (neg && decide (0 < (trimL d).length)),.slice a3 (trimL d).length c3]⟩) (new:=[.bool (neg && decide (0 < (trimL d).length)),.slice a3 (trimL d).length c3]) rfl (by kernel_rfl) rfl (o:=0) (show 0 + 2 ≤ 2 by omega)
  obtain ⟨H4,ps,w4,hsz4,_,hkp⟩:=hob2;have hK4:=hkp H hK13 (Nat.le_refl _);have s4:=SlE.other w3 ps hsz4 s3 (fun h0 => by have:=hfr3 h0; omega)
  have q4:=w4.read (o:=0) (n:=2) (by rw [splice_length (show 0 + 2 ≤ 2 by omega)]; show 0 + 2 ≤ 2; omega)
  have q5:H4.read H.size 0 2 = some [.bool (neg && decide (0 < (trimL d).length)),.slice a3 (trimL d).length c3]:=q4;have hld:∀ (H:Heap) (r o:Nat),aLoad Tryd.prog H 35 (.pointer (some ⟨r,o,none⟩)) = (H.read r o 2).map fun l => .agg ⟨l⟩:=fun H r o => by kernel_rfl
  have hbd:∀ (x:Bool) (a:Option Addr) (n c:Nat),aBuild Tryd.prog 35 [(0,.bool x),(1,.slice a n c)] = some (.agg ⟨[.bool x,.slice a n c]⟩):=fun x a n c => by kernel_rfl
  have hfr:0 < (trimL d).length → H.size ≤ r3:=fun h => by have:=hfr3 h; omega
  have hg4:=hK4.grp hg;have hpos:(0:Int) < ((trimL d).length:Int) ↔ 0 < (trimL d).length:=by omega
  clear zz hs1;refine call_of Tryd.func54 rfl (Nat.le_of_ble_eq_true rfl) (hS.no rfl _ _) ?_
  rw [Tryd.ntmps54,Tryd.results54];clear hR3 hd s3 w1 w3 w4 q4 hkp hfr3;generalize trimL d = T at *;cases neg
  · simp only [Bool.false_and] at ps q5 ⊢
    repeat' simp only [↓Zabo,↓Zabq,↓Zabp,↓Zacj,↓Zaci,↓Zaco,↓Zaav,↓Zaar,↓Zaak,↓Zaas,↓Zaaj,↓bxOp_build,↓Zaat,↓Zaal,↓Zaau,↓Zaap,↓Zacl,↓bxPut,↓Zabj,↓Zabh,↓Zacm,↓bxRes_cell,↓Zacp,↓Zaaz,↓Zaax,↓Zaay,↓dstAt,↓Zaba,Zack,Zaab,Zabs,sxGuardB_tf,Zabe,List.map,List.nil_append,List.append_nil,↓reduceIte,Nat.reduceEqDiff,Nat.reduceLT,true_and,Option.map_some, *,argF,List.getD_cons_zero,List.getD_cons_succ]
    exact ⟨_,r3,o3,rfl,s4,hF3,hfr⟩
  · simp only [Bool.true_and] at ps q5 ⊢
    repeat' simp only [↓Zabo,↓Zabq,↓Zabp,↓Zacj,↓Zaci,↓Zaco,↓Zaav,↓Zaar,↓Zaak,↓Zaas,↓Zaaj,↓bxOp_build,↓Zaat,↓Zaal,↓Zaau,↓Zaap,↓Zacl,↓bxPut,↓Zabj,↓Zabh,↓Zacm,↓bxRes_cell,↓Zacp,↓Zaaz,↓Zaax,↓Zaay,↓dstAt,↓Zaba,Zack,Zaad,Zabb,Zaac,Zabs,sxGuardB_tt,Zabe,List.map,List.nil_append,List.append_nil,↓reduceIte,Nat.reduceEqDiff,Nat.reduceLT,true_and,Option.map_some, *,argF,List.getD_cons_zero,List.getD_cons_succ,lenI]
    exact ⟨_,r3,o3,rfl,s4,hF3,hfr⟩
end Go.Proofs.YtcmaipijkjillaaDoor
