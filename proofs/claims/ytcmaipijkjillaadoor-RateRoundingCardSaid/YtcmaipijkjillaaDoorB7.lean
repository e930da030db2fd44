/- Whole numbers of any size, continued: the number of an int. -/
import Derived.Test.YtcmaipijkjillaaDoorB5
import Derived.Test.YtcmaipijkjillaaDoorB6
set_option linter.unusedVariables false
set_option linter.unusedSimpArgs false
set_option linter.unusedSectionVars false

namespace Go.Proofs.YtcmaipijkjillaaDoor
open Go Go.AM
set_option maxRecDepth 10000

def BigIs (H:Heap) (v:Value) (z:Int) (lo:Nat):Prop:=
  ∃ v' w r o,v = .agg ⟨[.bool (decide (z < 0)),v']⟩ ∧ SlI .i64 H v' w r o ∧ Digs w ∧ Norm w ∧ val w = z.natAbs ∧ w.length ≤ lo
def BigOut (S:AM.Sys) (f:FuncId) (args:List Value) (H:Heap) (z:Int) (lo:Nat):Prop:=∃ H' v,Keep H H' ∧ Grp H' ∧ BigIs H' v z lo ∧ Runs Tryd.prog S (.fn f) args H v H'
theorem ldBig (H:Heap) (r o:Nat):aLoad Tryd.prog H 35 (.pointer (some ⟨r,o,none⟩)) = (H.read r o 2).map fun l => .agg ⟨l⟩:=by kernel_rfl
theorem alBig (H:Heap):aAlloc Tryd.prog H 35 = some (.pointer (some ⟨H.size,0,none⟩),H.newExact [.bool false,.slice none 0 0] 35):=by kernel_rfl
theorem stBig {H:Heap} {r:Nat} {cells:List Value} (h:Own H r 35 cells) (hl:cells.length = 2) (s:Bool) (a:Option Addr) (n c:Nat) :
    ∃ H2,aStore Tryd.prog H 35 (.pointer (some ⟨r,0,none⟩)) (.agg ⟨[.bool s,.slice a n c]⟩) = some H2 ∧ H2.read r 0 2 = some [.bool s,.slice a n c] ∧ H2.size = H.size ∧ (∀ H0,Keep H0 H → H0.size ≤ r → Keep H0 H2):=by
  have hob:=h.store (P:=Tryd.prog) (t:=35) (i:=Tryd.t35) (by kernel_rfl) (v:=.agg ⟨[.bool s,.slice a n c]⟩) (new:=[.bool s,.slice a n c]) rfl (by kernel_rfl) rfl (o:=0) (show 0 + 2 ≤ cells.length by omega)
  obtain ⟨H2,h1,h2,h3,_,h5⟩:=hob;refine ⟨H2,h1,?_,h3,h5⟩;have h6:=h2.read (o:=0) (n:=2) (by rw [splice_length (show 0 + 2 ≤ cells.length by omega)]; omega)
  rw [h6];exact congrArg some (splice_at (l:=cells) (off:=0) (vs:=[.bool s,.slice a n c]) (show 0 + 2 ≤ cells.length by omega))
theorem val_zero {w:List Int} (hd:Digs w) (hn:Norm w):0 < w.length ↔ 0 < val w:=by
  constructor
  · exact norm_pos hd hn
  · intro h;rcases Nat.eq_zero_or_pos w.length with h0 | h0
    · rw [List.length_eq_zero_iff.1 h0] at h; simp [val] at h
    · exact h0

variable {S:AM.Sys} (hS:Only S 6)
include hS

theorem Of_runs (n:Int) (H:Heap) (hg:Grp H) (hL:H.low ≤ H.size) (hn:-9223372036854775808 ≤ n ∧ n ≤ 9223372036854775807):BigOut S 35 [.int .i64 n] H n 5:=by
  suffices h:WCall Tryd.prog S (.fn 35) [.int .i64 n] H (fun v H' => Keep H H' ∧ Grp H' ∧ BigIs H' v n 5) by
    obtain ⟨v,H',hr,h1,h2,h3⟩:=h; exact ⟨H',v,h1,h2,h3,hr⟩
  obtain ⟨H1,e1,hK1,hs1,zz,_⟩:=box1 H [.bool false,.slice none 0 0] 35;have w1:Own H1 H.size 35 [.bool false,.slice none 0 0]:=e1 ▸ Own.new H _ _;have hg1:=hK1.grp hg;clear zz hs1;refine call_of Tryd.func35 rfl (Nat.le_of_ble_eq_true rfl) (hS.no rfl _ _) ?_
  rw [Tryd.ntmps35,Tryd.results35]
  repeat' (first | (with_reducible refine Zacf (fun h => ?_) (fun h => ?_)) | (with_reducible refine Zace (fun h => ?_) (fun h => ?_)) | (with_reducible refine sxIfB_sp (fun h => ?_) (fun h => ?_)) | simp only [↓Zabo,↓Zabq,↓bxC_loop,↓Zabl,↓Zabp,↓Zacj,↓Zaci,↓Zaco,↓Zaar,↓Zaak,↓Zaaj,↓Zaat,↓Zaal,↓Zaau,↓Zacl,↓bxPut,↓Zabj,↓Zabh,↓Zacm,↓bxRes_cell,↓Zacp,↓Zaaz,↓Zaax,↓Zaay,Zack,Zaad,Zabb,Zabs,Zabe,List.nil_append,↓reduceIte,Nat.reduceEqDiff,Nat.reduceLT, *,argF,List.getD_cons_zero,alBig])
  refine sxL_of (fun m ρ H2 => ∃ (z:Int) (out:List Int) (v':Value),m = z.natAbs ∧ (-9223372036854775808 ≤ z ∧ z ≤ 9223372036854775807) ∧ Digs out ∧ val out + 10000 ^ out.length * z.natAbs = n.natAbs ∧ out.length ≤ 5 ∧ Lst 3 .i64 H1 H2 v' out ∧
    ρ 0 = .int .i64 z ∧ ρ 2 = .pointer (some ⟨H.size,0,none⟩) ∧ ρ 3 = v' ∧ ρ 4 = .bool (decide (n < 0)))
    ⟨n,[],_,rfl,hn,(fun x hx => absurd hx (List.not_mem_nil)),(by simp [val]),by simp,Lst.nil (Keep.refl H1) hg1,rfl,rfl,rfl,rfl⟩ ?_
  clear e1;rintro m ρ H2 ⟨z,out,v',rfl,hz,hd,hv,hl,L,e0,e2,e3,e4⟩
  by_cases hz0:z = 0
  · subst hz0;have hv2:val out = n.natAbs:=by simpa using hv
    have hob:=L.sl (fun x hx => by have:=hd x hx; show -9223372036854775808 ≤ x ∧ x ≤ 9223372036854775807; omega) (by show out.length ≤ 9223372036854775807; omega)
    obtain ⟨rr,sl⟩:=hob;have hob2:=whole_runs hS (decide (n < 0)) v' out rr 0 H2 L.grp ((hK1.trans L.keep).low hL) sl (by omega)
    obtain ⟨H3,v3,r3,o3,hK3,hg3,s3,hF3,hfr3,hR3⟩:=hob2;have f3:=hR3.bx;have hob3:=s3.v0;obtain ⟨a3,c3,rfl⟩:=hob3;have hK13:=L.keep.trans hK3;have w3:=w1.keep hK13;have hob4:=stBig w3 rfl (decide (n < 0) && decide (0 < (trimL out).length)) a3 (trimL out).length c3;obtain ⟨H4,ps,q4,hsz4,hkp⟩:=hob4;have hK4:=hkp H (hK1.trans hK13) (Nat.le_refl _);have hfr:H.size < H2.size:=Nat.lt_of_lt_of_le w1.lt L.keep.size;have s4:=SlE.other w3 ps hsz4 s3 (fun h0 => by have:=hfr3 h0; omega)
    have hg4:=hK4.grp hg;have hbig:BigIs H4 (.agg ⟨[.bool (decide (n < 0) && decide (0 < (trimL out).length)),.slice a3 (trimL out).length c3]⟩) n 5:=by
      have hvt:val (trimL out) = n.natAbs:=by rw [trimL_val]; exact hv2
      have hsg:(decide (n < 0) && decide (0 < (trimL out).length)) = decide (n < 0):=by
        by_cases hneg:n < 0
        · have:0 < (trimL out).length:=(val_zero (trimL_digs hd) (trimL_norm out)).2 (by rw [hvt]; omega)
          simp [hneg,this]
        · simp [hneg]
      exact ⟨_,trimL out,r3,o3,by rw [hsg],s4,trimL_digs hd,trimL_norm out,hvt,Nat.le_trans (trimL_le out) hl⟩
    clear hR3 s3 s4 sl L w1 w3 hd hv hv2 hkp hfr3 hl;generalize (decide (n < 0) && decide (0 < (trimL out).length)) = sg at *;generalize (trimL out).length = tl at *
    repeat' (first | (with_reducible refine Zacf (fun h => ?_) (fun h => ?_)) | (with_reducible refine Zace (fun h => ?_) (fun h => ?_)) | (with_reducible refine sxIfB_sp (fun h => ?_) (fun h => ?_)) | simp only [↓Zabr,↓Zabo,↓Zabq,↓Zaah,↓Zabl,↓Zabn,↓Zacj,↓Zaci,↓Zaco,↓Zaar,↓Zaak,↓Zaam,↓Zaal,↓bxOp_un,↓bxOp_append,↓bxPut,↓Zabj,↓Zabi,↓Zaaf,↓Zaae,↓Zabd,↓Zabc,↓Zacp,↓Zaaz,↓Zaax,Zack,Zaad,Zabb,Zacg,List.map,List.append_nil,↓reduceIte,Nat.reduceEqDiff,Nat.reduceLT,dec_F,and_self,not_true_eq_false,Option.map_some, *,ldBig])
  · have hna:(z.tmod 10000).natAbs = z.natAbs % 10000:=by rw [Int.natAbs_tmod]; rfl
    have hnd:(z.tdiv 10000).natAbs = z.natAbs / 10000:=by rw [Int.natAbs_tdiv]; rfl
    have hb:¬ (10000:Int) = 0:=by omega
    have f1:IntKind.i64.wrap (z.tdiv 10000) = z.tdiv 10000:=IntWalk.i64_in _ (by omega)
    have hl4:out.length ≤ 4:=by
      rcases Nat.lt_or_ge 4 out.length with h5 | h5
      · exfalso;have h6:=pow_mono (show 5 ≤ out.length by omega)
        have h7:(10000:Int) ^ out.length * 1 ≤ 10000 ^ out.length * z.natAbs:=Int.mul_le_mul_of_nonneg_left (by omega) (Int.le_of_lt (pow_pos' _))
        rw [Int.mul_one] at h7;have h8:=hd.nonneg;have h9:(10000:Int) ^ 5 = 100000000000000000000:=by decide
        omega
      · exact h5
    have hfin:∀ q:Int,q = ((z.tmod 10000).natAbs:Int) → Digs (out ++ [q]) ∧ val (out ++ [q]) + 10000 ^ (out ++ [q]).length * ((z.tdiv 10000).natAbs:Int) = n.natAbs:=fun q hq => by
      have h1:(q:Int) + 10000 * ((z.tdiv 10000).natAbs:Int) = z.natAbs:=by rw [hq,hna,hnd]; omega
      refine ⟨hd.append (Digs.one (by omega)),?_⟩
      rw [val_append,List.length_append,List.length_singleton,Int.pow_succ,Int.mul_assoc];simp only [val,Int.mul_zero,Int.add_zero];rw [← hv,← h1,Int.mul_add];omega
    have hob1:=L.push okI hg1 (by omega) (z.tmod 10000)
    obtain ⟨v3,H3,p3,L3⟩:=hob1;have hob2:=L.push okI hg1 (by omega) (0 - z.tmod 10000)
    obtain ⟨v4,H4,p4,L4⟩:=hob2;have b3:=bsI H2 (z.tmod 10000);have b4:=bsI H2 (0 - z.tmod 10000);have f2:IntKind.i64.wrap (0 - z.tmod 10000) = 0 - z.tmod 10000:=IntWalk.i64_in _ (by omega)
    have hlt:z.natAbs / 10000 < z.natAbs:=by omega
    have hdz:-9223372036854775808 ≤ z.tdiv 10000 ∧ z.tdiv 10000 ≤ 9223372036854775807:=by omega
    clear L hv w1
    repeat' (first | (with_reducible refine Zacf (fun h => ?_) (fun h => ?_)) | (with_reducible refine Zace (fun h => ?_) (fun h => ?_)) | (with_reducible refine sxIfB_sp (fun h => ?_) (fun h => ?_)) | simp only [↓Zabr,↓Zabo,↓Zabq,↓Zaah,↓Zabl,↓Zabn,↓Zacj,↓Zaci,↓Zaco,↓Zaar,↓Zaak,↓Zaam,↓Zaal,↓bxOp_un,↓bxOp_append,↓bxPut,↓Zabj,↓Zabi,↓Zaaf,↓Zaae,↓Zabd,↓Zabc,↓Zacp,↓Zaaz,↓Zaax,Zack,Zaad,Zabb,una_neg,Zach,List.map,↓reduceIte,Nat.reduceEqDiff,Nat.reduceLT,dec_T,dec_F,true_and,and_true,ne_eq,not_false_eq_true, *])
    · have hf:=hfin (0 - z.tmod 10000) (by omega)
      exact ⟨_,by omega,z.tdiv 10000,_,_,rfl,by omega,hf.1,hf.2,by simp; omega,L4,rfl,rfl⟩
    · have hf:=hfin (z.tmod 10000) (by omega)
      exact ⟨_,by omega,z.tdiv 10000,_,_,rfl,by omega,hf.1,hf.2,by simp; omega,L3,rfl,rfl⟩
end Go.Proofs.YtcmaipijkjillaaDoor
