/- Whole numbers of any size, continued: the number of an int. -/
import Derived.Test.YtdfjaoncabanbaaDoorB5
set_option linter.unusedVariables false
set_option linter.unusedSimpArgs false
set_option linter.unusedSectionVars false

namespace Go.Proofs.YtdfjaoncabanbaaDoor
open Go Go.AM
set_option maxRecDepth 10000

def BigIs (H:Heap) (v:Value) (z:Int) (lo:Nat):Prop:=
  ∃ v' w r o,v = .agg ⟨[.bool (decide (z < 0)),v']⟩ ∧ SlI .i64 H v' w r o ∧ Digs w ∧ Norm w ∧ val w = z.natAbs ∧ w.length ≤ lo
def BigOut (S:AM.Sys) (f:FuncId) (args:List Value) (H:Heap) (z:Int) (lo:Nat):Prop:=∃ H' v,Keep H H' ∧ Grp H' ∧ BigIs H' v z lo ∧ Runs Tryd.prog S (.fn f) args H v H'
theorem ldBig (H:Heap) (r o:Nat):aLoad Tryd.prog H 66 (.pointer (some ⟨r,o,none⟩)) = (H.read r o 2).map fun l => .agg ⟨l⟩:=by kernel_rfl
theorem alBig (H:Heap):aAlloc Tryd.prog H 66 = some (.pointer (some ⟨H.size,0,none⟩),H.newExact [.bool false,.slice none 0 0] 66):=by kernel_rfl
theorem stBig {H:Heap} {r:Nat} {cells:List Value} (h:Own H r 66 cells) (hl:cells.length = 2) (s:Bool) (a:Option Addr) (n c:Nat) :
    ∃ H2,aStore Tryd.prog H 66 (.pointer (some ⟨r,0,none⟩)) (.agg ⟨[.bool s,.slice a n c]⟩) = some H2 ∧ H2.read r 0 2 = some [.bool s,.slice a n c] ∧ H2.size = H.size ∧ (∀ H0,Keep H0 H → H0.size ≤ r → Keep H0 H2):=by
  have hob:=h.store (P:=Tryd.prog) (t:=66) (i:=Tryd.t66) (by kernel_rfl) (v:=.agg ⟨[.bool s,.slice a n c]⟩) (new:=[.bool s,.slice a n c]) rfl (by kernel_rfl) rfl (o:=0) (show 0 + 2 ≤ cells.length by omega)
  obtain ⟨H2,h1,h2,h3,_,h5⟩:=hob;refine ⟨H2,h1,?_,h3,h5⟩;have h6:=h2.read (o:=0) (n:=2) (by rw [splice_length (show 0 + 2 ≤ cells.length by omega)]; omega)
  rw [h6];exact congrArg some (splice_at (l:=cells) (off:=0) (vs:=[.bool s,.slice a n c]) (show 0 + 2 ≤ cells.length by omega))
theorem val_zero {w:List Int} (hd:Digs w) (hn:Norm w):0 < w.length ↔ 0 < val w:=by
  constructor
  · exact norm_pos hd hn
  · intro h;rcases Nat.eq_zero_or_pos w.length with h0 | h0
    · rw [List.length_eq_zero_iff.1 h0] at h; simp [val] at h
    · exact h0

variable {S:AM.Sys} (hS:Only S 5)
include hS

theorem Of_runs (n:Int) (H:Heap) (hg:Grp H) (hL:H.low ≤ H.size) (hn:-9223372036854775808 ≤ n ∧ n ≤ 9223372036854775807):BigOut S 64 [.int .i64 n] H n 5:=by
  suffices h:WCall Tryd.prog S (.fn 64) [.int .i64 n] H (fun v H' => Keep H H' ∧ Grp H' ∧ BigIs H' v n 5) by
    obtain ⟨v,H',hr,h1,h2,h3⟩:=h; exact ⟨H',v,h1,h2,h3,hr⟩
  obtain ⟨H1,e1,hK1,hs1,zz,_⟩:=box1 H [.bool false,.slice none 0 0] 66;have w1:Own H1 H.size 66 [.bool false,.slice none 0 0]:=e1 ▸ Own.new H _ _;have hg1:=hK1.grp hg;clear zz hs1;refine Zaaw Tryd.func64 rfl (Nat.le_of_ble_eq_true rfl) (hS.no rfl _ _) ?_
  rw [Tryd.ntmps64,Tryd.results64]
  repeat' (first | (with_reducible refine Zace (fun h => ?_) (fun h => ?_)) | (with_reducible refine Zacd (fun h => ?_) (fun h => ?_)) | (with_reducible refine sxIfB_sp (fun h => ?_) (fun h => ?_)) | simp only [↓Zabo,↓Zabq,↓Zaah,↓Zabl,↓Zabp,↓Zaci,↓Zach,↓Zacn,↓Zaar,↓Zaaj,↓bxOp_alloc,↓Zaat,↓Zaak,↓Zaau,↓Zack,↓bxPut,↓Zabj,↓Zabh,↓Zacl,↓bxRes_cell,↓Zaco,↓Zaba,↓Zaay,↓Zaaz,Zacj,Zaad,Zabc,Zabs,Zabf,List.nil_append,↓reduceIte,Nat.reduceEqDiff,Nat.reduceLT, *,argF,List.getD_cons_zero,alBig])
  refine sxL_of (fun m ρ H2 => ∃ (z:Int) (out:List Int) (v':Value),m = z.natAbs ∧ (-9223372036854775808 ≤ z ∧ z ≤ 9223372036854775807) ∧ Digs out ∧ val out + 10000 ^ out.length * z.natAbs = n.natAbs ∧ out.length ≤ 5 ∧ Lst 3 .i64 H1 H2 v' out ∧
    ρ 0 = .int .i64 z ∧ ρ 2 = .pointer (some ⟨H.size,0,none⟩) ∧ ρ 3 = v' ∧ ρ 4 = .bool (decide (n < 0)))
    ⟨n,[],_,rfl,hn,(fun x hx => absurd hx (List.not_mem_nil)),(by simp [val]),by simp,Lst.nil (Keep.refl H1) hg1,rfl,rfl,rfl,rfl⟩ ?_
  clear e1;rintro m ρ H2 ⟨z,out,v',rfl,hz,hd,hv,hl,L,e0,e2,e3,e4⟩
  by_cases hz0:z = 0
  · subst hz0;have hv2:val out = n.natAbs:=by simpa using hv
    have hob:=L.sl (fun x hx => by have:=hd x hx; show -9223372036854775808 ≤ x ∧ x ≤ 9223372036854775807; omega) (by show out.length ≤ 9223372036854775807; omega)
    obtain ⟨rr,sl⟩:=hob;have hob2:=whole_runs hS (decide (n < 0)) v' out rr 0 H2 L.grp ((hK1.trans L.keep).low hL) sl (by omega)
    obtain ⟨H3,v3,r3,o3,hK3,hg3,s3,hF3,hfr3,hR3⟩:=hob2;have f3:=hR3.bx;have hob3:=s3.v0;obtain ⟨a3,c3,rfl⟩:=hob3;have hK13:=L.keep.trans hK3;have w3:=w1.keep hK13;have hob4:=stBig w3 rfl (decide (n < 0) && decide (0 < (trimL out).length)) a3 (trimL out).length c3;obtain ⟨H4,ps,q4,hsz4,hkp⟩:=hob4;have hK4:=hkp H (hK1.trans hK13) (Nat.le_refl _);have hfr:H.size < H2.size:=Nat.lt_of_lt_of_le w1.lt L.keep.size;have s4:=SlE.other w3 ps hsz4 s3 (fun h0 => by have:=hfr3 h0; omega)
    have hg4:=hK4.grp hg;have hbig:BigIs H4 (.agg ⟨[.bool (decide (n < 0) && decide (0 < (trimL out).length)),.slice a3 (trimL out).length c3]⟩) n 5:=by
      have hvt:val (trimL out) = n.natAbs:=by rw [trimL_val]; exact hv2
      have hsg:(decide (n < 0) && decide (0 < (trimL out).length)) = decide (n < 0):=by
        by_cases hneg:n < 0
        · have:0 < (trimL out).length:=(val_zero (trimL_digs hd) (trimL_norm out)).2 (by rw [hvt]; omega)
          simp [hneg,this]
        · simp [hneg]
      exact ⟨_,trimL out,r3,o3,by rw [hsg],s4,trimL_digs hd,trimL_norm out,hvt,Nat.le_trans (trimL_le out) hl⟩
    clear hR3 s3 s4 sl L w1 w3 hd hv hv2 hkp hfr3 hl;generalize (decide (n < 0) && decide (0 < (trimL out).length)) = sg at *;generalize (trimL out).length = tl at *
    repeat' (first | (with_reducible refine Zace (fun h => ?_) (fun h => ?_)) | (with_reducible refine Zacd (fun h => ?_) (fun h => ?_)) | (with_reducible refine sxIfB_sp (fun h => ?_) (fun h => ?_)) | simp only [↓Zabr,↓Zabo,↓Zabq,↓Zaag,↓Zabl,↓Zabn,↓Zaci,↓Zach,↓Zacn,↓Zaar,↓Zaaj,↓Zaam,↓Zaak,↓bxOp_un,↓bxOp_append,↓bxPut,↓Zabj,↓Zabi,↓Zaaf,↓Zaae,↓Zabe,↓Zabd,↓Zaco,↓Zaba,↓Zaay,Zacj,Zaad,Zabc,Zacf,List.map,List.append_nil,↓reduceIte,Nat.reduceEqDiff,Nat.reduceLT,dec_F,and_self,not_true_eq_false,Option.map_some, *,ldBig])
  · have hna:(z.tmod 10000).natAbs = z.natAbs % 10000:=by rw [Int.natAbs_tmod]; rfl
    have hnd:(z.tdiv 10000).natAbs = z.natAbs / 10000:=by rw [Int.natAbs_tdiv]; rfl
    have hb:¬ (10000:Int) = 0:=by omega
    have f1:IntKind.i64.wrap (z.tdiv 10000) = z.tdiv 10000:=IntWalk.i64_in _ (by omega)
    have hl4:out.length ≤ 4:=by
      rcases Nat.lt_or_ge 4 out.length with h5 | h5
      · exfalso;have h6:=pow_mono (show 5 ≤ out.length by omega)
        have h7:(10000:Int) ^ out.length * 1 ≤ 10000 ^ out.length * z.natAbs:=Int.mul_le_mul_of_nonneg_left (by omega) (Int.le_of_lt (pow_pos' _))
        rw [Int.mul_one] at h7;have h8:=hd.nonneg;have h9:(10000:Int) ^ 5 = 100000000000000000000:=by decide
        omega
      · exact h5
    have hfin:∀ q:Int,q = ((z.tmod 10000).natAbs:Int) → Digs (out ++ [q]) ∧ val (out ++ [q]) + 10000 ^ (out ++ [q]).length * ((z.tdiv 10000).natAbs:Int) = n.natAbs:=fun q hq => by
      have h1:(q:Int) + 10000 * ((z.tdiv 10000).natAbs:Int) = z.natAbs:=by rw [hq,hna,hnd]; omega
      refine ⟨hd.append (Digs.one (by omega)),?_⟩
      rw [val_append,List.length_append,List.length_singleton,Int.pow_succ,Int.mul_assoc];simp only [val,Int.mul_zero,Int.add_zero];rw [← hv,← h1,Int.mul_add];omega
    have hob1:=L.push okI hg1 (by omega) (z.tmod 10000)
    obtain ⟨v3,H3,p3,L3⟩:=hob1;have hob2:=L.push okI hg1 (by omega) (0 - z.tmod 10000)
    obtain ⟨v4,H4,p4,L4⟩:=hob2;have b3:=bsI H2 (z.tmod 10000);have b4:=bsI H2 (0 - z.tmod 10000);have f2:IntKind.i64.wrap (0 - z.tmod 10000) = 0 - z.tmod 10000:=IntWalk.i64_in _ (by omega)
    have hlt:z.natAbs / 10000 < z.natAbs:=by omega
    have hdz:-9223372036854775808 ≤ z.tdiv 10000 ∧ z.tdiv 10000 ≤ 9223372036854775807:=by omega
    clear L hv w1
    repeat' (first | (with_reducible refine Zace (fun h => ?_) (fun h => ?_)) | (with_reducible refine Zacd (fun h => ?_) (fun h => ?_)) | (with_reducible refine sxIfB_sp (fun h => ?_) (fun h => ?_)) | simp only [↓Zabr,↓Zabo,↓Zabq,↓Zaag,↓Zabl,↓Zabn,↓Zaci,↓Zach,↓Zacn,↓Zaar,↓Zaaj,↓Zaam,↓Zaak,↓bxOp_un,↓bxOp_append,↓bxPut,↓Zabj,↓Zabi,↓Zaaf,↓Zaae,↓Zabe,↓Zabd,↓Zaco,↓Zaba,↓Zaay,Zacj,Zaad,Zabc,una_neg,Zacg,List.map,↓reduceIte,Nat.reduceEqDiff,Nat.reduceLT,dec_T,dec_F,true_and,and_true,ne_eq,not_false_eq_true, *])
    · have hf:=hfin (0 - z.tmod 10000) (by omega)
      exact ⟨_,by omega,z.tdiv 10000,_,_,rfl,by omega,hf.1,hf.2,by simp; omega,L4,rfl,rfl⟩
    · have hf:=hfin (z.tmod 10000) (by omega)
      exact ⟨_,by omega,z.tdiv 10000,_,_,rfl,by omega,hf.1,hf.2,by simp; omega,L3,rfl,rfl⟩
end Go.Proofs.YtdfjaoncabanbaaDoor

namespace Go.Proofs.YtdfjaoncabanbaaDoor
open Go Go.AM
set_option maxRecDepth 10000
theorem faG0 (r o:Nat):aFieldAt Tryd.prog 66 0 (.pointer (some ⟨r,o,none⟩)) = some (.pointer (some ⟨r,o + 0,none⟩)):=by kernel_rfl
theorem faG1 (r o:Nat):aFieldAt Tryd.prog 66 1 (.pointer (some ⟨r,o,none⟩)) = some (.pointer (some ⟨r,o + 1,none⟩)):=by kernel_rfl
theorem ldB4 (H:Heap) (r o:Nat):aLoad Tryd.prog H 4 (.pointer (some ⟨r,o,none⟩)) = (H.read r o 1).bind one1:=by kernel_rfl
theorem neqB (a b:Bool):binP Tryd.prog .neq 4 (.bool a) (.bool b) = some (.bool (!(a == b))):=binP_neq Tryd.underlying4 a b
theorem eqlB (a b:Bool):binP Tryd.prog .eql 4 (.bool a) (.bool b) = some (.bool (a == b)):=binP_eql Tryd.underlying4 a b
theorem BigIs.keep {H H':Heap} {v:Value} {z:Int} {lo:Nat} (h:BigIs H v z lo) (hk:Keep H H'):BigIs H' v z lo:=by
  obtain ⟨v',w,r,o,h1,h2,h3⟩:=h;exact ⟨v',w,r,o,h1,h2.keep hk,h3⟩

variable {S:AM.Sys} (hS:Only S 5)
include hS

theorem Times_runs (v1 v2:Value) (x y:Int) (l1 l2:Nat) (H:Heap) (hg:Grp H) (hL:H.low ≤ H.size) (h1:BigIs H v1 x l1) (h2:BigIs H v2 y l2) (hl1:l1 ≤ 400) (hl2:l2 ≤ 400):BigOut S 63 [v1,v2] H (x * y) (l1 + l2):=by
  suffices h:WCall Tryd.prog S (.fn 63) [v1,v2] H (fun v H' => Keep H H' ∧ Grp H' ∧ BigIs H' v (x * y) (l1 + l2)) by
    obtain ⟨v,H',hr,h1,h2,h3⟩:=h; exact ⟨H',v,h1,h2,h3,hr⟩
  obtain ⟨u1,w1,r1,o1,rfl,s1,d1,n1,e1,g1⟩:=h1;obtain ⟨u2,w2,r2,o2,rfl,s2,d2,n2,e2,g2⟩:=h2;obtain ⟨a1,c1,rfl⟩:=s1.v0;obtain ⟨a2,c2,rfl⟩:=s2.v0;obtain ⟨H1,b1,hK1,hs1,zz1,hr1⟩:=box1 H [.bool (decide (x < 0)),.slice a1 w1.length c1] 66;obtain ⟨H2,b2,hK2,hs2,zz2,hr2⟩:=box1 H1 [.bool (decide (y < 0)),.slice a2 w2.length c2] 66;obtain ⟨H3,b3,hK3,hs3,zz3,_⟩:=box1 H2 [.bool false,.slice none 0 0] 66;have ow:Own H3 H2.size 66 [.bool false,.slice none 0 0]:=b3 ▸ Own.new H2 _ _;clear zz1 zz2 zz3;have q0:=(hK2.trans hK3).read hs1 (hr1 0 1 (show 0 + 1 ≤ 2 by omega))
  have q1:=(hK2.trans hK3).read hs1 (hr1 1 1 (show 1 + 1 ≤ 2 by omega))
  have q2:=hK3.read hs2 (hr2 0 1 (show 0 + 1 ≤ 2 by omega))
  have q3:=hK3.read hs2 (hr2 1 1 (show 1 + 1 ≤ 2 by omega))
  replace q0:H3.read H.size 0 1 = some [.bool (decide (x < 0))]:=q0;replace q1:H3.read H.size 1 1 = some [.slice a1 w1.length c1]:=q1;replace q2:H3.read H1.size 0 1 = some [.bool (decide (y < 0))]:=q2;replace q3:H3.read H1.size 1 1 = some [.slice a2 w2.length c2]:=q3;have hK03:=(hK1.trans hK2).trans hK3;have hL3:=hK03.low hL;have hg3:=hK03.grp hg;have hrl:=Keep.relowS H3;have hob:=mulD_runs hS _ _ w1 w2 r1 o1 r2 o2 (H3.relow H3.size) (hrl.grp hg3) (Nat.le_refl _) ((s1.keep hK03).keep hrl) ((s2.keep hK03).keep hrl) d1 d2 (by omega) (by omega)
  obtain ⟨w,hdg,hle,H4,v4,r4,o4,hK4,hg4,s4,hF4,hfr4,hR4⟩:=hob;have hd1:∀ (all:List Oper) (n:Nat) (k:Heap → Prop),sxD all n H3 H4 k = k (H4.relow (Nat.min H3.low H4.low)):=fun all n k => sxD_keep hK4 k
  have hK35:=Keep.draw hK4;have s5:SlI .i64 (H4.relow (Nat.min H3.low H4.low)) v4 w r4 o4:=⟨s4.isv,s4.rd,s4.lt,s4.ml⟩;have hL5:=hK35.low hL3;have hg5:=hK35.grp hg3;generalize hH5:H4.relow (Nat.min H3.low H4.low) = H5 at *;have hrl5:=Keep.relowS H5;have hob2:=whole_runs hS (!(decide (x < 0) == decide (y < 0))) v4 w r4 o4 (H5.relow H5.size) (hrl5.grp hg5) (Nat.le_refl _) (s5.keep hrl5) (by omega)
  obtain ⟨H6,v6,r6,o6,hK6,hg6,s6,hF6,hfr6,hR6⟩:=hob2;have hd2:∀ (all:List Oper) (n:Nat) (k:Heap → Prop),sxD all n H5 H6 k = k (H6.relow (Nat.min H5.low H6.low)):=fun all n k => sxD_keep hK6 k
  have hK57:=Keep.draw hK6;have s7:SlI .i64 (H6.relow (Nat.min H5.low H6.low)) v6 (trimL w) r6 o6:=⟨s6.isv,s6.rd,s6.lt,s6.ml⟩;generalize hH7:H6.relow (Nat.min H5.low H6.low) = H7 at *;have hK37:=hK35.trans hK57;have ow7:=(ow.keep hK37).addr (l:=H7.size);obtain ⟨a6,c6,rfl⟩:=s7.v0;have hob3:=stBig ow7 rfl (!(decide (x < 0) == decide (y < 0)) && decide (0 < (trimL w).length)) a6 (trimL w).length c6;obtain ⟨H8,ps,q8,hsz8,hkp⟩:=hob3;have hK07:=hK03.trans hK37;have hK8:=hkp H (hK07.trans (Keep.relowS H7)) (Nat.le_trans hK1.size hK2.size);have hK9:=Keep.lower hK07 hK8;have hg9:=hK9.grp hg
  have s8:=SlE.other ow7 ps hsz8 (s7.keep (Keep.relowS H7)) (fun h0 => by
    have h5:=hfr6 h0;have h6:H5.size ≤ r6:=h5;have:=hK35.size;have:=ow.lt
    omega)
  have hbig:BigIs (H8.relow (Nat.min H7.low H8.low)) (.agg ⟨[.bool (!(decide (x < 0) == decide (y < 0)) && decide (0 < (trimL w).length)),.slice a6 (trimL w).length c6]⟩) (x * y) (l1 + l2):=by
    have hvt:val (trimL w) = (x * y).natAbs:=by
      rw [trimL_val,hdg.2.2,e1,e2,Int.natAbs_mul];rw [Int.toNat_of_nonneg (Int.mul_nonneg (Int.natCast_nonneg _) (Int.natCast_nonneg _)),Int.natCast_mul]
    have htd:=trimL_digs hdg.1;have htn:=trimL_norm w;have hsg:(!(decide (x < 0) == decide (y < 0)) && decide (0 < (trimL w).length)) = decide (x * y < 0):=by
      have hpos:=val_zero htd htn;rw [hvt] at hpos
      by_cases hx:x < 0
      · by_cases hy:y < 0
        · have:=Int.mul_pos_of_neg_of_neg hx hy;simp [hx,hy]; omega
        · rcases Int.lt_or_eq_of_le (show 0 ≤ y by omega) with hy0 | hy0
          · have:=Int.mul_neg_of_neg_of_pos hx hy0;have hl:0 < (trimL w).length:=hpos.2 (by omega)
            simp [hx,hy,hl]; omega
          · subst hy0;have hl:¬ 0 < (trimL w).length:=fun h => by have:=hpos.1 h; simp at this
            simp [hl]
      · by_cases hy:y < 0
        · rcases Int.lt_or_eq_of_le (show 0 ≤ x by omega) with hx0 | hx0
          · have:=Int.mul_neg_of_pos_of_neg hx0 hy;have hl:0 < (trimL w).length:=hpos.2 (by omega)
            simp [hx,hy,hl]; omega
          · subst hx0;have hl:¬ 0 < (trimL w).length:=fun h => by have:=hpos.1 h; simp at this
            simp [hl]
        · have:=Int.mul_nonneg (show 0 ≤ x by omega) (show 0 ≤ y by omega)
          simp [hx,hy]; omega
    have s9:SlI .i64 (H8.relow (Nat.min H7.low H8.low)) (.slice a6 (trimL w).length c6) (trimL w) r6 o6:=⟨s8.isv,s8.rd,s8.lt,s8.ml⟩;exact ⟨_,trimL w,r6,o6,by rw [hsg],s9,htd,htn,hvt,by have:=trimL_le w; omega⟩
  have f4:=hR4.bx;have f6:=hR6.bx;have hc1:(Value.agg ⟨[.bool (decide (x < 0)),.slice a1 w1.length c1]⟩).cells.toList = [.bool (decide (x < 0)),.slice a1 w1.length c1]:=rfl;have hc2:(Value.agg ⟨[.bool (decide (y < 0)),.slice a2 w2.length c2]⟩).cells.toList = [.bool (decide (y < 0)),.slice a2 w2.length c2]:=rfl;refine Zaaw Tryd.func63 rfl (Nat.le_of_ble_eq_true rfl) (hS.no rfl _ _) ?_
  rw [Tryd.ntmps63,Tryd.results63];clear hR4 hR6 s1 s2 s4 s5 s6 s7 s8 ow ow7 hkp hfr4 hfr6 hr1 hr2 hdg d1 d2 n1 n2 e1 e2 g1 g2 hsz8;generalize (!(decide (x < 0) == decide (y < 0)) && decide (0 < (trimL w).length)) = sg at *;generalize (trimL w).length = tl at *
  repeat' (first | simp only [↓Zabm,↓Zabo,↓Zabq,↓Zabp,↓Zaci,↓Zach,↓Zacb,↓Zaai,↓Zaby,↓sxDL_binOp,↓Zabw,↓sxD_same,↓Zacn,↓bxOp_alloc,↓Zaal,↓Zaaq,↓Zaat,↓Zaak,↓Zaan,↓Zaau,↓Zack,↓bxPut,↓Zabj,↓Zabh,↓Zacl,↓bxRes_cell,↓Zaco,↓Zaba,↓Zaaz,Zacj,Zabs,Zabf,List.map,List.nil_append,List.append_nil,↓reduceIte,Nat.reduceEqDiff,Nat.reduceLT,and_self,read_relow,Zaaa,Nat.add_zero,one1,Option.bind_some,Option.map_some, *,argF,List.getD_cons_zero,List.getD_cons_succ,alBig,ldBig,faG0,faG1,ldB4,ldIs,neqB,Nat.zero_add] | (with_reducible first | refine Zabu (by assumption) (by decide +kernel) ?_ | refine Zabt (by decide +kernel) ?_ | refine Zaca (by decide +kernel) ?_ | refine Zabv ?_))
  all_goals trace_state
end Go.Proofs.YtdfjaoncabanbaaDoor
