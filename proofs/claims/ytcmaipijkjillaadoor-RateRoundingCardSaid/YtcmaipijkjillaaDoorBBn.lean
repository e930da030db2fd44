/- Whole numbers of any size, continued: the quotient of a number below 0, if nothing is left over. -/
import Derived.Test.YtcmaipijkjillaaDoorBB
set_option linter.unusedVariables false
set_option linter.unusedSimpArgs false
set_option linter.unusedSectionVars false

namespace Go.Proofs.YtcmaipijkjillaaDoor
open Go Go.AM
set_option maxRecDepth 10000

theorem SlI_nil {k:IntKind} (H:Heap):SlI k H (.slice none 0 0) [] 0 0:=⟨⟨none,0,rfl,fun h => absurd h (Nat.lt_irrefl 0)⟩,fun i hi => absurd hi (Nat.not_lt_zero i),fun h => absurd h (Nat.lt_irrefl 0),Nat.zero_le _⟩

theorem bdBig0:aBuild Tryd.prog 35 [] = some (.agg ⟨[.bool false,.slice none 0 0]⟩):=by kernel_rfl

variable {S:AM.Sys} (hS:Only S 6)
include hS

theorem Over_neg (v1 v2:Value) (x y:Int) (l1 l2:Nat) (H:Heap) (hg:Grp H) (hL:H.low ≤ H.size) (hx:x < 0) (hy:0 < y) (hxy:x % y = 0) (h1:BigIs H v1 x l1) (h2:BigIs H v2 y l2) (hl1:l1 ≤ 400) (hl2:l2 ≤ 400):∃ H' va vb,Keep H H' ∧ Grp H' ∧ BigIs H' va (x / y) l1 ∧ BigIs H' vb (x % y) l2 ∧ Runs Tryd.prog S (.fn 56) [v1,v2] H (.tuple #[va,vb]) H':=by
  suffices h:WCall Tryd.prog S (.fn 56) [v1,v2] H (fun v H' => ∃ va vb,v = .tuple #[va,vb] ∧ Keep H H' ∧ Grp H' ∧ BigIs H' va (x / y) l1 ∧ BigIs H' vb (x % y) l2) by
    obtain ⟨_,H',hr,va,vb,rfl,h1,h2,h3,h4⟩:=h; exact ⟨H',va,vb,h1,h2,h3,h4,hr⟩
  obtain ⟨u1,w1,r1,o1,rfl,s1,d1,n1,e1,g1⟩:=h1;obtain ⟨u2,w2,r2,o2,rfl,s2,d2,n2,e2,g2⟩:=h2;obtain ⟨a1,c1,rfl⟩:=s1.v0;obtain ⟨a2,c2,rfl⟩:=s2.v0;rw [decide_eq_true hx,decide_eq_false (show ¬ y < 0 by omega)]
  obtain ⟨H1,b1,hK1,hs1,zz1,hr1⟩:=box1 H [.bool true,.slice a1 w1.length c1] 35;obtain ⟨H2,b2,hK2,hs2,zz2,hr2⟩:=box1 H1 [.bool false,.slice a2 w2.length c2] 35;obtain ⟨H3,b3,hK3,hs3,zz3,_⟩:=box1 H2 [.bool false,.slice none 0 0] 35;obtain ⟨H4,b4,hK4,hs4,zz4,_⟩:=box1 H3 [.bool false,.slice none 0 0] 35;have ow3:Own H4 H2.size 35 [.bool false,.slice none 0 0]:=(b3 ▸ Own.new H2 _ _:Own H3 H2.size 35 [.bool false,.slice none 0 0]).keep hK4;have ow4:Own H4 H3.size 35 [.bool false,.slice none 0 0]:=b4 ▸ Own.new H3 _ _;have hne:H3.size ≠ H2.size:=by have:=zz3; omega
  clear zz1 zz2 zz3 zz4;have q0:=((hK2.trans hK3).trans hK4).read hs1 (hr1 0 1 (show 0 + 1 ≤ 2 by omega))
  have q1:=((hK2.trans hK3).trans hK4).read hs1 (hr1 1 1 (show 1 + 1 ≤ 2 by omega))
  have q2:=(hK3.trans hK4).read hs2 (hr2 0 1 (show 0 + 1 ≤ 2 by omega))
  have q3:=(hK3.trans hK4).read hs2 (hr2 1 1 (show 1 + 1 ≤ 2 by omega))
  replace q0:H4.read H.size 0 1 = some [.bool true]:=q0;replace q1:H4.read H.size 1 1 = some [.slice a1 w1.length c1]:=q1;replace q2:H4.read H1.size 0 1 = some [.bool false]:=q2;replace q3:H4.read H1.size 1 1 = some [.slice a2 w2.length c2]:=q3;have hK04:=((hK1.trans hK2).trans hK3).trans hK4;have hL4:=hK04.low hL;have hg4:=hK04.grp hg;have hw2:0 < w2.length:=(val_zero d2 n2).2 (by omega)
  have hob:=divD_runs hS (.slice a1 w1.length c1) (.slice a2 w2.length c2) w1 w2 r1 o1 r2 o2 H4 hg4 hL4 (s1.keep hK04) (s2.keep hK04) d1 d2 n2 hw2 (by omega) (by omega)
  obtain ⟨H5,vq,vr,q,rem,rq,oq,rr,or',hK5,hg5,sq,sr,hFr,dq,nq,lq,dr,nr,hval,hlt,lr,hR5⟩:=hob;have f5:=hR5.bx;have hL5:=hK5.low hL4;have hob6:=whole_runs hS true vq q rq oq H5 hg5 hL5 sq (by omega)
  obtain ⟨H6,v6,r6,o6,hK6,hg6,s6,hF6,hfr6,hR6⟩:=hob6;have f6:=hR6.bx;rw [Bool.true_and] at f6;have hqn:=dq.nonneg;have hrn:=dr.nonneg;have hy2:val w2 = y:=by rw [e2]; omega
  have hx2:val w1 = 0 - x:=by rw [e1]; omega
  have hval2:=hval;have hlt2:=hlt;rw [hy2,hx2] at hval2;rw [hy2] at hlt2;have hxe:y * (x / y) = x:=Int.mul_ediv_cancel' (Int.dvd_of_emod_eq_zero hxy)
  have hda:(0 - x) / y = val q ∧ (0 - x) % y = val rem:=(Int.ediv_emod_unique hy).2 ⟨by
    rw [Int.mul_comm y]; omega,hrn,hlt2⟩
  have hxn:0 - x = y * (0 - x / y):=by rw [Int.mul_sub,hxe]; omega
  have hq2:val q = 0 - x / y:=by rw [← hda.1,hxn,Int.mul_ediv_cancel_left _ (by omega)]
  have hr0:val rem = 0:=by rw [← hda.2,hxn,Int.mul_emod_right]
  have hneg:x / y < 0:=by
    rcases Int.lt_or_le (x / y) 0 with h | h
    · exact h
    · have:=Int.mul_nonneg (Int.le_of_lt hy) h; omega
  have hrl0:¬ 0 < rem.length:=fun h => by have:=(val_zero dr nr).1 h; omega
  have hrem:rem.length = 0:=by omega
  replace q0:H5.read H.size 0 1 = some [.bool true]:=hK5.read (Nat.lt_of_lt_of_le hs1 ((hK2.trans hK3).trans hK4).size) q0;obtain ⟨a6,c6,rfl⟩:=s6.v0;obtain ⟨ar,cr,hvr⟩:=sr.v0;rw [hrem] at hvr;subst hvr;have htl:0 < (trimL q).length:=by
    have h1:=(val_zero (trimL_digs dq) (trimL_norm q)).2;rw [trimL_val] at h1;exact h1 (by omega)
  rw [decide_eq_true htl] at f6;have hK46:=hK5.trans hK6;have hob8:=stBig2 (ow3.keep hK46) rfl true a6 (trimL q).length c6;obtain ⟨H8,ps8,q8,hsz8,hkr8,hkp8⟩:=hob8;have ow4':=hkr8 _ _ _ hne (ow4.keep hK46);have hob9:=stBig2 ow4' rfl false none 0 0;obtain ⟨H9,ps9,q9,hsz9,hkr9,hkp9⟩:=hob9;have q8':=Own.store_other ow4' ps9 (Ne.symm hne) q8;have z02:=(hK1.trans hK2).size;have z23:=hK3.size;have hK8:=hkp8 H (hK04.trans hK46) z02;have hK9:=hkp9 H hK8 (Nat.le_trans z02 z23);have hg9:=hK9.grp hg;have z45:=hK5.size;have lt3:=ow3.lt;have lt4:=ow4.lt;have s6':=SlE.other ow4' ps9 hsz9 (SlE.other (ow3.keep hK46) ps8 hsz8 s6 (fun h0 => by have:=hfr6 h0; omega)) (fun h0 => by have:=hfr6 h0; omega)
  have hb1:BigIs H9 (.agg ⟨[.bool true,.slice a6 (trimL q).length c6]⟩) (x / y) l1:=
    ⟨_,trimL q,r6,o6,by rw [decide_eq_true hneg],s6',trimL_digs dq,trimL_norm q,by rw [trimL_val]; omega,by have:=trimL_le q; omega⟩
  have hb2:BigIs H9 (.agg ⟨[.bool false,.slice none 0 0]⟩) (x % y) l2:=by
    rw [hxy];exact ⟨_,[],0,0,rfl,SlI_nil _,(fun z hz => absurd hz (List.not_mem_nil)),Or.inl rfl,rfl,Nat.zero_le _⟩
  have hc1:(Value.agg ⟨[.bool true,.slice a1 w1.length c1]⟩).cells.toList = [.bool true,.slice a1 w1.length c1]:=rfl;have hc2:(Value.agg ⟨[.bool false,.slice a2 w2.length c2]⟩).cells.toList = [.bool false,.slice a2 w2.length c2]:=rfl;refine call_of Tryd.func56 rfl (Nat.le_of_ble_eq_true rfl) (hS.no rfl _ _) ?_
  rw [Tryd.ntmps56,Tryd.results56];have x0:aExtract (Value.tuple #[vq,.slice ar 0 cr]) 0 = some vq:=rfl;have x1:aExtract (Value.tuple #[vq,.slice ar 0 cr]) 1 = some (.slice ar 0 cr):=rfl;have hnot:una UnOp.not (Value.bool true) = some (.bool false):=rfl;clear hval2 hlt2 hy2 hx2 hR5 hR6 s1 s2 sq sr s6 s6' ow3 ow4 ow4' hkp8 hkp9 hkr8 hkr9 hfr6 hr1 hr2 hval hlt lr hda dq nq lq dr nr hsz8 hsz9 d1 d2 n1 n2 e1 e2 g1 g2 z02 z23 z45 lt3 lt4 hw2 hxe hxn hq2 hr0 hrl0 hrem htl hxy hneg;generalize (trimL q).length = tq at *
  repeat' (first | simp only [↓Zabr,↓Zabm,↓Zabo,↓Zabq,↓Zaah,↓Zabp,↓Zacj,↓Zaci,↓Zacc,↓Zaai,↓Zaca,↓sxDL_buildSlice,↓Zabz,↓Zabx,↓Zaco,↓Zaar,↓Zaak,↓Zaaj,↓bxOp_box,↓bxOp_build,↓Zaam,↓Zaaq,↓Zaat,↓Zaal,↓bxOp_un,↓Zaan,↓bxOp_extract,↓Zaau,↓Zaap,↓Zacl,↓bxPut,↓Zabj,↓Zabk,↓Zabh,↓Zacm,↓bxRes_cell,↓Zacp,↓Zaaz,↓Zaax,↓Zaay,Zack,Zaad,Zabb,Zabs,Zach,Zacg,Zabf,List.map,List.nil_append,List.append_nil,↓reduceIte,Nat.reduceEqDiff,Nat.reduceLT,dec_T,true_and,Nat.add_zero,one1,Option.bind_some,Option.map_some, *,argF,List.getD_cons_zero,List.getD_cons_succ,lenI,alBig,ldBig,faG0,faG1,ldB4,ldIs,Nat.zero_add,Int.natCast_zero,bdBig0] | (with_reducible first | refine Zabu (by assumption) (by decide +kernel) ?_ | refine Zabt (by decide +kernel) ?_ | refine Zacb (by decide +kernel) ?_ | refine Zabw ?_))
  exact ⟨_,_,rfl,hb1,hb2⟩
end Go.Proofs.YtcmaipijkjillaaDoor
