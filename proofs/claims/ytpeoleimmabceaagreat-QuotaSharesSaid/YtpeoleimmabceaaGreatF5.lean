/- Equal shares, by the reference. -/
import Derived.Test.YtpeoleimmabceaaGreatEE
set_option linter.unusedVariables false
set_option linter.unusedSimpArgs false
set_option linter.unusedSectionVars false

namespace Go.Proofs.YtpeoleimmabceaaGreat
open Go Go.AM
set_option maxRecDepth 10000

structure CE5 (H X:Heap) (b ro rd:Nat) (ve:Value) (E:Int) (cells:List Value) (w:List Int) (dn:List Bool):Prop where
  keep:Keep H X
  ob:Own X b 53 ve.cells.toList
  qe:QV X ve E 840
  oo:Own X ro 53 cells
  od:Own X rd 4 (dn.map fun z => .bool z)
  len:cells.length = dn.length * 4
  no:NoI cells
  qv:∀ i,i < dn.length → dn.getD i false = true → QV X (.agg ⟨(cells.drop (i * 4)).take 4⟩) (w.getD i 0) 840
variable {H X Y:Heap} {b ro rd:Nat} {ve:Value} {E:Int} {cells:List Value} {w:List Int} {dn:List Bool}
theorem CE5.more (h:CE5 H X b ro rd ve E cells w dn) (hk:Keep X Y):CE5 H Y b ro rd ve E cells w dn:=
  ⟨h.keep.trans hk,h.ob.keep hk,h.qe.keep hk,h.oo.keep hk,h.od.keep hk,h.len,h.no,fun i hi hd => (h.qv i hi hd).keep hk⟩
theorem CE5.upd (h:CE5 H X b ro rd ve E cells w dn) {r:Nat} (hk:Keep H Y) (ho:∀ r' e' c',r' ≠ r → Own X r' e' c' → Own Y r' e' c') (hq:∀ v' n' d',QV X v' n' d' → QV Y v' n' d') (n1:b ≠ r) (n2:ro ≠ r) (n3:rd ≠ r):CE5 H Y b ro rd ve E cells w dn:=
  ⟨hk,ho _ _ _ n1 h.ob,hq _ _ _ h.qe,ho _ _ _ n2 h.oo,ho _ _ _ n3 h.od,h.len,h.no,fun i hi hd => hq _ _ _ (h.qv i hi hd)⟩
theorem CE5.setO (h:CE5 H X b ro rd ve E cells w dn) (hL:X.low ≤ X.size) (hr:H.size ≤ ro) (n1:b ≠ ro) (n3:rd ≠ ro) {a:Nat} (ha:a < dn.length) (hd:dn.getD a false = false) {v:Value} {z:Int} (hv:QV X v z 840) :
    ∃ Xa Y,aStore Tryz.prog (X.relow X.size) 53 (.pointer (some ⟨ro,a * 4,none⟩)) v = some Xa ∧ Xa.relow (Nat.min X.low Xa.low) = Y ∧ Y.low ≤ Y.size ∧ CE5 H Y b ro rd ve E (splice cells (a * 4) v.cells.toList) (w.set a z) dn ∧ QV Y v z 840 ∧ ((splice cells (a * 4) v.cells.toList).drop (a * 4)).take 4 = v.cells.toList:=by
  have hle:a * 4 + 4 ≤ cells.length:=by rw [h.len]; omega
  have hvl:=hv.shape.2.len;obtain ⟨Xa,Y,h1,h2,h3,h4,h5,h6,h7,h8⟩:=storeQND h.keep hr hL h.oo h.no hv (o:=a * 4) hle;refine ⟨Xa,Y,h1,h2,h5,⟨h3,h8 _ _ _ n1 h.ob,h7 _ _ _ h.qe,h6,h8 _ _ _ n3 h.od,?_,h.no.splice hv.shape.2.noI,fun i hi hdi => ?_⟩,h7 _ _ _ hv,chunk_same hvl hle⟩
  · unfold Go.AM.splice;simp only [List.length_append,List.length_take,List.length_drop];have:=h.len;omega
  · have hia:i ≠ a:=fun e => by subst e; rw [hd] at hdi; cases hdi
    rw [chunk_other hvl hle hia,setAt_other hia];exact h7 _ _ _ (h.qv i hi hdi)
theorem CE5.setD (h:CE5 H X b ro rd ve E cells w dn) (hr:H.size ≤ rd) (n1:b ≠ rd) (n2:ro ≠ rd) {a:Nat} (ha:a < dn.length) (hq:QV X (.agg ⟨(cells.drop (a * 4)).take 4⟩) (w.getD a 0) 840) :
    ∃ Y,aStore Tryz.prog X 4 (.pointer (some ⟨rd,a,none⟩)) (.bool true) = some Y ∧ CE5 H Y b ro rd ve E cells w (dn.set a true):=by
  obtain ⟨Y,h1,h2,h3,h4,h5,h6⟩:=storeB h.od true ha;refine ⟨Y,h1,h6 H h.keep hr,h5 _ _ _ n1 h.ob,h4 _ _ _ h.qe,h5 _ _ _ n2 h.oo,h3,by rw [List.length_set]; exact h.len,h.no,fun i hi hd => ?_⟩
  rw [List.length_set] at hi
  by_cases hia:i = a
  · subst hia; exact h4 _ _ _ hq
  · rw [setAt_other hia] at hd;exact h4 _ _ _ (h.qv i hi hd)
theorem CE5.setE (h:CE5 H X b ro rd ve E cells w dn) (hL:X.low ≤ X.size) (hr:H.size ≤ b) (n2:ro ≠ b) (n3:rd ≠ b) {v:Value} {z:Int} (hv:QV X v z 840) :
    ∃ Xa Y,aStore Tryz.prog (X.relow X.size) 53 (.pointer (some ⟨b,0,none⟩)) v = some Xa ∧ Xa.relow (Nat.min X.low Xa.low) = Y ∧ Y.low ≤ Y.size ∧ CE5 H Y b ro rd v z cells w dn:=by
  obtain ⟨Xa,Y,h1,h2,h3,h4,h5,h6,h7,h8⟩:=storeQD h.keep hr hL h.ob h.qe.shape.2 hv;exact ⟨Xa,Y,h1,h2,h5,h3,h6,h7 _ _ _ hv,h8 _ _ _ n2 h.oo,h8 _ _ _ n3 h.od,h.len,h.no,fun i hi hd => h7 _ _ _ (h.qv i hi hd)⟩
def AtI (C:List Int) (dn:List Bool) (k:Nat) (at':Int):Prop:=
  (at' = -1 ∧ ∀ j,j < k → dn.getD j false = true) ∨ ∃ a:Nat,at' = (a:Int) ∧ a < k ∧ dn.getD a false = false ∧ ∀ j,j < k → dn.getD j false = false → C.getD a 0 ≤ C.getD j 0
theorem AtI.skip {C:List Int} {k:Nat} {at':Int} (h:AtI C dn k at') (hd:dn.getD k false = true):AtI C dn (k + 1) at':=by
  rcases h with ⟨h1,h2⟩ | ⟨a,h1,h2,h3,h4⟩
  · exact .inl ⟨h1,fun j hj => by
      rcases Nat.lt_or_ge j k with h | h
      · exact h2 j h
      · rw [show j = k by omega]; exact hd⟩
  · exact .inr ⟨a,h1,by omega,h3,fun j hj hjd => by
      rcases Nat.lt_or_ge j k with h | h
      · exact h4 j h hjd
      · rw [show j = k by omega,hd] at hjd; cases hjd⟩
theorem AtI.first {C:List Int} {k:Nat} (h:∀ j,j < k → dn.getD j false = true) (hd:dn.getD k false = false):AtI C dn (k + 1) (k:Int):=.inr ⟨k,rfl,by omega,hd,fun j hj hjd => by
  rcases Nat.lt_or_ge j k with h1 | h1
  · rw [h j h1] at hjd; cases hjd
  · rw [show j = k by omega]; exact Int.le_refl _⟩
theorem AtI.take {C:List Int} {k a:Nat} (h3:dn.getD k false = false) (h4:∀ j,j < k → dn.getD j false = false → C.getD a 0 ≤ C.getD j 0) (hlt:C.getD k 0 ≤ C.getD a 0):AtI C dn (k + 1) (k:Int):=.inr ⟨k,rfl,by omega,h3,fun j hj hjd => by
  rcases Nat.lt_or_ge j k with h | h
  · have:=h4 j h hjd; omega
  · rw [show j = k by omega]; exact Int.le_refl _⟩
theorem AtI.stay {C:List Int} {k a:Nat} (h2:a < k) (h3:dn.getD a false = false) (h4:∀ j,j < k → dn.getD j false = false → C.getD a 0 ≤ C.getD j 0) (hlt:C.getD a 0 ≤ C.getD k 0):AtI C dn (k + 1) (a:Int):=.inr ⟨a,rfl,by omega,h3,fun j hj hjd => by
  rcases Nat.lt_or_ge j k with h | h
  · exact h4 j h hjd
  · rw [show j = k by omega]; exact hlt⟩
theorem sgn3_lt {x y:Int}:sgn3 (x * 840) (y * 840) < 0 ↔ x < y:=by
  rw [sgn3_mul (by omega)]
  unfold sgn3;split
  · omega
  · split <;> omega

variable {S:AM.Sys} (hS:Only S 5)
include hS

set_option maxHeartbeats 8000000 in
theorem rEqual_runs (v0 v1:Value) (E0:Int) (C:List Int) (r1 o1:Nat) (H:Heap) (hg:Grp H) (hL:H.low ≤ H.size) (hE:QV H v0 E0 840) (h1:SlE (qdE 840) H v1 C r1 o1) (hn:C.length ≤ 7) (hC:∀ i,i < C.length → (0 ≤ C.getD i 0 ∧ C.getD i 0 % 420 = 0) ∧ C.getD i 0 ≤ 84000000)
    (hE0:0 ≤ E0 ∧ E0 ≤ C.sum ∧ E0 ≤ 1000000000) (hE4:E0 % 420 = 0):∃ w,EqOut C E0 w ∧ QsOut S 27 [v0,v1] H 840 w:=by
  suffices h:WCall Tryz.prog S (.fn 27) [v0,v1] H (fun u H' => ∃ w r o,EqOut C E0 w ∧ Keep H H' ∧ Grp H' ∧ SlE (qdE 840) H' u w r o) by
    obtain ⟨u,H',hr,w,r,o,h1,h2,h3,h4⟩:=h; exact ⟨w,h1,H',u,r,o,h2,h3,h4,hr⟩
  obtain ⟨a,cp,rfl⟩:=h1.v0;obtain ⟨s1,a1,n1,c1,s2,a2,n2,c2,rfl⟩:=hE.agg;obtain ⟨H1,b1,hK1,hs1,zz1,hr1⟩:=box1 H [.bool s1,.slice a1 n1 c1,.bool s2,.slice a2 n2 c2] 53;have ow1:Own H1 H.size 53 [.bool s1,.slice a1 n1 c1,.bool s2,.slice a2 n2 c2]:=(b1 ▸ Own.new H _ _);have hmx:Go.maxLen = 9223372036854775807:=rfl;have hob:=mkQ H1 (l:=(C.length:Int)) (by omega) (by omega)
  obtain ⟨cells,mk2,cl2,no2,sh2⟩:=hob;rw [Int.toNat_natCast] at mk2 cl2 sh2;obtain ⟨H2,e2⟩:∃ H2,H2 = H1.newExact cells 53:=⟨_,rfl⟩;have hK2:Keep H1 H2:=by rw [e2]; exact Keep.newExact _ _ _
  have ow2:Own H2 H1.size 53 cells:=by rw [e2]; exact Own.new _ _ _
  have zz2:H2.size = H1.size + 1:=by rw [e2,size_new]
  rw [← e2] at mk2;have mk3:=mkB H2 (l:=(C.length:Int)) (by omega) (by omega)
  rw [Int.toNat_natCast] at mk3;obtain ⟨H3,e3⟩:∃ H3,H3 = H2.newExact ((List.replicate C.length false).map fun z => Value.bool z) 4:=⟨_,rfl⟩
  have hK3:Keep H2 H3:=by rw [e3]; exact Keep.newExact _ _ _
  have ow3:Own H3 H2.size 4 ((List.replicate C.length false).map fun z => Value.bool z):=by rw [e3]; exact Own.new _ _ _
  have zz3:H3.size = H2.size + 1:=by rw [e3,size_new]
  rw [← e3] at mk3;have kk3:=(hK1.trans hK2).trans hK3;have hc1:(Value.agg ⟨[.bool s1,.slice a1 n1 c1,.bool s2,.slice a2 n2 c2]⟩).cells.toList = [.bool s1,.slice a1 n1 c1,.bool s2,.slice a2 n2 c2]:=rfl;have ce:CE5 H H3 H.size H1.size H2.size (.agg ⟨[.bool s1,.slice a1 n1 c1,.bool s2,.slice a2 n2 c2]⟩) E0 cells (List.replicate C.length 0) (List.replicate C.length false):=
    ⟨kk3,(ow1.keep hK2).keep hK3,hE.keep kk3,ow2.keep hK3,ow3,by rw [cl2,List.length_replicate],no2,fun i _ hd => by rw [getD_replF] at hd; cases hd⟩
  have eq:=EqI.start hE0.1 hE4 (C:=C);have q1:H.size ≠ H1.size:=by omega
  have q2:H.size ≠ H2.size:=by omega
  have q3:H1.size ≠ H2.size:=by omega
  have q4:H.size ≤ H1.size:=by omega
  have q5:H.size ≤ H2.size:=by omega
  refine Zaaw Tryz.func27 rfl (Nat.le_of_ble_eq_true rfl) (hS.no rfl _ _) ?_
  rw [Tryz.ntmps27,Tryz.results27];clear e2 e3 hK1 hK2 hK3 ow1 ow2 ow3 zz1 zz2 zz3 kk3 hr1 cl2 no2 sh2 hs1 hE
  repeat' (first | simp only [↓Zabp,↓Zabr,↓Zaaf,↓Zabm,↓Zabq,↓Zacj,↓Zaci,↓Zaco,↓Zaaq,↓Zaaj,↓bxOp_box,↓bxOp_makeSlice,↓Zaao,↓bxPut,↓Zabk,↓Zabi,↓Zacm,↓Zacn,↓Zacp,↓Zaba,↓Zaay,Zack,Zabg,↓reduceIte,Nat.reduceEqDiff,Nat.reduceLT, *,argF,List.getD_cons_zero,List.getD_cons_succ,lenQ])
  refine sxL_of (fun k ρ X => ∃ (m:Nat) (E:Int) (ve:Value) (cells:List Value) (w:List Int) (dn:List Bool),k = m ∧ CE5 H X H.size H1.size H2.size ve E cells w dn ∧ EqI C E0 m E w dn ∧ ρ 1 = .slice a C.length cp ∧ ρ 2 = .pointer (some ⟨H.size,0,none⟩) ∧ ρ 5 = .slice (some ⟨H1.size,0,none⟩) C.length C.length ∧ ρ 6 = .slice (some ⟨H2.size,0,none⟩) C.length C.length ∧ ρ 7 = .int .i64 (m:Int))
    ⟨C.length,E0,_,cells,_,_,rfl,ce,eq,rfl,rfl,rfl,rfl,rfl⟩ ?_
  clear ce eq mk2 mk3 b1 hc1 cells;rintro m ρ X ⟨m',E,ve,cells,w,dn,rfl,ce,eq,e1,e2,e5,e6,e7⟩;have hLX:=ce.keep.low hL;have gX:=ce.keep.grp hg;rcases Nat.eq_zero_or_pos m with hm | hm
  · subst hm;have hm0:¬ (0:Int) < ((0:Nat):Int):=by omega
    have hd:=eq.done (fun i hi => ⟨(hC i hi).1.1,(hC i hi).2⟩) hE0.2.1
    have hpost:∃ w r o,EqOut C E0 w ∧ Keep H X ∧ Grp X ∧ SlE (qdE 840) X (.slice (some ⟨H1.size,0,none⟩) C.length C.length) w r o:=by
      refine ⟨w,H1.size,0,hd,ce.keep,gX,⟨_,_,by rw [hd.1],fun _ => rfl⟩,fun i hi => ?_,fun _ => ce.oo.lt,by rw [hd.1]; omega⟩
      rw [hd.1] at hi;refine ⟨_,ce.oo.read (o:=0 + i * 4) (n:=4) (by rw [ce.len,eq.dl]; omega),?_⟩
      rw [Nat.zero_add];exact ce.qv i (by rw [eq.dl]; exact hi) (opn_zero eq.cnt (by rw [eq.dl]; exact hi))
    clear ce eq hC hE0 hd h1 gX
    repeat' (first | simp only [↓Zabs,↓Zabn,↓Zabp,↓Zabr,↓Zaae,↓Zaaf,↓Zabm,↓Zabo,↓Zacj,↓Zaci,↓Zacd,↓Zaag,↓Zacb,↓sxDL_alloc,↓Zaca,↓Zabz,↓Zaco,↓Zaaq,↓Zaaj,↓Zaah,↓Zaap,↓Zaas,↓Zaak,↓Zaan,↓Zaat,↓Zacl,↓bxPut,↓Zabk,↓Zabj,↓Zaad,↓Zaac,↓Zabf,↓Zabe,↓Zacp,↓Zaba,↓Zaay,↓Zaaz,Zack,Zaab,Zabd,Zabt,Zacg,List.nil_append,↓reduceIte,Nat.reduceEqDiff,Nat.reduceLT,dec_F, *] | (with_reducible first | refine Zabv (by assumption) (by decide +kernel) ?_ | refine Zabu (by decide +kernel) ?_ | refine Zacc (by decide +kernel) ?_ | refine Zabx ?_))
  obtain ⟨m,rfl⟩:∃ j,m = j + 1:=⟨m - 1,by omega⟩
  have hm7:m < 7:=by
    have h2:opn dn ≤ dn.length:=List.countP_le_length;rw [eq.cnt,eq.dl] at h2;omega
  have hm0:(0:Int) < ((m + 1:Nat):Int):=by omega
  have hob:=eq.part hm7;obtain ⟨hp,hp0⟩:=hob;obtain ⟨p,hpe⟩:∃ p,p = E / ((m + 1:Nat):Int):=⟨_,rfl⟩;rw [← hpe] at hp hp0;have hEb:E ≤ 1000000000:=by have:=eq.e1; omega
  have hE0':=eq.e0;have hpb:p ≤ 1000000000:=by
    have:p * 1 ≤ p * ((m + 1:Nat):Int):=Int.mul_le_mul_of_nonneg_left (by omega) hp0
    omega
  clear hpe;have lde:=own_ldQ ce.ob ce.qe;have hr:=Keep.relowS X;have hob:=drawnQ hLX (Frac_any hS ((m + 1:Nat):Int) 1 (X.relow X.size) (hr.grp gX) (Nat.le_refl _) (by omega) (by omega) (by omega))
  obtain ⟨vm,Xa,Xb,kb,lb,f1,fd1,qm⟩:=hob;have hr2:=Keep.relowS Xb;have sE:Sml E:=⟨by omega,by omega⟩
  have s8:Sml 840:=⟨by omega,by omega⟩
  have s1':Sml 1:=⟨by omega,by omega⟩
  have sM:Sml ((m + 1:Nat):Int):=⟨by omega,by omega⟩
  have hob:=drawnQ lb (Div_all hS ve vm E 840 ((m + 1:Nat):Int) 1 (Xb.relow Xb.size) (hr2.grp (kb.grp gX)) (Nat.le_refl _) (ce.qe.keep kb).addr qm.addr (by omega) (by omega) sE.lt s8.lt' sM.lt s1'.lt' hm0)
  obtain ⟨vp,Xc,Xd,kd,ld,f2,fd2,qp⟩:=hob;have qp:=qp.as (n2:=p) (d2:=840) (Int.mul_pos (by omega) hm0) (by rw [← hp]; ac_rfl)
  have hob:=allocQD ld;obtain ⟨Xe,Xf,al,fd3,kf,lf,owp,zf⟩:=hob;have ce1:=(ce.more kb).more (kd.trans kf);have alp:aAlloc Tryz.prog (Xd.relow Xd.size) 53 = some (.pointer (some ⟨Xd.size,0,none⟩),Xe):=by rw [alQ,al]; rfl
  have lod:=ce.od.lt;have sXd:=Nat.le_trans kb.size kd.size;have u1:H.size ≠ Xd.size:=by omega
  have u2:H1.size ≠ Xd.size:=by have:=ce.oo.lt; omega
  have u3:H2.size ≠ Xd.size:=by omega
  have hob:=storeQD ce1.keep (by omega) lf owp QShape.empty (qp.keep kf)
  obtain ⟨Xg,Xh,st4,rl4,kh,_,lh,owp2,qk4,ot4⟩:=hob;have ce2:=ce1.upd kh ot4 qk4 u1 u2 u3;have qp2:=qk4 _ _ _ (qp.keep kf);clear ce1 owp qk4 ot4 kb kd kf qm sE s8 s1' sM hr hr2 gX ce lod sXd zf
  repeat' (first | simp only [↓Zabs,↓Zabn,↓Zabp,↓Zabr,↓Zaae,↓Zaaf,↓Zabm,↓Zabo,↓Zacj,↓Zaci,↓Zacd,↓Zaag,↓Zacb,↓sxDL_alloc,↓Zaca,↓Zabz,↓sxD_same,↓Zaco,↓Zaaq,↓Zaaj,↓Zaah,↓Zaap,↓Zaas,↓Zaak,↓Zaan,↓Zaat,↓Zacl,↓bxPut,↓Zabk,↓Zabj,↓Zaad,↓Zaac,↓Zabf,↓Zabe,↓Zacp,↓Zaba,↓Zaay,↓Zaaz,Zack,Zaab,Zabd,Zabt,Zach,List.map_cons,List.map_nil,List.nil_append,List.append_nil,↓reduceIte,Nat.reduceEqDiff,Nat.reduceLT,dec_T,Zaaa, *] | (with_reducible first | refine Zabv (by assumption) (by decide +kernel) ?_ | refine Zabu (by decide +kernel) ?_ | refine Zacc (by decide +kernel) ?_ | refine Zabx ?_))
  refine sxL_of (fun k' ρ V => ∃ (k:Nat) (at':Int),k' = C.length - k ∧ k ≤ C.length ∧ CE5 H V H.size H1.size H2.size ve E cells w dn ∧ Own V Xd.size 53 vp.cells.toList ∧ QV V vp p 840 ∧ AtI C dn k at' ∧ ρ 1 = .slice a C.length cp ∧ ρ 2 = .pointer (some ⟨H.size,0,none⟩) ∧ ρ 5 = .slice (some ⟨H1.size,0,none⟩) C.length C.length ∧ ρ 6 = .slice (some ⟨H2.size,0,none⟩) C.length C.length ∧ ρ 7 = .int .i64 ((m + 1:Nat):Int) ∧
      ρ 8 = .pointer (some ⟨Xd.size,0,none⟩) ∧ ρ 9 = .int .i64 at' ∧ ρ 10 = .int .i64 (k:Int))
    ⟨0,-1,rfl,Nat.zero_le _,ce2,owp2,qp2,.inl ⟨rfl,fun j hj => absurd hj (Nat.not_lt_zero j)⟩,e1,e2,e5,e6,e7,rfl,rfl,rfl⟩ ?_
  clear ce2 owp2 qp2 e1 e2 e5 e6 e7 f1 f2 fd1 fd2 fd3 al alp st4 rl4 lde kh lh lb ld lf hLX ρ;rintro k' ρ V ⟨k,at',rfl,hk,ce,owp,qp,hat,e1,e2,e5,e6,e7,e8,e9,e10⟩;have hLV:=ce.keep.low hL;have gV:=ce.keep.grp hg
  by_cases hlt:k < C.length
  · have hlt':(k:Int) < (C.length:Int):=by omega
    have hw:=wrap_succ hlt h1.ml;have hix:aIndexAt Tryz.prog 90 (.slice (some ⟨H2.size,0,none⟩) C.length C.length) (.int .i64 (k:Int)) = some (.pointer (some ⟨H2.size,k,none⟩)):=by
      rw [ixB,if_pos ⟨by omega,hlt'⟩,Int.toNat_natCast,Nat.mul_one,Nat.zero_add]
    have hrd:=readB ce.od (k:=k) (by rw [eq.dl]; exact hlt)
    have hgd:∃ z,z = dn.getD k false:=⟨_,rfl⟩;obtain ⟨z,hz⟩:=hgd;rw [← hz] at hrd;cases z with
    | true =>
      have hat2:=hat.skip hz.symm;clear hat hz
      repeat' (first | simp only [↓Zabs,↓Zabn,↓Zabp,↓Zabr,↓Zaae,↓Zabm,↓Zabo,↓Zacj,↓Zaci,↓Zacd,↓Zaag,↓Zacb,↓sxDL_pick,↓Zaca,↓Zabw,↓sxDL_unOp,↓Zabz,↓sxD_same,↓Zaco,↓Zaav,↓Zaaq,↓Zaaj,↓Zaar,↓Zaap,↓Zaak,↓bxOp_un,↓Zaan,↓Zaat,↓Zaao,↓bxPut,↓Zabk,↓Zabj,↓Zaad,↓Zaac,↓Zabf,↓Zabe,↓Zacp,↓Zaba,↓Zaay,↓Zaaz,↓dstAt,↓Zabc,Zack,Zaab,Zabd,una_nt,aPick_false,Zabt,sxGuardB_u,sxGuardB_tf,Zach,Zacg,List.nil_append,↓reduceIte,Nat.reduceEqDiff,Nat.reduceLT,dec_T,true_and,Zaaa,one1,Option.bind_some, *,lenQ,ldBo] | (with_reducible first | refine Zabv (by assumption) (by decide +kernel) ?_ | refine Zabu (by decide +kernel) ?_ | refine Zacc (by decide +kernel) ?_ | refine Zabx ?_))
      exact ⟨C.length - (k + 1),by omega,k + 1,at',rfl,by omega,hat2,rfl,rfl⟩
    | false =>
      rcases hat with ⟨rfl,h2⟩ | ⟨a9,rfl,h2,h3,h4⟩
      · have hat2:=AtI.first (C:=C) h2 hz.symm;have dm:decide ((-1:Int) < 0) = true:=rfl;clear h2 hz
        repeat' (first | simp only [↓Zabs,↓Zabn,↓Zabp,↓Zabr,↓Zaae,↓Zabm,↓Zabo,↓Zacj,↓Zaci,↓Zacd,↓Zaag,↓Zacb,↓sxDL_pick,↓Zaca,↓Zabw,↓sxDL_unOp,↓Zabz,↓sxD_same,↓Zaco,↓Zaav,↓Zaaq,↓Zaaj,↓Zaar,↓Zaap,↓Zaak,↓bxOp_un,↓Zaan,↓Zaat,↓Zaao,↓bxPut,↓Zabk,↓Zabj,↓Zaad,↓Zaac,↓Zabf,↓Zabe,↓Zacp,↓Zaba,↓Zaay,↓Zaaz,↓dstAt,↓Zabc,Zack,Zaab,Zabd,una_nf,aPick_true,Zabt,sxGuardB_tt,sxGuardB_ft,Zach,List.nil_append,↓reduceIte,Nat.reduceEqDiff,Nat.reduceLT,dec_T,true_and,Zaaa,one1,Option.bind_some, *,lenQ,ldBo] | (with_reducible first | refine Zabv (by assumption) (by decide +kernel) ?_ | refine Zabu (by decide +kernel) ?_ | refine Zacc (by decide +kernel) ?_ | refine Zabx ?_))
        exact ⟨C.length - (k + 1),by omega,k + 1,(k:Int),rfl,by omega,hat2,rfl,rfl⟩
      · have dm:decide ((a9:Int) < 0) = false:=decide_eq_false (by omega)
        have hob:=qd_at (h1.keep ce.keep) hlt;obtain ⟨x,px,ix1,ld1,qx,_⟩:=hob;have hob:=qd_at (h1.keep ce.keep) (i:=a9) (by omega)
        obtain ⟨y,py,ix2,ld2,qy,_⟩:=hob;have hr:=Keep.relowS V;have hob:=drawn hLV (Cmp_all hS x y _ 840 _ 840 (V.relow V.size) (hr.grp gV) (Nat.le_refl _) qx.addr qy.addr (by omega) (by omega))
        obtain ⟨Va,Vb,kb,lb,f1,fd1⟩:=hob;have ce2:=ce.more kb;have owp2:=owp.keep kb;have qp2:=qp.keep kb
        by_cases hcc:C.getD k 0 < C.getD a9 0
        · have d1:decide (sgn3 (C.getD k 0 * 840) (C.getD a9 0 * 840) < 0) = true:=decide_eq_true (sgn3_lt.2 hcc);have hat2:=AtI.take (C:=C) hz.symm h4 (by omega)
          clear h4 hcc hz ce owp qp kb hr qx qy gV hE0 h2 h3
          repeat' (first | simp only [↓Zabs,↓Zabn,↓Zabp,↓Zabr,↓Zaae,↓Zabm,↓Zabo,↓Zacj,↓Zaci,↓Zacd,↓Zaag,↓Zacb,↓sxDL_pick,↓Zaca,↓Zabw,↓sxDL_unOp,↓Zabz,↓sxD_same,↓Zaco,↓Zaav,↓Zaaq,↓Zaaj,↓Zaar,↓Zaap,↓Zaak,↓bxOp_un,↓Zaan,↓Zaat,↓Zaao,↓bxPut,↓Zabk,↓Zabj,↓Zaad,↓Zaac,↓Zabf,↓Zabe,↓Zacp,↓Zaba,↓Zaay,↓Zaaz,↓dstAt,↓Zabc,Zack,Zaab,Zabd,una_nf,aPick_true,aPick_false,Zabt,sxGuardB_tt,sxGuardB_ff,Zach,List.map_cons,List.map_nil,List.nil_append,List.append_nil,↓reduceIte,Nat.reduceEqDiff,Nat.reduceLT,dec_T,true_and,Zaaa,one1,Option.bind_some, *,lenQ,ldBo] | (with_reducible first | refine Zabv (by assumption) (by decide +kernel) ?_ | refine Zabu (by decide +kernel) ?_ | refine Zacc (by decide +kernel) ?_ | refine Zabx ?_))
          exact ⟨C.length - (k + 1),by omega,k + 1,(k:Int),rfl,by omega,hat2,rfl,rfl⟩
        · have d1:decide (sgn3 (C.getD k 0 * 840) (C.getD a9 0 * 840) < 0) = false:=decide_eq_false (fun h => hcc (sgn3_lt.1 h))
          have hat2:=AtI.stay (C:=C) h2 h3 h4 (by omega)
          clear h4 hcc hz ce owp qp kb hr qx qy gV hE0 h2 h3
          repeat' (first | simp only [↓Zabs,↓Zabn,↓Zabp,↓Zabr,↓Zaae,↓Zabm,↓Zabo,↓Zacj,↓Zaci,↓Zacd,↓Zaag,↓Zacb,↓sxDL_pick,↓Zaca,↓Zabw,↓sxDL_unOp,↓Zabz,↓sxD_same,↓Zaco,↓Zaav,↓Zaaq,↓Zaaj,↓Zaar,↓Zaap,↓Zaak,↓bxOp_un,↓Zaan,↓Zaat,↓Zaao,↓bxPut,↓Zabk,↓Zabj,↓Zaad,↓Zaac,↓Zabf,↓Zabe,↓Zacp,↓Zaba,↓Zaay,↓Zaaz,↓dstAt,↓Zabc,Zack,Zaab,Zabd,una_nf,aPick_true,aPick_false,Zabt,sxGuardB_tt,sxGuardB_ff,Zach,Zacg,List.map_cons,List.map_nil,List.nil_append,List.append_nil,↓reduceIte,Nat.reduceEqDiff,Nat.reduceLT,dec_T,true_and,Zaaa,one1,Option.bind_some, *,lenQ,ldBo] | (with_reducible first | refine Zabv (by assumption) (by decide +kernel) ?_ | refine Zabu (by decide +kernel) ?_ | refine Zacc (by decide +kernel) ?_ | refine Zabx ?_))
          exact ⟨C.length - (k + 1),by omega,k + 1,(a9:Int),rfl,by omega,hat2,rfl,rfl⟩
  have hlt':¬ (k:Int) < (C.length:Int):=by omega
  have hke:k = C.length:=Nat.le_antisymm hk (Nat.not_lt.1 hlt);rw [hke] at hat;have hob:0 < opn dn:=by rw [eq.cnt]; omega
  have hob:=opn_pos hob;obtain ⟨i0,hi0,hd0⟩:=hob;rw [eq.dl] at hi0;rcases hat with ⟨_,h2⟩ | ⟨a9,rfl,h2,h3,h4⟩
  · rw [h2 i0 hi0] at hd0; cases hd0
  clear hke hlt hi0 hd0;have ha9:a9 < dn.length:=by rw [eq.dl]; exact h2
  have ldp:=own_ldQ owp qp;have hob:=qd_at (h1.keep ce.keep) (i:=a9) (by omega)
  obtain ⟨x,px,ix1,ld1,qx,_⟩:=hob;have hr:=Keep.relowS V;have hob:=drawnQ hLV (rLesser_runs hS x vp _ p 840 (V.relow V.size) (hr.grp gV) (Nat.le_refl _) qx.addr qp.addr (by omega))
  obtain ⟨y,Va,Vb,kb,lb,f1,fd1,qy⟩:=hob;have hob:=(ce.more kb).setO lb q4 q1 (Ne.symm q3) ha9 h3 qy;obtain ⟨Vc,Vd,st2,rl2,ld2,ce2,qy2,hch⟩:=hob;have hixo:aIndexAt Tryz.prog 37 (.slice (some ⟨H1.size,0,none⟩) C.length C.length) (.int .i64 (a9:Int)) = some (.pointer (some ⟨H1.size,a9 * 4,none⟩)):=by
    rw [ixQ,if_pos ⟨by omega,by omega⟩,Int.toNat_natCast,Nat.zero_add]
  have hixd:aIndexAt Tryz.prog 90 (.slice (some ⟨H2.size,0,none⟩) C.length C.length) (.int .i64 (a9:Int)) = some (.pointer (some ⟨H2.size,a9,none⟩)):=by
    rw [ixB,if_pos ⟨by omega,by omega⟩,Int.toNat_natCast,Nat.mul_one,Nat.zero_add]
  have hset:(w.set a9 (min (C.getD a9 0) p)).getD a9 0 = min (C.getD a9 0) p:=setAt_same (by rw [eq.wl]; exact h2)
  have hyv:y = .agg ⟨y.cells.toList⟩:=qy.shape.1;have hob:=ce2.setD q5 q2 q3 ha9 (by rw [hset,hch,← hyv]; exact qy2)
  obtain ⟨Ve,st3,ce3⟩:=hob;have hLe:=ce3.keep.low hL;have gE:=ce3.keep.grp hg;have lde2:=own_ldQ ce3.ob ce3.qe;have qy3:=ce3.qv a9 (by rw [List.length_set]; exact ha9) (setAt_same ha9)
  rw [hset,hch,← hyv] at qy3;have ldo:aLoad Tryz.prog Ve 53 (.pointer (some ⟨H1.size,a9 * 4,none⟩)) = some y:=by
    rw [ldQ,ce3.oo.read (o:=a9 * 4) (n:=4) (by rw [ce3.len,List.length_set]; omega),hch,Option.map_some,← hyv]
  have hnx:0 ≤ min (C.getD a9 0) p ∧ min (C.getD a9 0) p ≤ 1000000000:=by have:=hC a9 h2; omega
  have hob:=subQD hS ve y E _ 840 Ve gE hLe ce3.qe qy3 (by omega) ⟨by omega,by omega⟩ ⟨by omega,by omega⟩
  obtain ⟨y4,Vf,Vg,kg,lg,f4,fd4,qy4⟩:=hob;have hob:=(ce3.more kg).setE lg (Nat.le_refl _) (Ne.symm q1) (Ne.symm q2) qy4;obtain ⟨Vh,Vi,st5,rl5,li,ce5⟩:=hob;have eq5:=eq.step hp hp0 (fun i hi => (hC i hi).1) h2 h3 h4
  have hwm:IntKind.i64.wrap (((m + 1:Nat):Int) - 1) = ((m:Nat):Int):=by rw [IntWalk.i64_in _ (by omega)]; omega
  clear ce ce2 ce3 hch hset hyv qy qy2 qy3 qy4 qx qp owp kb kg hr gV gE h3 h4 hC hE0 hE0' hEb hp hp0 hpb hnx h1 eq
  repeat' (first | simp only [↓Zabs,↓Zabn,↓Zabp,↓Zabr,↓Zaae,↓Zabm,↓Zabo,↓Zacj,↓Zaci,↓Zacd,↓Zaag,↓Zacb,↓sxDL_pick,↓Zaca,↓Zabw,↓sxDL_unOp,↓Zabz,↓sxD_same,↓Zaco,↓Zaav,↓Zaaq,↓Zaaj,↓Zaar,↓Zaap,↓Zaak,↓bxOp_un,↓Zaan,↓Zaat,↓Zaao,↓bxPut,↓Zabk,↓Zabj,↓Zaad,↓Zaac,↓Zabf,↓Zabe,↓Zacp,↓Zaba,↓Zaay,↓Zaaz,↓dstAt,↓Zabc,Zack,Zaab,Zabd,Zabt,Zacg,List.map_cons,List.map_nil,List.nil_append,List.append_nil,↓reduceIte,Nat.reduceEqDiff,Nat.reduceLT,dec_F,true_and,Zaaa, *,lenQ] | (with_reducible first | refine Zabv (by assumption) (by decide +kernel) ?_ | refine Zabu (by decide +kernel) ?_ | refine Zacc (by decide +kernel) ?_ | refine Zabx ?_))
  exact ⟨m,Nat.lt_succ_self m,m,_,y4,_,_,_,rfl,ce5,eq5,rfl⟩
end Go.Proofs.YtpeoleimmabceaaGreat
