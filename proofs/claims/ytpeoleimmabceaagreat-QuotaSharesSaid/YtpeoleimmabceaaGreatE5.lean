/- Equal shares, by the program. -/
import Derived.Test.YtpeoleimmabceaaGreatSBx
set_option linter.unusedVariables false
set_option linter.unusedSimpArgs false
set_option linter.unusedSectionVars false

namespace Go.Proofs.YtpeoleimmabceaaGreat
open Go Go.AM
set_option maxRecDepth 10000

def PV (H0 H:Heap) (u:Value) (w:List Int) (d:Int):Prop:=∃ v r,u = .agg ⟨[v,.int .i64 d]⟩ ∧ SlI .i64 H v w r 0 ∧ H0.size ≤ r
theorem PV.keep {H0 H H':Heap} {u:Value} {w:List Int} {d:Int} (h:PV H0 H u w d) (hk:Keep H H'):PV H0 H' u w d:=by
  obtain ⟨v,r,h1,h2,h3⟩:=h;exact ⟨v,r,h1,h2.keep hk,h3⟩
theorem PV.low {H0 H1 H:Heap} {u:Value} {w:List Int} {d:Int} (h:PV H1 H u w d) (hs:H0.size ≤ H1.size):PV H0 H u w d:=by
  obtain ⟨v,r,h1,h2,h3⟩:=h;exact ⟨v,r,h1,h2,Nat.le_trans hs h3⟩
theorem list_is {n:Nat} {u:List Int} (f:Nat → Int) (hn:u.length = n) {w:List Int} (hw:w.length = n) (h1:∀ i,i < n → u.getD i 0 = f i) (h2:∀ i,i < n → w.getD i 0 = f i):u = w:=by
  apply List.ext_getElem?;intro i
  by_cases hi:i < n
  · have e1:=h1 i hi;have e2:=h2 i hi;rw [List.getD_eq_getElem?_getD,List.getElem?_eq_getElem (by omega),Option.getD_some] at e1 e2
    rw [List.getElem?_eq_getElem (by omega),List.getElem?_eq_getElem (by omega),e1,e2]
  · rw [List.getElem?_eq_none (by omega),List.getElem?_eq_none (by omega)]
theorem map_getD {w:List Int} {f:Int → Int} {i:Nat} (hi:i < w.length):(w.map f).getD i 0 = f (w.getD i 0):=by
  rw [List.getD_eq_getElem?_getD,List.getD_eq_getElem?_getD,List.getElem?_map,List.getElem?_eq_getElem hi]; rfl
theorem stI1 {H0 H:Heap} {r:Nat} {w:List Int} (hk:Keep H0 H) (hr:H0.size ≤ r) (ow:Own H r 3 (w.map fun z => .int .i64 z)) (z:Int) {o:Nat} (ho:o < w.length) :
    ∃ Ha,aStore Tryz.prog H 3 (.pointer (some ⟨r,o,none⟩)) (.int .i64 z) = some Ha ∧ Keep H0 Ha ∧ Ha.size = H.size ∧ Own Ha r 3 ((w.set o z).map fun z => .int .i64 z) ∧ (∀ r' e' c',r' ≠ r → Own H r' e' c' → Own Ha r' e' c'):=by
  obtain ⟨i,_,hi,hs,_⟩:=infoI;obtain ⟨Ha,h1,h2,h3,h4,h5⟩:=ow.store (t:=3) hi (v:=.int .i64 z) (new:=[.int .i64 z]) rfl (hs.trans rfl) rfl (o:=o) (by rw [List.length_map]; exact ho)
  rw [splice_map ho] at h2;exact ⟨Ha,h1,h5 H0 hk hr,h3,h2,h4⟩
structure Eqs (e:Int) (c:List Int) (s L:Int):Prop where
  s1:1 ≤ s
  s2:s ≤ c.length
  l1:0 ≤ L
  l2:L ≤ e
  sum:(c.map fun x => min (x * s) L).sum = e * s
theorem eqs_of {e:Int} {c a:List Int} {k:Nat} {left:Int} (hpm:c.Perm a) (hp:∀ x ∈ a,0 ≤ x) (h:EqSt e a k left) (ha:Asc a) (hb:left ≤ a.getD k 0 * ((a.length - k:Nat):Int)):Eqs e c ((a.length - k:Nat):Int) left:=by
  have hl:=hpm.length_eq;have:=h.lt;have h1:=h.lf;have h2:=(Q.sum_take_le a hp k).1;refine ⟨by omega,by omega,h.nn,by omega,?_⟩
  rw [perm_sum (hpm.map _)];exact h.last ha hb

variable {S:AM.Sys} (hS:Only S 5)
include hS

set_option maxHeartbeats 4000000 in
theorem equal_runs (e:Int) (v:Value) (c:List Int) (r o:Nat) (H:Heap) (hg:Grp H) (hL:H.low ≤ H.size) (hl:SlI .i64 H v c r o) (h0:0 < c.length) (h7:c.length ≤ 7) (hc:∀ x ∈ c,0 ≤ x ∧ x ≤ 100000) (he:0 ≤ e) (hs:e ≤ c.sum) :
    ∃ u H',Runs Tryz.prog S (.fn 38) [.int .i64 e,v] H u H' ∧ Keep H H' ∧ ∃ s L,Eqs e c s L ∧ PV H H' u (c.map fun x => min (x * s) L) s:=by
  suffices h:WCall Tryz.prog S (.fn 38) [.int .i64 e,v] H (fun u H' => Keep H H' ∧ ∃ s L,Eqs e c s L ∧ PV H H' u (c.map fun x => min (x * s) L) s) by
    obtain ⟨u,H',hr,h⟩:=h; exact ⟨u,H',hr,h⟩
  have hml:=hl.ml;have hmx:Go.maxLen = 9223372036854775807:=rfl;have hsm:=Q.sum_le 100000 c fun x hx => (hc x hx).2
  obtain ⟨H1,e1,k1,s1,-,-⟩:=box1 H [.slice none 0 0,.int .i64 0] 26;have ow1:Own H1 H.size 26 [.slice none 0 0,.int .i64 0]:=e1 ▸ Own.new H _ _;have al1:aAlloc Tryz.prog H 26 = some (.pointer (some ⟨H.size,0,none⟩),H1):=by rw [alP,e1]
  obtain ⟨v2,H2,hR2,k2,l2⟩:=cloneI_runs hS v c r o H1 (k1.grp hg) (hl.keep k1) h0 (by omega)
  obtain ⟨u3,H3,a,ra,hR3,k3,sa,hal,hpm,hasc⟩:=sortI_runs hS H1 (k1.low hL) (k1.grp hg) v2 c H2 k2 l2 h0 (by omega)
  have hpa:∀ x ∈ a,0 ≤ x ∧ x ≤ 100000:=fun x hx => hc x (hpm.symm.mem_iff.1 hx)
  have hsa:e ≤ a.sum:=by rw [← perm_sum hpm]; exact hs
  obtain ⟨av,ac,rfl⟩:=sa.v0;obtain ⟨va,vc,rfl⟩:=hl.v0;have f2:=hR2.bx;have f3:=hR3.bx;rw [hal] at f2 f3;have K3:=k1.trans k3;have lw3:=K3.low hL;clear hR2 hR3 l2 k2;refine Zaaw Tryz.func38 rfl (Nat.le_of_ble_eq_true rfl) (hS.no rfl _ _) ?_
  rw [Tryz.ntmps38,Tryz.results38]
  repeat' (first | simp only [↓Zabp,↓Zabr,↓Zaaf,↓Zabm,↓Zabq,↓Zacj,↓Zaci,↓Zaco,↓Zaaq,↓Zaaj,↓Zaah,↓bxOp_build,↓Zaap,↓Zaas,↓bxOp_makeSlice,↓Zaat,↓Zaao,↓Zacl,↓bxPut,↓Zabk,↓Zabi,↓Zacm,↓Zaau,↓Zacp,↓Zaba,↓Zaay,↓Zaaz,Zack,Zabt,Zabg,List.map_cons,List.map_nil,List.nil_append,List.append_nil,↓reduceIte,Nat.reduceEqDiff,Nat.reduceLT, *,argF,List.getD_cons_zero,List.getD_cons_succ,lenI])
  refine sxL_cut 0 (fun ρ H4 => ∃ (k:Nat) (left:Int),EqSt e a k left ∧ left ≤ a.getD k 0 * ((c.length - k:Nat):Int) ∧ H4 = H3 ∧ ρ 1 = .slice va c.length vc ∧ ρ 4 = .pointer (some ⟨H.size,0,none⟩) ∧ ρ 6 = .int .i64 left ∧ ρ 7 = .int .i64 ((c.length - k:Nat):Int))
    (fun m ρ H4 => ∃ (k:Nat) (left:Int),m = c.length - k ∧ EqSt e a k left ∧ H4 = H3 ∧ ρ 1 = .slice va c.length vc ∧ ρ 4 = .pointer (some ⟨H.size,0,none⟩) ∧ ρ 6 = .int .i64 left ∧ ρ 7 = .int .i64 ((c.length - k:Nat):Int) ∧ ρ 20 = .slice av c.length ac ∧ ρ 21 = .int .i64 (c.length:Int) ∧ ρ 22 = .int .i64 (k:Int))
    ⟨0,e,rfl,EqSt.first (by omega) he,rfl,rfl,rfl,rfl,rfl,rfl,rfl,rfl⟩ ?_ ?_
  · clear f2 f3;rintro m ρ H4 ⟨k,left,rfl,hst,rfl,e1',e4,e6,e7,e20,e21,e22⟩;have hkl:k < a.length:=hst.lt;have hkl':k < c.length:=by omega
    have hlt':(k:Int) < (c.length:Int):=by omega
    have hix:=SlI_ix sa hkl;rw [hal] at hix;have hrd:=(sa.rdI hkl).1;have hx:=hpa _ (Zabb (d:=0) hkl);have hwk:=wrap_succ hkl' hml;have hgx:∃ x,x = a.getD k 0:=⟨_,rfl⟩;obtain ⟨x,hxx⟩:=hgx;have hnx:=hst.next hasc (fun x hx => (hpa x hx).1) hsa
    rw [hal] at hnx;rw [← hxx] at hrd hx hnx;have hgn:∃ n:Int,n = ((c.length - k:Nat):Int):=⟨_,rfl⟩;obtain ⟨n,hn⟩:=hgn;have hn7:1 ≤ n ∧ n ≤ 7:=by omega
    have hn1:IntKind.i64.wrap (n - 1) = ((c.length - (k + 1):Nat):Int):=by rw [IntWalk.i64_in _ (by omega)]; omega
    have hm1:0 ≤ x * n:=Int.mul_nonneg hx.1 (by omega)
    have hm2:x * n ≤ 100000 * 7:=Int.mul_le_mul hx.2 hn7.2 (by omega) (by omega)
    have hwm:IntKind.i64.wrap (x * n) = x * n:=IntWalk.i64_in _ (by omega)
    have hlf:=hst.lf;have hst2:=(Q.sum_take_le a (fun x hx => (hpa x hx).1) k).1
    have hwl:IntKind.i64.wrap (left - x) = left - x:=by have:=hst.nn; exact IntWalk.i64_in _ (by omega)
    rw [← hn] at hnx e7;have hn2:n ≤ ((c.length - k:Nat):Int) ∧ ((c.length - k:Nat):Int) ≤ n:=by omega
    by_cases hb:left ≤ x * n
    · have hb2:left ≤ a.getD k 0 * ((c.length - k:Nat):Int):=by rw [← hxx,← hn]; exact hb
      clear hnx sa hl hpa hasc hpm hsa hxx hn hlf hn1
      repeat' (first | simp only [↓Zabs,↓Zabp,↓Zabr,↓Zaae,↓Zabm,↓Zabo,↓Zacj,↓Zaci,↓Zaco,↓Zaaq,↓Zaaj,↓Zaap,↓Zaak,↓Zaan,↓bxPut,↓Zabk,↓Zabj,↓Zaad,↓Zaac,↓Zabf,↓Zabe,↓Zacp,↓Zaba,↓Zaay,cutQ_exit,Zack,Zaab,Zabd,Zach,↓reduceIte,Nat.reduceEqDiff,Nat.reduceLT,dec_T,true_and,one1,Option.bind_some, *,ldI])
      exact ⟨k,left,hst,hb2,rfl,congrArg (Value.int .i64) (by omega)⟩
    · have hnx:=hnx hb;clear sa hl hpa hasc hpm hsa hxx hst hn hlf
      repeat' (first | simp only [↓Zabs,↓Zabp,↓Zabr,↓Zaae,↓Zabm,↓Zabo,↓Zacj,↓Zaci,↓Zaco,↓Zaaq,↓Zaaj,↓Zaap,↓Zaak,↓Zaan,↓bxPut,↓Zabk,↓Zabj,↓Zaad,↓Zaac,↓Zabf,↓Zabe,↓Zacp,↓Zaba,↓Zaay,cutQ_exit,Zack,Zaab,Zabd,Zach,Zacg,↓reduceIte,Nat.reduceEqDiff,Nat.reduceLT,dec_T,dec_F,true_and,one1,Option.bind_some, *,ldI])
      exact ⟨c.length - (k + 1),by omega,k + 1,left - x,rfl,hnx,rfl,rfl,rfl⟩
  · clear f2 f3;rintro ρ H4 ⟨k,left,hst,hb,rfl,e1',e4,e6,e7⟩;have hq:=eqs_of hpm (fun x hx => (hpa x hx).1) hst hasc (by rw [hal]; exact hb)
    rw [hal] at hq;have hgn:∃ n:Int,n = ((c.length - k:Nat):Int):=⟨_,rfl⟩;obtain ⟨n,hn⟩:=hgn;rw [← hn] at hq e7;clear hst hb hn hal sa hpa hsa hasc hpm;have hn1:=hq.s1;have hn2:=hq.s2;have hl1:=hq.l1;have hl2:=hq.l2;have hmk:=mkI H4 (l:=(c.length:Int)) (by omega) (by omega)
    rw [Int.toNat_natCast] at hmk;have o5:=Own.new H4 ((List.replicate c.length (0:Int)).map fun z => .int .i64 z) 3
    have k5:=Keep.newExact H4 ((List.replicate c.length (0:Int)).map fun z => .int .i64 z) 3
    have z5:=size_new H4 ((List.replicate c.length (0:Int)).map fun z => .int .i64 z) 3
    have hg5:∃ H5,H5 = H4.newExact ((List.replicate c.length (0:Int)).map fun z => .int .i64 z) 3:=⟨_,rfl⟩
    obtain ⟨H5,hH5⟩:=hg5;rw [← hH5] at hmk o5 k5 z5;have al6:=alP H5;have o6:=Own.new H5 [.slice none 0 0,.int .i64 0] 26;have k6:=Keep.newExact H5 [.slice none 0 0,.int .i64 0] 26;have z6:=size_new H5 [.slice none 0 0,.int .i64 0] 26;have hg6:∃ H6,H6 = H5.newExact [.slice none 0 0,.int .i64 0] 26:=⟨_,rfl⟩;obtain ⟨H6,hH6⟩:=hg6;rw [← hH6] at al6 o6 k6 z6;have hob:=stP o6 rfl (some ⟨H4.size,0,none⟩) c.length c.length n;obtain ⟨H7,st7,o7,z7,rr7,kk7⟩:=hob;have k47:=kk7 H4 (k5.trans k6) (by omega)
    have hne:H4.size ≠ H5.size:=by omega
    have o57:=rr7 _ _ _ hne (o5.keep k6);have bd6:=bdP2 (some ⟨H4.size,0,none⟩) c.length c.length n;have z17:H1.size ≤ H4.size:=k3.size;clear z5 z6 z7 rr7 kk7 o5 o6 k5 k6 hH5 hH6
    repeat' (first | simp only [↓bxPut,↓Zabk,↓Zaac,↓Zacp,↓Zaba,Zack,List.map_cons,List.map_nil,↓reduceIte,Nat.reduceEqDiff,Nat.reduceLT, *,lenI])
    refine sxL_of (fun m ρ H8 => ∃ (k:Nat) (u:List Int),m = c.length - k ∧ k ≤ c.length ∧ u.length = c.length ∧ (∀ i,i < k → u.getD i 0 = min (c.getD i 0 * n) left) ∧ Keep H4 H8 ∧ Own H8 H4.size 3 (u.map fun z => .int .i64 z) ∧ Own H8 H5.size 26 [.slice (some ⟨H4.size,0,none⟩) c.length c.length,.int .i64 n] ∧
        ρ 4 = .pointer (some ⟨H.size,0,none⟩) ∧ ρ 6 = .int .i64 left ∧ ρ 7 = .int .i64 n ∧ ρ 10 = .pointer (some ⟨H5.size,0,none⟩) ∧ ρ 42 = .slice va c.length vc ∧ ρ 43 = .int .i64 (c.length:Int) ∧ ρ 44 = .int .i64 (k:Int))
      ⟨0,List.replicate c.length 0,rfl,Nat.zero_le _,by simp,(fun i hi => absurd hi (Nat.not_lt_zero i)),k47,o57,o7,e4,e6,e7,rfl,rfl,rfl,rfl⟩ ?_
    clear hmk al6 st7 bd6 k47 o57 o7 e1' e4 e6 e7;rintro m ρ H8 ⟨k,u,rfl,hk,hul,hu,k48,o8,p8,e4,e6,e7,e10,e42,e43,e44⟩;have hk08:=K3.trans k48;have hob:=ownP p8;obtain ⟨y0,y1,y2⟩:=hob
    by_cases hlt:k < c.length
    · have hlt':(k:Int) < (c.length:Int):=by omega
      have hwr:=wrap_succ hlt hml;have hl8:=hl.keep hk08;have hix:=SlI_ix hl8 hlt;have hrd:=(hl8.rdI hlt).1;have hx:=hc _ (Zabb (d:=0) hlt);have hgx:∃ x,x = c.getD k 0:=⟨_,rfl⟩;obtain ⟨x,hxx⟩:=hgx;have hu2:∀ z,z = min (x * n) left → ∀ i,i < k + 1 → (u.set k z).getD i 0 = min (c.getD i 0 * n) left:=fun z hz i hi => by
        rw [set_getD (by omega)]
        by_cases hik:i = k
        · rw [if_pos hik,hik,← hxx,hz]
        · rw [if_neg hik]; exact hu i (by omega)
      rw [← hxx] at hrd hx;have hm1:0 ≤ x * n:=Int.mul_nonneg hx.1 (by omega)
      have hm2:x * n ≤ 100000 * 7:=Int.mul_le_mul hx.2 (by omega) (by omega) (by omega)
      have hwm:IntKind.i64.wrap (x * n) = x * n:=IntWalk.i64_in _ (by omega)
      have hix2:aIndexAt Tryz.prog 22 (.slice (some ⟨H4.size,0,none⟩) c.length c.length) (.int .i64 (k:Int)) = some (.pointer (some ⟨H4.size,k,none⟩)):=by
        rw [ixI,if_pos ⟨by omega,by omega⟩,Int.toNat_natCast,Nat.zero_add,Nat.mul_one]
      have hmin:(if x * n > left then left else x * n) = min (x * n) left:=by split <;> omega
      have hob:=stI1 k48 (Nat.le_refl _) o8 (min (x * n) left) (o:=k) (by omega)
      obtain ⟨H9,st9,k9,z9,o9,rr9⟩:=hob;have p9:=rr9 _ _ _ (Ne.symm hne) p8;have hu2:=hu2 _ rfl;have hul2:(u.set k (min (x * n) left)).length = c.length:=by rw [List.length_set,hul]
      have hgu:∃ u2,u2 = u.set k (min (x * n) left):=⟨_,rfl⟩;obtain ⟨u2,hu2'⟩:=hgu;rw [← hu2'] at hu2 hul2 o9;have hgz:∃ z,z = min (x * n) left:=⟨_,rfl⟩;obtain ⟨z,hz⟩:=hgz;rw [← hz] at hmin st9;clear hl8 hl hu hul rr9 o8 p8 z9 hu2' hz hxx hc
      repeat' (first | simp only [↓Zabs,↓Zabp,↓Zabr,↓Zaae,↓Zabm,↓Zabo,↓Zacj,↓Zaci,↓Zaco,↓Zaaq,↓Zaaj,↓Zaap,↓Zaas,↓Zaak,↓Zaam,↓Zaan,↓bxOp_min,↓Zacl,↓bxPut,↓Zabk,↓Zabj,↓Zaad,↓Zaac,↓Zabf,↓Zabe,↓Zacp,↓Zaba,↓Zaay,Zack,mm_min,Zaab,Zabd,Zach,↓reduceIte,Nat.reduceEqDiff,Nat.reduceLT,dec_T,true_and,Nat.add_zero,one1,Option.bind_some, *,paG0,ldI,ldIs])
      exact ⟨c.length - (k + 1),by omega,k + 1,u2,rfl,by omega,hul2,hu2,by assumption,rfl⟩
    · have hlt':¬ (k:Int) < (c.length:Int):=by omega
      have hob:=stP ((ow1.keep k3).keep k48) rfl (some ⟨H4.size,0,none⟩) c.length c.length n;obtain ⟨H9,st9,o9,z9,rr9,kk9⟩:=hob;have k09:=kk9 H hk08 (Nat.le_refl _);have h14:H.size < H4.size:=Nat.lt_of_lt_of_le s1 z17;have o9n:=rr9 _ _ _ (by omega) o8
      have hum:u = c.map (fun x => min (x * n) left):=list_is _ hul (by simp) (fun i hi => hu i (by omega)) (fun i hi => map_getD hi)
      have hrg:∀ z ∈ u,IntKind.i64.min ≤ z ∧ z ≤ IntKind.i64.max:=fun z hz => by
        rw [hum] at hz;obtain ⟨x,hx,rfl⟩:=List.mem_map.1 hz;have h1:=hc x hx;have h3:0 ≤ x * n:=Int.mul_nonneg h1.1 (by omega)
        have h5:IntKind.i64.min = -9223372036854775808:=rfl;have h6:IntKind.i64.max = 9223372036854775807:=rfl;omega
      have hsl:=Own.sl o9n hrg (by rw [hul]; exact hml) c.length
      rw [hul] at hsl;rw [hum] at hsl;have hob:=ownP o9;obtain ⟨x0,x1,x2⟩:=hob;have hpv:PV H H9 (.agg ⟨[.slice (some ⟨H4.size,0,none⟩) c.length c.length,.int .i64 n]⟩) (c.map fun x => min (x * n) left) n:=⟨_,_,rfl,hsl,by omega⟩
      have hfin:Keep H H9 ∧ ∃ s L,Eqs e c s L ∧ PV H H9 (.agg ⟨[.slice (some ⟨H4.size,0,none⟩) c.length c.length,.int .i64 n]⟩) (c.map fun x => min (x * s) L) s:=⟨k09,n,left,hq,hpv⟩
      clear hl hu hul rr9 kk9 o8 p8 o9 o9n hrg ow1 hum hsl hpv hq z9
      repeat' (first | simp only [↓Zabs,↓Zabp,↓Zabr,↓Zaae,↓Zabm,↓Zabo,↓Zacj,↓Zaci,↓Zaco,↓Zaaq,↓Zaaj,↓Zaap,↓Zaas,↓Zaak,↓Zaam,↓Zaan,↓bxOp_min,↓Zacl,↓bxPut,↓Zabk,↓Zabj,↓Zaad,↓Zaac,↓Zabf,↓Zabe,↓Zacp,↓Zaba,↓Zaay,Zack,Zaab,Zabd,Zacg,↓reduceIte,Nat.reduceEqDiff,Nat.reduceLT,dec_F,and_self,Option.map_some, *,ldP])
end Go.Proofs.YtpeoleimmabceaaGreat
