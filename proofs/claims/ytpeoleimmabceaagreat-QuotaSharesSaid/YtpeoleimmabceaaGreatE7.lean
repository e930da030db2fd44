/- Shares in proportion; halves, by the program. -/
import Derived.Test.YtpeoleimmabceaaGreatE6
set_option linter.unusedVariables false
set_option linter.unusedSimpArgs false
set_option linter.unusedSectionVars false

namespace Go.Proofs.YtpeoleimmabceaaGreat
open Go Go.AM
set_option maxRecDepth 10000

theorem stPX {H0 H:Heap} {r:Nat} {cells:List Value} (h:Own H r 26 cells) (hl:cells.length = 2) (a:Option Addr) (n c:Nat) (z:Int) (hk:Keep H0 H) (hr:H0.size ≤ r) :
    ∃ H2,aStore Tryz.prog H 26 (.pointer (some ⟨r,0,none⟩)) (.agg ⟨[.slice a n c,.int .i64 z]⟩) = some H2 ∧ Own H2 r 26 [.slice a n c,.int .i64 z] ∧ H2.size = H.size ∧ KeepX r H H2 ∧ Keep H0 H2:=by
  obtain ⟨H2,h1,h2,h3,h4⟩:=h.storeX (P:=Tryz.prog) (t:=26) (i:=Tryz.t26) (by kernel_rfl) (v:=.agg ⟨[.slice a n c,.int .i64 z]⟩) (new:=[.slice a n c,.int .i64 z]) rfl (by kernel_rfl) rfl (o:=0) (show 0 + 2 ≤ cells.length by omega)
  obtain ⟨H3,k1,k2,k3,k4,k5⟩:=stP h hl a n c z;obtain rfl:H2 = H3:=Option.some.inj (h1.symm.trans k1);exact ⟨H2,k1,k2,k3,h3,k5 H0 hk hr⟩
theorem PV.x {H0 H H':Heap} {u:Value} {w:List Int} {d:Int} {r:Nat} (h:PV H0 H u w d) (hr:r < H0.size) (hk:KeepX r H H'):PV H0 H' u w d:=by
  obtain ⟨v,r2,h1,h2,h3⟩:=h;exact ⟨v,r2,h1,h2.ge (stable_int _ _) (fun _ => by omega) hk.ge,h3⟩

variable {S:AM.Sys} (hS:Only S 5)
include hS

set_option maxHeartbeats 4000000 in
theorem propo_runs (e:Int) (v:Value) (c:List Int) (r o:Nat) (H:Heap) (hg:Grp H) (hL:H.low ≤ H.size) (hl:SlI .i64 H v c r o) (h7:c.length ≤ 7) (hc:∀ x ∈ c,0 ≤ x ∧ x ≤ 100000)
    (he:0 ≤ e ∧ e ≤ 100000) :
    ∃ u H',Runs Tryz.prog S (.fn 40) [.int .i64 e,v] H u H' ∧ Keep H H' ∧ PV H H' u (c.map fun x => e * x) (max 1 c.sum):=by
  suffices h:WCall Tryz.prog S (.fn 40) [.int .i64 e,v] H (fun u H' => Keep H H' ∧ PV H H' u (c.map fun x => e * x) (max 1 c.sum)) by
    obtain ⟨u,H',hr,h⟩:=h; exact ⟨u,H',hr,h⟩
  have hml:=hl.ml;obtain ⟨va,vc,rfl⟩:=hl.v0;have hsm:=Q.sum_le 100000 c fun x hx => (hc x hx).2
  have hs0:=(Q.sum_take_le c (fun x hx => (hc x hx).1) 0).2
  obtain ⟨d,hd⟩:∃ d,d = max 1 c.sum:=⟨_,rfl⟩;rw [← hd];have hs0:0 ≤ c.sum:=by simpa using hs0
  have hmax:(if c.sum > 1 then c.sum else 1) = d:=by rw [hd]; split <;> omega
  obtain ⟨H2,e2,k2,s2,-,-⟩:=box1 H [.slice none 0 0,.int .i64 0] 26;have ow2:Own H2 H.size 26 [.slice none 0 0,.int .i64 0]:=e2 ▸ Own.new H _ _;have al2:aAlloc Tryz.prog H 26 = some (.pointer (some ⟨H.size,0,none⟩),H2):=by rw [alP,e2]
  have K2:=k2;have lw2:=K2.low hL;obtain ⟨H4',H4,e4,d4,k4,l4,o4,z4⟩:=allocD ((List.replicate c.length (0:Int)).map fun z => .int .i64 z) 3 lw2
  have hmk:=mkI (H2.relow H2.size) (l:=(c.length:Int)) (by omega) (by omega)
  rw [Int.toNat_natCast,e4] at hmk;obtain ⟨H5',H5,e5,d5,k5,l5,o5,z5⟩:=allocD [.slice none 0 0,.int .i64 0] 26 l4;have al5:aAlloc Tryz.prog (H4.relow H4.size) 26 = some (.pointer (some ⟨H4.size,0,none⟩),H5'):=by rw [alP,e5]; rfl
  have hr5:H2.size ≤ H4.size:=by omega
  have hne:H2.size ≠ H4.size:=by omega
  obtain ⟨H6',H6,p6,q6,k6,z6,l6,o6,rr6⟩:=stPD (k4.trans k5) hr5 l5 o5 rfl (some ⟨H2.size,0,none⟩) c.length c.length d;have o46:=rr6 _ _ _ hne (o4.keep k5);have ft:=(Q.total_runs hS _ c r o (H4.relow H4.size) ((hl.keep (K2.trans k4)).keep (Keep.relowS H4)) (fun x hx => (hc x hx).1) (by omega)).bx
  have z12:H.size < H2.size:=s2;clear z5 z6 rr6 z4 o5 o4 e4 e5 e2 hs0 hd;refine Zaaw Tryz.func40 rfl (Nat.le_of_ble_eq_true rfl) (hS.no rfl _ _) ?_
  rw [Tryz.ntmps40,Tryz.results40]
  repeat' (first | simp only [↓Zabn,↓Zabp,↓Zabr,↓Zaaf,↓Zabm,↓Zabq,↓Zacj,↓Zaci,↓Zacd,↓Zaag,↓Zacb,↓sxDL_alloc,↓sxDL_build,↓sxDL_makeSlice,↓sxD_same,↓Zaco,↓Zaaq,↓Zaah,↓bxOp_build,↓Zaap,↓Zaas,↓bxOp_makeSlice,↓Zaat,↓Zaao,↓bxOp_max,↓Zacl,↓bxPut,↓Zabk,↓Zabi,↓Zacm,↓Zaau,↓Zacp,↓Zaba,↓Zaay,↓Zaaz,Zack,mm_max,Zabt,Zabg,List.map_cons,List.map_nil,List.nil_append,List.append_nil,↓reduceIte,Nat.reduceEqDiff,Nat.reduceLT,size_relow, *,argF,List.getD_cons_zero,List.getD_cons_succ,lenI,bdP2] | (with_reducible first | refine Zabv (by assumption) (by decide +kernel) ?_ | refine Zabu (by decide +kernel) ?_ | refine Zacc (by decide +kernel) ?_ | refine Zabx ?_))
  refine sxL_of (fun m ρ H8 => ∃ (k:Nat) (u:List Int),m = c.length - k ∧ k ≤ c.length ∧ u.length = c.length ∧ (∀ i,i < k → u.getD i 0 = e * c.getD i 0) ∧ Keep H2 H8 ∧ H8.low ≤ H8.size ∧ Own H8 H2.size 3 (u.map fun z => .int .i64 z) ∧ Own H8 H4.size 26 [.slice (some ⟨H2.size,0,none⟩) c.length c.length,.int .i64 d] ∧
      ρ 0 = .int .i64 e ∧ ρ 4 = .pointer (some ⟨H.size,0,none⟩) ∧ ρ 5 = .pointer (some ⟨H4.size,0,none⟩) ∧ ρ 15 = .slice va c.length vc ∧ ρ 16 = .int .i64 (c.length:Int) ∧ ρ 17 = .int .i64 (k:Int))
    ⟨0,List.replicate c.length 0,rfl,Nat.zero_le _,by simp,(fun i hi => absurd hi (Nat.not_lt_zero i)),k6,l6,o46,o6,rfl,rfl,rfl,rfl,rfl,rfl⟩ ?_
  clear hmk al2 al5 p6 q6 o46 o6 d4 d5 ft hmax;rintro m ρ H8 ⟨k,u,rfl,hk,hul,hu,k28,lw8,o8,p8,e0,e4,e5,e15,e16,e17⟩;have hk08:=K2.trans k28;have hob:=ownP p8;obtain ⟨y0,y1,y2⟩:=hob
  by_cases hlt:k < c.length
  · have hlt':(k:Int) < (c.length:Int):=by omega
    have hwr:=wrap_succ hlt hml;have hl8:=hl.keep hk08;have hix:=SlI_ix hl8 hlt;have hrd:=(hl8.rdI hlt).1;have hx:=hc _ (Zabb (d:=0) hlt);have hgx:∃ x,x = c.getD k 0:=⟨_,rfl⟩;obtain ⟨x,hxx⟩:=hgx;have hu2:∀ z,z = e * x → ∀ i,i < k + 1 → (u.set k z).getD i 0 = e * c.getD i 0:=fun z hz i hi => by
      rw [set_getD (by omega)]
      by_cases hik:i = k
      · rw [if_pos hik,hik,← hxx,hz]
      · rw [if_neg hik]; exact hu i (by omega)
    rw [← hxx] at hrd hx;have hm1:0 ≤ e * x:=Int.mul_nonneg he.1 hx.1;have hm2:e * x ≤ 100000 * 100000:=Int.mul_le_mul he.2 hx.2 (by omega) (by omega)
    have hwm:IntKind.i64.wrap (e * x) = e * x:=IntWalk.i64_in _ (by omega)
    have hix2:aIndexAt Tryz.prog 22 (.slice (some ⟨H2.size,0,none⟩) c.length c.length) (.int .i64 (k:Int)) = some (.pointer (some ⟨H2.size,k,none⟩)):=by
      rw [ixI,if_pos ⟨by omega,by omega⟩,Int.toNat_natCast,Nat.zero_add,Nat.mul_one]
    have hob:=stI1 k28 (Nat.le_refl _) o8 (e * x) (o:=k) (by omega)
    obtain ⟨H9,st9,k9,z9,o9,rr9⟩:=hob;have l9:=k9.low lw2;have p9:=rr9 _ _ _ (Ne.symm hne) p8;have hu2:=hu2 _ rfl;have hul2:(u.set k (e * x)).length = c.length:=by rw [List.length_set,hul]
    have hgu:∃ u2,u2 = u.set k (e * x):=⟨_,rfl⟩;obtain ⟨u2,hu2'⟩:=hgu;rw [← hu2'] at hu2 hul2 o9;clear hl8 hl hu hul rr9 o8 p8 z9 hu2' hxx hc
    repeat' (first | simp only [↓Zabs,↓Zabp,↓Zabr,↓Zaae,↓Zabm,↓Zabo,↓Zacj,↓Zaci,↓Zaco,↓Zaaq,↓Zaaj,↓Zaap,↓Zaas,↓Zaak,↓Zaam,↓Zaan,↓Zacl,↓bxPut,↓Zabk,↓Zabj,↓Zaad,↓Zaac,↓Zabf,↓Zabe,↓Zacp,↓Zaba,↓Zaay,Zack,Zaab,Zabd,Zach,↓reduceIte,Nat.reduceEqDiff,Nat.reduceLT,dec_T,true_and,Nat.add_zero,one1,Option.bind_some, *,paG0,ldI,ldIs])
    exact ⟨c.length - (k + 1),by omega,k + 1,u2,rfl,by omega,hul2,hu2,by assumption,rfl⟩
  · have hlt':¬ (k:Int) < (c.length:Int):=by omega
    have hob:=stP (ow2.keep k28) rfl (some ⟨H2.size,0,none⟩) c.length c.length d;obtain ⟨H9,st9,o9,z9,rr9,kk9⟩:=hob;have k09:=kk9 H hk08 (Nat.le_refl _);have o9n:=rr9 _ _ _ (by omega) o8
    have hum:u = c.map (fun x => e * x):=list_is _ hul (by simp) (fun i hi => hu i (by omega)) (fun i hi => map_getD (f:=fun x => e * x) hi)
    have hrg:∀ z ∈ u,IntKind.i64.min ≤ z ∧ z ≤ IntKind.i64.max:=all_of (d:=0) fun i hi => by
      rw [hu i (by omega)]
      have h1:=hc _ (Zabb (l:=c) (k:=i) (d:=0) (by omega))
      have h2:0 ≤ e * c.getD i 0:=Int.mul_nonneg he.1 h1.1;have h3:e * c.getD i 0 ≤ 100000 * 100000:=Int.mul_le_mul he.2 h1.2 (by omega) (by omega)
      have h5:IntKind.i64.min = -9223372036854775808:=rfl;have h6:IntKind.i64.max = 9223372036854775807:=rfl;omega
    have hsl:=Own.sl o9n hrg (by rw [hul]; exact hml) c.length
    rw [hul] at hsl;rw [hum] at hsl;have hob:=ownP o9;obtain ⟨w0,w1,w2⟩:=hob;have hpv:PV H H9 (.agg ⟨[.slice (some ⟨H2.size,0,none⟩) c.length c.length,.int .i64 d]⟩) (c.map fun x => e * x) d:=⟨_,_,rfl,hsl,by omega⟩
    clear hl hu hul rr9 kk9 o8 p8 o9 o9n hrg ow2 hum hsl z9
    repeat' (first | simp only [↓Zabs,↓Zabp,↓Zabr,↓Zaae,↓Zabm,↓Zabo,↓Zacj,↓Zaci,↓Zaco,↓Zaaq,↓Zaaj,↓Zaap,↓Zaas,↓Zaak,↓Zaam,↓Zaan,↓Zacl,↓bxPut,↓Zabk,↓Zabj,↓Zaad,↓Zaac,↓Zabf,↓Zabe,↓Zacp,↓Zaba,↓Zaay,Zack,Zaab,Zabd,Zacg,↓reduceIte,Nat.reduceEqDiff,Nat.reduceLT,dec_F,and_self,Option.map_some, *,ldP])

theorem halves_runs (e:Int) (v:Value) (c:List Int) (r o:Nat) (H:Heap) (hg:Grp H) (hL:H.low ≤ H.size) (hl:SlI .i64 H v c r o) (h0:0 < c.length) (h7:c.length ≤ 7) (hc:∀ x ∈ c,0 ≤ x ∧ x ≤ 100000) (he:0 ≤ e) (hs:2 * e ≤ c.sum) :
    ∃ u H',Runs Tryz.prog S (.fn 41) [.int .i64 e,v] H u H' ∧ Keep H H' ∧ ∃ s L,Eqs (2 * e) c s L ∧ PV H H' u (c.map fun x => min (x * s) L) (s * 2):=by
  suffices h:WCall Tryz.prog S (.fn 41) [.int .i64 e,v] H (fun u H' => Keep H H' ∧ ∃ s L,Eqs (2 * e) c s L ∧ PV H H' u (c.map fun x => min (x * s) L) (s * 2)) by
    obtain ⟨u,H',hr,h⟩:=h; exact ⟨u,H',hr,h⟩
  have hsm:=Q.sum_le 100000 c fun x hx => (hc x hx).2
  obtain ⟨H1,e1,k1,s1,-,-⟩:=box1 H [.slice none 0 0,.int .i64 0] 26;have ow1:Own H1 H.size 26 [.slice none 0 0,.int .i64 0]:=e1 ▸ Own.new H _ _;have al1:aAlloc Tryz.prog H 26 = some (.pointer (some ⟨H.size,0,none⟩),H1):=by rw [alP,e1]
  obtain ⟨u2,H2,hR2,k2,s,L,hq,v2,r2,rfl,hsl,hr2⟩:=equal_runs hS (2 * e) v c r o H1 (k1.grp hg) (k1.low hL) (hl.keep k1) h0 h7 hc (by omega) hs
  have hv2:=hsl.v0;obtain ⟨va,vc,rfl⟩:=hv2;rw [List.length_map] at hR2 hsl;have f2:=hR2.bx;have hq1:=hq.s1;have hq2:=hq.s2;have hw2:IntKind.i64.wrap (2 * e) = 2 * e:=IntWalk.i64_in _ (by omega)
  have hws:IntKind.i64.wrap (s * 2) = s * 2:=IntWalk.i64_in _ (by omega)
  obtain ⟨H3,e3,k3,s3,-,-⟩:=box1 H2 [.slice none 0 0,.int .i64 0] 26;have ow3:Own H3 H2.size 26 [.slice none 0 0,.int .i64 0]:=e3 ▸ Own.new H2 _ _;have al3:aAlloc Tryz.prog H2 26 = some (.pointer (some ⟨H2.size,0,none⟩),H3):=by rw [alP,e3]
  obtain ⟨H4,st4,o4,z4,rr4,kk4⟩:=stP ow3 rfl va c.length vc s;have k24:=kk4 H2 k3 (Nat.le_refl _);obtain ⟨y0,y1,y2⟩:=ownP o4;obtain ⟨H5,st5,o5,z5,k5⟩:∃ H5,aStore Tryz.prog H4 3 (.pointer (some ⟨H2.size,0 + 1,none⟩)) (.int .i64 (s * 2)) = some H5 ∧ Own H5 H2.size 26 [.slice va c.length vc,.int .i64 (s * 2)] ∧ H5.size = H4.size ∧ ∀ H0,Keep H0 H4 → H0.size ≤ H2.size → Keep H0 H5:=by
    obtain ⟨i,_,hi,hsz,_⟩:=infoI;obtain ⟨H5,h1,h2,h3,h4,h5⟩:=o4.store (t:=3) hi (v:=.int .i64 (s * 2)) (new:=[.int .i64 (s * 2)]) rfl (hsz.trans rfl) rfl (o:=1) (show 1 + 1 ≤ 2 by omega)
    exact ⟨H5,h1,h2,h3,h5⟩
  have k25:=k5 H2 k24 (Nat.le_refl _);obtain ⟨x0,x1,x2⟩:=ownP o5;have z12:=k2.size;obtain ⟨H6,st6,o6,z6,rr6,k06⟩:=stPX ((ow1.keep k2).keep k25) rfl va c.length vc (s * 2) ((k1.trans k2).trans k25) (Nat.le_refl _);have hpv:PV H H6 (.agg ⟨[.slice va c.length vc,.int .i64 (s * 2)]⟩) (c.map fun x => min (x * s) L) (s * 2):=⟨_,_,rfl,(hsl.keep k25).ge (stable_int _ (H.size + 1)) (fun _ => by have:=k1.size; omega) rr6.ge,by omega⟩
  have hfin:Keep H H6 ∧ ∃ s' L',Eqs (2 * e) c s' L' ∧ PV H H6 (.agg ⟨[.slice va c.length vc,.int .i64 (s * 2)]⟩) (c.map fun x => min (x * s') L') (s' * 2):=⟨k06,s,L,hq,hpv⟩
  obtain ⟨w0,w1,w2⟩:=ownP o6;clear hR2 hsl hpv hq o4 o5 o6 ow1 ow3 rr4 rr6 kk4 k5 hl z4 z5 z6 e1 e3;refine Zaaw Tryz.func41 rfl (Nat.le_of_ble_eq_true rfl) (hS.no rfl _ _) ?_
  rw [Tryz.ntmps41,Tryz.results41]
  repeat' (first | simp only [↓Zabp,↓Zabr,↓Zabq,↓Zacj,↓Zaci,↓Zaco,↓Zaaq,↓Zaah,↓Zaap,↓Zaas,↓Zaak,↓Zaam,↓Zaat,↓Zacl,↓bxPut,↓Zabk,↓Zabi,↓Zacm,↓Zaau,↓Zacp,↓Zaba,↓Zaay,↓Zaaz,Zack,Zaab,Zabd,Zabt,Zabg,List.map_cons,List.map_nil,List.nil_append,List.append_nil,↓reduceIte,Nat.reduceEqDiff,Nat.reduceLT,and_self,one1,Option.bind_some,Option.map_some, *,argF,List.getD_cons_zero,List.getD_cons_succ,paG1,ldP,ldI])
end Go.Proofs.YtpeoleimmabceaaGreat

namespace Go.Proofs.YtpeoleimmabceaaGreat
open Go Go.AM

def CEA (e:Int) (c w:List Int) (d:Int):Prop:=∃ L k:Int,1 ≤ k ∧ 0 ≤ L ∧ (∀ i,i < c.length → w.getD i 0 * k = d * min (c.getD i 0 * k) L) ∧ w.sum = e * d
def dbl (w:List Int):List Int:=w.map fun x => 2 * x
def Awd (R:Int → List Int → List Int → Int → Prop) (rule e:Int) (c w:List Int) (d:Int):Prop:=
  if rule = 0 then CEA e c w d else if rule = 1 then CEA (c.sum - e) c (zipL c w d) d else if rule = 2 then ∀ i,i < c.length → w.getD i 0 * max 1 c.sum = e * c.getD i 0 * d
  else if rule = 3 then (if e ≤ c.sum - e then CEA (2 * e) c (dbl w) d else CEA (2 * (c.sum - e)) c (dbl (zipL c w d)) d) else R e c w d
structure Good (e:Int) (c w:List Int) (d:Int):Prop where
  len:w.length = c.length
  d1:1 ≤ d
  d2:d ≤ 1000000
  rng:∀ i,i < c.length → 0 ≤ w.getD i 0 ∧ w.getD i 0 ≤ c.getD i 0 * d
  sum:w.sum = e * d
theorem sum_lin (w:List Int) (a:Int):(w.map fun x => a * x).sum = a * w.sum:=by
  induction w with
  | nil => simp
  | cons x l ih => rw [List.map_cons,List.sum_cons,List.sum_cons,ih,Int.mul_add]
theorem sum_range (w:List Int):w.sum = ((List.range w.length).map fun i => w.getD i 0).sum:=by
  congr 1;apply List.ext_getElem?;intro i;rw [List.getElem?_map]
  by_cases hi:i < w.length
  · rw [List.getElem?_range hi,Option.map_some,List.getD_eq_getElem?_getD,List.getElem?_eq_getElem hi]; rfl
  · rw [List.getElem?_eq_none (by omega),List.getElem?_eq_none (by simp; omega)]; rfl
theorem sum_congr {n:Nat} {f g:Nat → Int} (h:∀ i,i < n → f i = g i):((List.range n).map f).sum = ((List.range n).map g).sum:=by
  congr 1;exact List.map_congr_left fun i hi => h i (List.mem_range.1 hi)
theorem sum_sub (l:List Nat) (f g:Nat → Int):(l.map fun i => f i - g i).sum = (l.map f).sum - (l.map g).sum:=by
  induction l with
  | nil => simp
  | cons x l ih => simp only [List.map_cons,List.sum_cons]; omega
theorem sum_zipL (c w:List Int) (d:Int) (h:w.length = c.length):(zipL c w d).sum = c.sum * d - w.sum:=by
  unfold zipL;rw [sum_sub,sum_range w,h];congr 1;rw [sum_range c,← sum_map_mul,List.map_map];rfl
theorem sum_dbl (w:List Int):(dbl w).sum = 2 * w.sum:=sum_lin w 2
theorem dbl_at {w:List Int} {i:Nat} (hi:i < w.length):(dbl w).getD i 0 = 2 * w.getD i 0:=map_getD hi
theorem zipL_zipL {c w:List Int} {d:Int} (h:w.length = c.length):zipL c (zipL c w d) d = w:=
  list_is (fun i => w.getD i 0) (zipL_len _ _ _) h (fun i hi => by rw [zipL_at hi,zipL_at hi]; omega) (fun i hi => rfl)
theorem Eqs.good {e:Int} {c:List Int} {s L:Int} (h:Eqs e c s L) (hc:∀ x ∈ c,0 ≤ x ∧ x ≤ 100000) (h7:c.length ≤ 7):Good e c (c.map fun x => min (x * s) L) s ∧ CEA e c (c.map fun x => min (x * s) L) s:=by
  have h1:=h.s1;have h2:=h.s2;have h3:=h.l1;refine ⟨⟨by simp,h1,by omega,fun i hi => ?_,h.sum⟩,L,s,h1,h3,fun i hi => ?_,h.sum⟩
  · rw [map_getD hi];have:=(hc _ (Zabb (d:=0) hi)).1;have:0 ≤ c.getD i 0 * s:=Int.mul_nonneg this (by omega)
    omega
  · rw [map_getD hi,Int.mul_comm]
theorem Eqs.half {e:Int} {c:List Int} {s L:Int} (h:Eqs (2 * e) c s L) (hc:∀ x ∈ c,0 ≤ x ∧ x ≤ 100000) (h7:c.length ≤ 7):Good e c (c.map fun x => min (x * s) L) (s * 2) ∧ CEA (2 * e) c (dbl (c.map fun x => min (x * s) L)) (s * 2):=by
  have h1:=h.s1;have h2:=h.s2;have h3:=h.l1;have h4:=h.sum;refine ⟨⟨by simp,by omega,by omega,fun i hi => ?_,?_⟩,L,s,h1,h3,fun i hi => ?_,?_⟩
  · rw [map_getD hi];have h5:=(hc _ (Zabb (d:=0) hi)).1;have h6:0 ≤ c.getD i 0 * s:=Int.mul_nonneg h5 (by omega)
    rw [← Int.mul_assoc];omega
  · rw [h4,Int.mul_comm 2 e,Int.mul_assoc,Int.mul_comm 2 s]
  · rw [dbl_at (by simpa using hi),map_getD hi,Int.mul_comm 2,Int.mul_assoc,Int.mul_comm,Int.mul_comm s 2,Int.mul_assoc]
  · rw [sum_dbl,h4,Int.mul_comm s 2,← Int.mul_assoc (2 * e) 2 s,Int.mul_comm (2 * e) 2,Int.mul_assoc 2 (2 * e) s]
theorem Good.loss {e:Int} {c w:List Int} {d:Int} (h:Good (c.sum - e) c w d):Good e c (zipL c w d) d:=by
  refine ⟨zipL_len _ _ _,h.d1,h.d2,fun i hi => ?_,?_⟩
  · rw [zipL_at hi];have:=h.rng i hi;omega
  · rw [sum_zipL _ _ _ h.len,h.sum,Int.sub_mul];omega
theorem Good.part {e:Int} {c:List Int} (hc:∀ x ∈ c,0 ≤ x ∧ x ≤ 100000) (h7:c.length ≤ 7) (he:0 ≤ e) (hs:e ≤ c.sum):Good e c (c.map fun x => e * x) (max 1 c.sum) ∧ ∀ i,i < c.length → (c.map fun x => e * x).getD i 0 * max 1 c.sum = e * c.getD i 0 * max 1 c.sum:=by
  have hsm:=Q.sum_le 100000 c fun x hx => (hc x hx).2
  refine ⟨⟨by simp,by omega,by omega,fun i hi => ?_,?_⟩,fun i hi => by rw [map_getD (f:=fun x => e * x) hi]⟩
  · rw [map_getD (f:=fun x => e * x) hi]
    have h1:=(hc _ (Zabb (d:=0) hi)).1;refine ⟨Int.mul_nonneg he h1,?_⟩;rw [Int.mul_comm e];exact Int.mul_le_mul_of_nonneg_left (by omega) h1
  · rw [sum_lin];rcases Int.lt_or_le c.sum 1 with h | h
    · have h0:e = 0:=by
        have:=(Q.sum_take_le c (fun x hx => (hc x hx).1) 0).2
        simp at this;omega
      rw [h0]; simp
    · rw [Int.max_eq_right h]
/-! Lowest terms. -/
theorem gcdAll_dvd:∀ (w:List Int) (d:Int),0 ≤ d → (∀ x ∈ w,0 ≤ x) → Q.gcdAll d w ∣ d ∧ ∀ x ∈ w,Q.gcdAll d w ∣ x
  | [],d,h,_ => ⟨Int.dvd_refl d,fun x hx => by cases hx⟩
  | y :: w,d,h,hw => by
    have hy:=hw y (List.mem_cons_self ..);obtain ⟨h1,h2⟩:=gcdAll_dvd w ((Nat.gcd d.toNat y.toNat:Nat):Int) (Int.natCast_nonneg _) (fun x hx => hw x (List.mem_cons_of_mem _ hx))
    have e:Q.gcdAll d (y :: w) = Q.gcdAll ((Nat.gcd d.toNat y.toNat:Nat):Int) w:=rfl;rw [e];have k1:((Nat.gcd d.toNat y.toNat:Nat):Int) ∣ d:=by
      have:=Int.natCast_dvd_natCast.2 (Nat.gcd_dvd_left d.toNat y.toNat); rwa [Int.toNat_of_nonneg h] at this
    have k2:((Nat.gcd d.toNat y.toNat:Nat):Int) ∣ y:=by
      have:=Int.natCast_dvd_natCast.2 (Nat.gcd_dvd_right d.toNat y.toNat); rwa [Int.toNat_of_nonneg hy] at this
    refine ⟨Int.dvd_trans h1 k1,fun x hx => ?_⟩
    rcases List.mem_cons.1 hx with rfl | hx
    · exact Int.dvd_trans h1 k2
    · exact h2 x hx
theorem gcdAll_mul (g:Int) (hg:0 ≤ g):∀ (w:List Int) (d:Int),0 ≤ d → (∀ x ∈ w,0 ≤ x) → Q.gcdAll (g * d) (w.map fun x => g * x) = g * Q.gcdAll d w
  | [],d,h,_ => rfl
  | y :: w,d,h,hw => by
    have hy:=hw y (List.mem_cons_self ..);have e:Q.gcdAll (g * d) ((y :: w).map fun x => g * x) = Q.gcdAll ((Nat.gcd (g * d).toNat (g * y).toNat:Nat):Int) (w.map fun x => g * x):=rfl
    have e2:((Nat.gcd (g * d).toNat (g * y).toNat:Nat):Int) = g * ((Nat.gcd d.toNat y.toNat:Nat):Int):=by
      rw [Int.toNat_mul hg h,Int.toNat_mul hg hy,Nat.gcd_mul_left,Int.natCast_mul,Int.toNat_of_nonneg hg]
    rw [e,e2,gcdAll_mul g hg w _ (Int.natCast_nonneg _) (fun x hx => hw x (List.mem_cons_of_mem _ hx))]
    rfl
structure Sc (g:Int) (w:List Int) (d:Int) (w':List Int) (d':Int):Prop where
  pos:0 < g
  len:w.length = w'.length
  at':∀ i,i < w'.length → w.getD i 0 = g * w'.getD i 0
  d:d = g * d'
theorem sc_low {w:List Int} {d:Int} (hp:∀ x ∈ w,0 ≤ x) (hd:0 < d):Sc (Q.gcdAll d w) w d (w.map fun x => x / Q.gcdAll d w) (d / Q.gcdAll d w) ∧ Q.gcdAll (d / Q.gcdAll d w) (w.map fun x => x / Q.gcdAll d w) = 1:=by
  have h0:=Q.gcdAll_pos d w hd;obtain ⟨h1,h2⟩:=gcdAll_dvd w d (by omega) hp
  obtain ⟨g,hg⟩:∃ g,g = Q.gcdAll d w:=⟨_,rfl⟩;rw [← hg] at h0 h1 h2 ⊢
  have hs:Sc g w d (w.map fun x => x / g) (d / g):=⟨h0.1,by simp,fun i hi => by
    have hi:i < w.length:=by simpa using hi
    rw [map_getD (f:=fun x => x / g) hi,Int.mul_ediv_cancel' (h2 _ (Zabb hi))],(Int.mul_ediv_cancel' h1).symm⟩
  refine ⟨hs,?_⟩
  have hw:w = (w.map fun x => x / g).map fun x => g * x:=list_is (fun i => w.getD i 0) rfl (by simp) (fun i hi => rfl) (fun i hi => by
    rw [map_getD (f:=fun x => g * x) (by simpa using hi),map_getD (f:=fun x => x / g) hi,Int.mul_ediv_cancel' (h2 _ (Zabb hi))])
  have h3:=gcdAll_mul g (by omega) (w.map fun x => x / g) (d / g) (Int.ediv_nonneg (by omega) (by omega)) (fun x hx => by
    obtain ⟨y,hy,rfl⟩:=List.mem_map.1 hx
    exact Int.ediv_nonneg (hp y hy) (by omega))
  rw [← hw,← hs.d,← hg] at h3;have h4:g * Q.gcdAll (d / g) (w.map fun x => x / g) = g * 1:=by rw [← h3,Int.mul_one]
  exact Int.eq_of_mul_eq_mul_left (by omega) h4
section sc
variable {g:Int} {w:List Int} {d:Int} {w':List Int} {d':Int} {e:Int} {c:List Int}
theorem Sc.sum (h:Sc g w d w' d'):w.sum = g * w'.sum:=by
  rw [sum_range w,sum_range w',h.len];rw [show g * ((List.range w'.length).map fun i => w'.getD i 0).sum = (((List.range w'.length).map fun i => w'.getD i 0).map fun x => g * x).sum from (sum_lin _ _).symm,List.map_map]
  exact sum_congr fun i hi => h.at' i hi
theorem Sc.cea (h:Sc g w d w' d') (hl:w'.length = c.length) (k:CEA e c w d):CEA e c w' d':=by
  obtain ⟨L,s,h1,h2,h3,h4⟩:=k;have hg:=h.pos;refine ⟨L,s,h1,h2,fun i hi => ?_,?_⟩
  · have:=h3 i hi;rw [h.at' i (by omega),h.d,Int.mul_assoc,Int.mul_assoc] at this
    exact Int.eq_of_mul_eq_mul_left (by omega) this
  · rw [h.sum,h.d,Int.mul_left_comm] at h4;exact Int.eq_of_mul_eq_mul_left (by omega) h4
theorem Sc.dbl (h:Sc g w d w' d'):Sc g (dbl w) d (dbl w') d':=⟨h.pos,by unfold Go.Proofs.YtpeoleimmabceaaGreat.dbl; simp [h.len],fun i hi => by
  have hi:i < w'.length:=by unfold Go.Proofs.YtpeoleimmabceaaGreat.dbl at hi; simpa using hi
  rw [dbl_at (by rw [h.len]; exact hi),dbl_at hi,h.at' i hi,Int.mul_left_comm],h.d⟩
theorem Sc.zip (h:Sc g w d w' d') (hl:w'.length = c.length):Sc g (zipL c w d) d (zipL c w' d') d':=⟨h.pos,by rw [zipL_len,zipL_len],fun i hi => by
  rw [zipL_len] at hi
  rw [zipL_at hi,zipL_at hi,h.at' i (by omega),h.d,Int.mul_sub,Int.mul_left_comm],h.d⟩
theorem Sc.good (h:Sc g w d w' d') (k:Good e c w d):Good e c w' d':=by
  have hg:=h.pos;have hl:w'.length = c.length:=h.len.symm.trans k.len;have hd:=h.d;have k1:=k.d1;have k2:=k.d2;have hd1:1 ≤ d':=by
    rcases Int.lt_or_le d' 1 with h1 | h1
    · have:g * d' ≤ 0:=Int.mul_nonpos_of_nonneg_of_nonpos (by omega) (by omega)
      omega
    · exact h1
  refine ⟨hl,hd1,?_,fun i hi => ?_,?_⟩
  · have:1 * d' ≤ g * d':=Int.mul_le_mul_of_nonneg_right (by omega) (by omega)
    omega
  · have h1:=k.rng i hi;rw [h.at' i (by omega),hd,Int.mul_left_comm] at h1
    exact ⟨by
      rcases Int.lt_or_le (w'.getD i 0) 0 with h2 | h2
      · have:=Int.mul_neg_of_pos_of_neg hg h2; omega
      · exact h2,Int.le_of_mul_le_mul_left h1.2 hg⟩
  · have h1:=k.sum;rw [h.sum,hd,Int.mul_left_comm] at h1;exact Int.eq_of_mul_eq_mul_left (by omega) h1
theorem Sc.awd {R:Int → List Int → List Int → Int → Prop} {rule:Int} (hR:∀ {w d w' d'},Sc g w d w' d' → w'.length = c.length → R e c w d → R e c w' d') (h:Sc g w d w' d') (hl:w'.length = c.length) (k:Awd R rule e c w d):Awd R rule e c w' d':=by
  have hg:=h.pos;unfold Awd at k ⊢
  by_cases h0:rule = 0
  · rw [if_pos h0] at k ⊢; exact h.cea hl k
  rw [if_neg h0] at k ⊢
  by_cases h1:rule = 1
  · rw [if_pos h1] at k ⊢; exact (h.zip hl).cea (zipL_len _ _ _) k
  rw [if_neg h1] at k ⊢
  by_cases h2:rule = 2
  · rw [if_pos h2] at k ⊢;intro i hi;have:=k i hi;rw [h.at' i (by omega),h.d,Int.mul_assoc,Int.mul_left_comm _ g] at this
    exact Int.eq_of_mul_eq_mul_left (by omega) this
  rw [if_neg h2] at k ⊢
  by_cases h3:rule = 3
  · rw [if_pos h3] at k ⊢
    by_cases h4:e ≤ c.sum - e
    · rw [if_pos h4] at k ⊢;exact h.dbl.cea (by unfold Go.Proofs.YtpeoleimmabceaaGreat.dbl; simp [hl]) k
    · rw [if_neg h4] at k ⊢;exact (h.zip hl).dbl.cea (by unfold Go.Proofs.YtpeoleimmabceaaGreat.dbl; simp [zipL_len]) k
  rw [if_neg h3] at k ⊢;exact hR h hl k
end sc
end Go.Proofs.YtpeoleimmabceaaGreat
