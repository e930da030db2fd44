/- What comes of the orders: the recursion, by the program. -/
import Derived.Test.YtpeoleimmabceaaGreatEA
set_option linter.unusedVariables false
set_option linter.unusedSimpArgs false
set_option linter.unusedSectionVars false

namespace Go.Proofs.YtpeoleimmabceaaGreat
open Go Go.AM
set_option maxRecDepth 10000

theorem ldF2 (H:Heap) (r o:Nat):aLoad Tryz.prog H 82 (.pointer (some ⟨r,o,none⟩)) = (H.read r o 1).bind one1:=by kernel_rfl
structure RS (H0 H:Heap) (va:Option Addr) (n vc b0 nr sr tr tb fb:Nat) (u tk:List Int) (den:Int):Prop where
  keep:Keep H0 H
  z:H0.size ≤ nr ∧ b0 < nr ∧ nr < sr ∧ sr < tr ∧ tr < tb ∧ tb < fb
  o0:Own H b0 22 [.slice va n vc]
  on:Own H nr 3 (u.map fun z => .int .i64 z)
  os:Own H sr 26 [.slice (some ⟨nr,0,none⟩) n n,.int .i64 den]
  ot:Own H tr 3 (tk.map fun z => .int .i64 z)
  ob:Own H tb 22 [.slice (some ⟨tr,0,none⟩) n n]
  of:Own H fb 82 [.func (.func 69) #[] ⟨[.pointer (some ⟨b0,0,none⟩),.pointer (some ⟨tb,0,none⟩),.pointer (some ⟨sr,0,none⟩),.pointer (some ⟨fb,0,none⟩)]⟩]
section rs
variable {H0 H:Heap} {va:Option Addr} {n vc b0 nr sr tr tb fb:Nat} {u tk:List Int} {den:Int}
theorem RS.rd (h:RS H0 H va n vc b0 nr sr tr tb fb u tk den):H.read b0 0 1 = some [.slice va n vc] ∧ H.read tb 0 1 = some [.slice (some ⟨tr,0,none⟩) n n] ∧ H.read sr 0 1 = some [.slice (some ⟨nr,0,none⟩) n n] ∧ H.read sr (0 + 1) 1 = some [.int .i64 den] ∧
    H.read fb 0 1 = some [.func (.func 69) #[] ⟨[.pointer (some ⟨b0,0,none⟩),.pointer (some ⟨tb,0,none⟩),.pointer (some ⟨sr,0,none⟩),.pointer (some ⟨fb,0,none⟩)]⟩]:=
  ⟨h.o0.read (o:=0) (n:=1) (show 0 + 1 ≤ 1 by omega),h.ob.read (o:=0) (n:=1) (show 0 + 1 ≤ 1 by omega),(ownP h.os).2.1,(ownP h.os).2.2,h.of.read (o:=0) (n:=1) (show 0 + 1 ≤ 1 by omega)⟩
theorem ownI_rd {r:Nat} {w:List Int} (h:Own H r 3 (w.map fun z => .int .i64 z)) {k:Nat} (hk:k < w.length):H.read r k 1 = some [.int .i64 (w.getD k 0)]:=by
  have h1:=h.read (o:=k) (n:=1) (by rw [List.length_map]; omega)
  rw [h1,List.drop_eq_getElem_cons (by rw [List.length_map]; exact hk),List.getElem_map,List.getD_eq_getElem?_getD,List.getElem?_eq_getElem hk]
  rfl
theorem RS.setU (h:RS H0 H va n vc b0 nr sr tr tb fb u tk den) (z:Int) {k:Nat} (hk:k < u.length):∃ H2,aStore Tryz.prog H 3 (.pointer (some ⟨nr,k,none⟩)) (.int .i64 z) = some H2 ∧ RS H0 H2 va n vc b0 nr sr tr tb fb (u.set k z) tk den:=by
  have hz:=h.z;obtain ⟨H2,h1,h2,h3,h4,h5⟩:=stI1 h.keep (by omega) h.on z hk
  exact ⟨H2,h1,h2,hz,h5 _ _ _ (by omega) h.o0,h4,h5 _ _ _ (by omega) h.os,h5 _ _ _ (by omega) h.ot,h5 _ _ _ (by omega) h.ob,h5 _ _ _ (by omega) h.of⟩
theorem RS.setT (h:RS H0 H va n vc b0 nr sr tr tb fb u tk den) (z:Int) {k:Nat} (hk:k < tk.length):∃ H2,aStore Tryz.prog H 3 (.pointer (some ⟨tr,k,none⟩)) (.int .i64 z) = some H2 ∧ RS H0 H2 va n vc b0 nr sr tr tb fb u (tk.set k z) den:=by
  have hz:=h.z;obtain ⟨H2,h1,h2,h3,h4,h5⟩:=stI1 h.keep (by omega) h.ot z hk
  exact ⟨H2,h1,h2,hz,h5 _ _ _ (by omega) h.o0,h5 _ _ _ (by omega) h.on,h5 _ _ _ (by omega) h.os,h4,h5 _ _ _ (by omega) h.ob,h5 _ _ _ (by omega) h.of⟩
theorem RS.setD (h:RS H0 H va n vc b0 nr sr tr tb fb u tk den) (z:Int):∃ H2,aStore Tryz.prog H 3 (.pointer (some ⟨sr,0 + 1,none⟩)) (.int .i64 z) = some H2 ∧ RS H0 H2 va n vc b0 nr sr tr tb fb u tk z:=by
  have hz:=h.z;obtain ⟨i,_,hi,hsz,_⟩:=infoI;obtain ⟨H2,h1,h2,h3,h4,h5⟩:=h.os.store (t:=3) hi (v:=.int .i64 z) (new:=[.int .i64 z]) rfl (hsz.trans rfl) rfl (o:=1) (show 1 + 1 ≤ 2 by omega)
  exact ⟨H2,h1,h5 H0 h.keep (by omega),hz,h4 _ _ _ (by omega) h.o0,h4 _ _ _ (by omega) h.on,h2,h4 _ _ _ (by omega) h.ot,h4 _ _ _ (by omega) h.ob,h4 _ _ _ (by omega) h.of⟩
theorem RS.lowS (h:RS H0 H va n vc b0 nr sr tr tb fb u tk den):RS H0 (H.relow H.size) va n vc b0 nr sr tr tb fb u tk den:=⟨h.keep.trans (Keep.relowS H),h.z,h.o0.addr,h.on.addr,h.os.addr,h.ot.addr,h.ob.addr,h.of.addr⟩
theorem RS.lower {H':Heap} (hk:Keep H0 H) (h:RS H0 H' va n vc b0 nr sr tr tb fb u tk den):RS H0 (H'.relow (Nat.min H.low H'.low)) va n vc b0 nr sr tr tb fb u tk den:=⟨Keep.lower hk h.keep,h.z,h.o0.addr,h.on.addr,h.os.addr,h.ot.addr,h.ob.addr,h.of.addr⟩
end rs
def BB:Int:=1000000000000
def PostRC (H0:Heap) (va:Option Addr) (n vc b0 nr sr tr tb fb:Nat) (c u tk:List Int) (den:Int) (m came:Nat) (left:Int) (H':Heap):Prop:=
  ∃ u' tk',RS H0 H' va n vc b0 nr sr tr tb fb u' tk' (den + DR n m came) ∧ u'.length = n ∧ tk'.length = n ∧ (∀ j,j < n → came.testBit j = true → tk'.getD j 0 = tk.getD j 0) ∧ ∀ i,i < n → u'.getD i 0 = u.getD i 0 + VR c m came left tk i

variable {S:AM.Sys} (hS:Only S 5)
include hS

set_option maxHeartbeats 8000000 in
theorem runC_runs (H0:Heap) (hL0:H0.low ≤ H0.size) (va:Option Addr) (vc b0 nr sr tr tb fb:Nat) (c:List Int) (r o:Nat) (hl:SlI .i64 H0 (.slice va c.length vc) c r o) (h7:c.length ≤ 7) (hc:∀ x ∈ c,0 ≤ x ∧ x ≤ 100000) :
    ∀ (m came:Nat) (left:Int) (u tk:List Int) (den:Int) (H:Heap),came < 2 ^ c.length → cnt came c.length = m → (0 ≤ left ∧ left ≤ 100000) → RS H0 H va c.length vc b0 nr sr tr tb fb u tk den → u.length = c.length → tk.length = c.length →
      (∀ j,j < c.length → came.testBit j = true → 0 ≤ tk.getD j 0 ∧ tk.getD j 0 ≤ 100000) → (∀ i,i < c.length → 0 ≤ u.getD i 0 ∧ u.getD i 0 + VR c m came left tk i ≤ BB) → (0 ≤ den ∧ den + DR c.length m came ≤ BB) →
      ∃ H',Runs Tryz.prog S (.fn 69) [.int .i64 (came:Int),.int .i64 left,.pointer (some ⟨b0,0,none⟩),.pointer (some ⟨tb,0,none⟩),.pointer (some ⟨sr,0,none⟩),.pointer (some ⟨fb,0,none⟩)] H (packRes []) H' ∧ PostRC H0 va c.length vc b0 nr sr tr tb fb c u tk den m came left H':=by
  intro m
  induction m with
  | zero =>
    intro came left u tk den H hcm hct hlf hrs hul htl htk hu hd
    suffices h:WCall Tryz.prog S (.fn 69) [.int .i64 (came:Int),.int .i64 left,.pointer (some ⟨b0,0,none⟩),.pointer (some ⟨tb,0,none⟩),.pointer (some ⟨sr,0,none⟩),.pointer (some ⟨fb,0,none⟩)] H (fun v H' => v = packRes [] ∧ PostRC H0 va c.length vc b0 nr sr tr tb fb c u tk den 0 came left H') by
      obtain ⟨v,H',hr,rfl,h⟩:=h; exact ⟨H',hr,h⟩
    have hall:=(cnt_zero _ (by omega) came hcm).1 hct
    have hbit:∀ j,j < c.length → came.testBit j = true:=fun j hj => by rw [hall,Nat.testBit_two_pow_sub_one]; exact decide_eq_true hj
    have hml:=hl.ml;have f1:=(every_runs hS c.length h7 H).bx;obtain ⟨y0,y1,y2,y3,y4⟩:=hrs.rd;have d0:decide ((came:Int) = ((2 ^ c.length - 1:Nat):Int)) = true:=decide_eq_true (by rw [hall])
    clear hall hcm hct;refine Zaaw Tryz.func69 rfl (Nat.le_of_ble_eq_true rfl) (hS.no rfl _ _) ?_
    rw [Tryz.ntmps69,Tryz.results69]
    repeat' (first | simp only [↓Zabs,↓Zabp,↓Zabr,↓Zaae,↓Zaaf,↓Zabm,↓Zabq,↓Zacj,↓Zaci,↓Zaco,↓Zaaq,↓Zaap,↓Zaas,↓Zaak,↓Zaam,↓Zaat,↓Zaao,↓Zacl,↓bxPut,↓Zabk,↓Zabl,↓Zabi,↓Zacm,↓Zacp,↓Zaba,↓Zaay,↓Zaaz,Zack,Zaab,Zabd,Zabt,Zach,List.map_cons,List.map_nil,List.nil_append,List.append_nil,↓reduceIte,Nat.reduceEqDiff,Nat.reduceLT,one1,Option.bind_some, *,argF,List.getD_cons_zero,List.getD_cons_succ,lenI,ldIs,one1])
    refine sxL_of (fun m ρ H1 => ∃ (k:Nat) (u1:List Int),m = c.length - k ∧ k ≤ c.length ∧ u1.length = c.length ∧ (∀ i,i < k → u1.getD i 0 = u.getD i 0 + tk.getD i 0) ∧ (∀ i,k ≤ i → i < c.length → u1.getD i 0 = u.getD i 0) ∧ RS H0 H1 va c.length vc b0 nr sr tr tb fb u1 tk den ∧
        ρ 4 = .pointer (some ⟨sr,0,none⟩) ∧ ρ 18 = .slice (some ⟨tr,0,none⟩) c.length c.length ∧ ρ 19 = .int .i64 (c.length:Int) ∧ ρ 20 = .int .i64 (k:Int))
      ⟨0,u,rfl,Nat.zero_le _,hul,(fun i hi => absurd hi (Nat.not_lt_zero i)),(fun i _ _ => rfl),hrs,rfl,rfl,rfl,rfl⟩ ?_
    clear f1 hrs y0 y1 y2 y3 y4 d0;rintro m ρ H1 ⟨k,u1,rfl,hk,hul1,hu1,hu2,hrs,e4,e18,e19,e20⟩;obtain ⟨y0,y1,y2,y3,y4⟩:=hrs.rd
    by_cases hlt:k < c.length
    · have hlt':(k:Int) < (c.length:Int):=by omega
      have hwr:=wrap_succ hlt hml;have hix:aIndexAt Tryz.prog 22 (.slice (some ⟨tr,0,none⟩) c.length c.length) (.int .i64 (k:Int)) = some (.pointer (some ⟨tr,k,none⟩)):=by
        rw [ixI,if_pos ⟨by omega,by omega⟩,Int.toNat_natCast,Nat.zero_add,Nat.mul_one]
      have hix2:aIndexAt Tryz.prog 22 (.slice (some ⟨nr,0,none⟩) c.length c.length) (.int .i64 (k:Int)) = some (.pointer (some ⟨nr,k,none⟩)):=by
        rw [ixI,if_pos ⟨by omega,by omega⟩,Int.toNat_natCast,Nat.zero_add,Nat.mul_one]
      have r1:=ownI_rd hrs.ot (k:=k) (by omega)
      have r2:=ownI_rd hrs.on (k:=k) (by omega)
      have hb1:=htk k hlt (hbit k hlt);have hb2:=hu k hlt;have hb2:0 ≤ u.getD k 0 ∧ u.getD k 0 + tk.getD k 0 ≤ BB:=hb2;have hb3:=hu2 k (Nat.le_refl _) hlt;unfold BB at hb2;have hwa:IntKind.i64.wrap (u1.getD k 0 + tk.getD k 0) = u1.getD k 0 + tk.getD k 0:=IntWalk.i64_in _ (by omega)
      obtain ⟨H2,st2,rs2⟩:=hrs.setU (u1.getD k 0 + tk.getD k 0) (k:=k) (by omega)
      have hn1:∀ i,i < k + 1 → (u1.set k (u1.getD k 0 + tk.getD k 0)).getD i 0 = u.getD i 0 + tk.getD i 0:=fun i hi => by
        rw [set_getD (by omega)]
        by_cases hik:i = k
        · rw [if_pos hik,hik,hb3]
        · rw [if_neg hik]; exact hu1 i (by omega)
      have hn2:∀ i,k + 1 ≤ i → i < c.length → (u1.set k (u1.getD k 0 + tk.getD k 0)).getD i 0 = u.getD i 0:=fun i h1 h2 => by
        rw [set_getD (by omega),if_neg (by omega)]; exact hu2 i (by omega) h2
      have hn3:(u1.set k (u1.getD k 0 + tk.getD k 0)).length = c.length:=by rw [List.length_set]; exact hul1
      clear hb1 hb2 hb3 hu hu1 hu2 hl htk hc hrs hbit
      repeat' (first | simp only [↓Zabs,↓Zabp,↓Zabr,↓Zaae,↓Zabm,↓Zabo,↓Zacj,↓Zaci,↓Zaco,↓Zaaq,↓Zaaj,↓Zaap,↓Zaas,↓Zaak,↓Zaam,↓Zaan,↓Zacl,↓bxPut,↓Zabk,↓Zabj,↓Zaad,↓Zaac,↓Zabf,↓Zabe,↓Zacp,↓Zaba,↓Zaay,Zack,Zaab,Zabd,Zach,↓reduceIte,Nat.reduceEqDiff,Nat.reduceLT,dec_T,true_and,Nat.add_zero,one1,Option.bind_some, *,paG0,ldI,ldIs,one1])
      exact ⟨c.length - (k + 1),by omega,k + 1,_,rfl,by omega,hn3,hn1,hn2,rs2,rfl⟩
    · have hlt':¬ (k:Int) < (c.length:Int):=by omega
      obtain ⟨H2,st2,rs2⟩:=hrs.setD (den + 1);have hd':0 ≤ den ∧ den + 1 ≤ BB:=hd;unfold BB at hd';have hwd:IntKind.i64.wrap (den + 1) = den + 1:=IntWalk.i64_in _ (by omega)
      have hpo:PostRC H0 va c.length vc b0 nr sr tr tb fb c u tk den 0 came left H2:=⟨u1,tk,rs2,hul1,htl,fun _ _ _ => rfl,fun i hi => hu1 i (by omega)⟩
      clear hu hu1 hu2 hl htk hc hrs hbit rs2 hd hd'
      repeat' (first | simp only [↓Zabs,↓Zabp,↓Zabr,↓Zaae,↓Zabm,↓Zabo,↓Zacj,↓Zaci,↓Zaco,↓Zaaq,↓Zaaj,↓Zaap,↓Zaas,↓Zaak,↓Zaam,↓Zaan,↓Zacl,↓bxPut,↓Zabk,↓Zabj,↓Zaad,↓Zaac,↓Zabf,↓Zabe,↓Zacp,↓Zaba,↓Zaay,Zack,Zaab,Zabd,Zacg,↓reduceIte,Nat.reduceEqDiff,Nat.reduceLT,dec_F,and_self,one1,Option.bind_some, *,paG1,ldI,one1])
  | succ m ih =>
    intro came left u tk den H hcm hct hlf hrs hul htl htk hu hd
    suffices h:WCall Tryz.prog S (.fn 69) [.int .i64 (came:Int),.int .i64 left,.pointer (some ⟨b0,0,none⟩),.pointer (some ⟨tb,0,none⟩),.pointer (some ⟨sr,0,none⟩),.pointer (some ⟨fb,0,none⟩)] H (fun v H' => v = packRes [] ∧ PostRC H0 va c.length vc b0 nr sr tr tb fb c u tk den (m + 1) came left H') by
      obtain ⟨v,H',hr,rfl,h⟩:=h; exact ⟨H',hr,h⟩
    have hne:¬ came = 2 ^ c.length - 1:=fun h => by have:=(cnt_zero _ (by omega) came hcm).2 h; omega
    have hml:=hl.ml;have hp2:=pow_small c.length (by omega)
    have f1:=(every_runs hS c.length h7 H).bx;obtain ⟨y0,y1,y2,y3,y4⟩:=hrs.rd;have d0:decide ((came:Int) = ((2 ^ c.length - 1:Nat):Int)) = false:=decide_eq_false fun h => hne (Int.ofNat.inj h)
    have hgT:∃ T:Nat → Nat → Int,∀ j i,T j i = if came.testBit j then 0 else VR c m (came ||| 2 ^ j) (left - min (c.getD j 0) left) (tk.set j (min (c.getD j 0) left)) i:=⟨_,fun _ _ => rfl⟩
    obtain ⟨T,hT⟩:=hgT;have hgD:∃ D:Nat → Int,∀ j,D j = if came.testBit j then 0 else DR c.length m (came ||| 2 ^ j):=⟨_,fun _ => rfl⟩
    obtain ⟨D,hD⟩:=hgD;have hVT:∀ i,VR c (m + 1) came left tk i = ((List.range c.length).map fun j => T j i).sum:=fun i => by
      unfold VR;exact sum_congr fun j _ => (hT j i).symm
    have hDD:DR c.length (m + 1) came = ((List.range c.length).map D).sum:=by
      unfold DR;exact sum_congr fun j _ => (hD j).symm
    have hTn:∀ i,i < c.length → ∀ j,j < c.length → 0 ≤ T j i:=fun i hi j hj => by
      rw [hT];cases hb:came.testBit j with
      | true => simp
      | false =>
        obtain ⟨k1,k2⟩:=cnt_or _ (by omega) came hcm j hj hb
        have hcj:=(hc _ (Zabb (d:=0) hj)).1;simp only [Bool.false_eq_true,if_false];refine VR_nonneg c (by omega) (fun x hx => (hc x hx).1) m _ _ _ i k2 (by omega) hi (by simp [htl]) (by omega) fun q hq hqb => ?_
        rw [set_getD (by omega)]
        by_cases hqj:q = j
        · rw [if_pos hqj]; omega
        · rw [if_neg hqj];rw [or_bit] at hqb;refine (htk q hq ?_).1;cases hq2:came.testBit q with
          | true => rfl
          | false => rw [hq2] at hqb; simp at hqb; omega
    have hDn:∀ j,j < c.length → 0 ≤ D j:=fun j _ => by
      rw [hD];split
      · omega
      · exact DR_nonneg _ _ _
    have hu':∀ i,i < c.length → 0 ≤ u.getD i 0 ∧ u.getD i 0 + ((List.range c.length).map fun j => T j i).sum ≤ BB:=fun i hi => by rw [← hVT]; exact hu i hi
    rw [hDD] at hd;have hpo:∀ H1 u1 tk1,RS H0 H1 va c.length vc b0 nr sr tr tb fb u1 tk1 (den + ((List.range c.length).map D).sum) → u1.length = c.length → tk1.length = c.length → (∀ j,j < c.length → came.testBit j = true → tk1.getD j 0 = tk.getD j 0) → (∀ i,i < c.length → u1.getD i 0 = u.getD i 0 + ((List.range c.length).map fun j => T j i).sum) → PostRC H0 va c.length vc b0 nr sr tr tb fb c u tk den (m + 1) came left H1:=fun H1 u1 tk1 h1 h2 h3 h4 h5 => ⟨u1,tk1,by rw [hDD]; exact h1,h2,h3,h4,fun i hi => by rw [hVT]; exact h5 i hi⟩
    clear hne hu hVT hDD;refine Zaaw Tryz.func69 rfl (Nat.le_of_ble_eq_true rfl) (hS.no rfl _ _) ?_
    rw [Tryz.ntmps69,Tryz.results69]
    repeat' (first | simp only [↓Zabs,↓Zabp,↓Zabr,↓Zaae,↓Zaaf,↓Zabm,↓Zabq,↓Zacj,↓Zaci,↓Zaco,↓Zaaq,↓Zaap,↓Zaas,↓Zaak,↓Zaam,↓Zaat,↓Zaao,↓Zacl,↓bxPut,↓Zabk,↓Zabl,↓Zabi,↓Zacm,↓Zacp,↓Zaba,↓Zaay,↓Zaaz,Zack,Zaab,Zabd,Zabt,Zacg,List.map_cons,List.map_nil,List.nil_append,List.append_nil,↓reduceIte,Nat.reduceEqDiff,Nat.reduceLT,one1,Option.bind_some, *,argF,List.getD_cons_zero,List.getD_cons_succ,lenI,ldIs,one1])
    refine sxL_of (fun m' ρ H1 => ∃ (k:Nat) (u1 tk1:List Int) (den1:Int),m' = c.length - k ∧ k ≤ c.length ∧ u1.length = c.length ∧ tk1.length = c.length ∧ (∀ j,j < c.length → came.testBit j = true → tk1.getD j 0 = tk.getD j 0) ∧
        (∀ i,i < c.length → u1.getD i 0 = u.getD i 0 + ((List.range k).map fun j => T j i).sum) ∧ den1 = den + ((List.range k).map D).sum ∧ RS H0 H1 va c.length vc b0 nr sr tr tb fb u1 tk1 den1 ∧
        ρ 0 = .int .i64 (came:Int) ∧ ρ 1 = .int .i64 left ∧ ρ 3 = .pointer (some ⟨tb,0,none⟩) ∧ ρ 5 = .pointer (some ⟨fb,0,none⟩) ∧ ρ 38 = .slice va c.length vc ∧ ρ 39 = .int .i64 (c.length:Int) ∧ ρ 40 = .int .i64 (k:Int))
      ⟨0,u,tk,den,rfl,Nat.zero_le _,hul,htl,(fun _ _ _ => rfl),(fun i _ => by simp),by simp,hrs,rfl,rfl,rfl,rfl,rfl,rfl,rfl⟩ ?_
    clear f1 hrs y0 y1 y2 y3 y4 d0;rintro m' ρ H1 ⟨k,u1,tk1,den1,rfl,hk,hul1,htl1,hag,hu1,hd1,hrs,e0,e1,e3,e5,e38,e39,e40⟩;have hL1:=hrs.keep.low hL0
    by_cases hlt:k < c.length
    · have hlt':(k:Int) < (c.length:Int):=by omega
      have hwr:=wrap_succ hlt hml;have hl1:=hl.keep hrs.keep;have hix:=SlI_ix hl1 hlt;have hrd:=(hl1.rdI hlt).1;have hx:=hc _ (Zabb (d:=0) hlt);have hf2:=fun H' => (has_runs hS came k (by omega) (by omega) H').bx
      have hsT:=fun i hi => range_take_sum (fun j => T j i) (n:=c.length) (k:=k) (hTn i hi) hlt
      have hsD:=range_take_sum D (n:=c.length) (k:=k) hDn hlt;cases hb:came.testBit k with
      | true =>
        have hu2:∀ i,i < c.length → u1.getD i 0 = u.getD i 0 + ((List.range (k + 1)).map fun j => T j i).sum:=fun i hi => by
          rw [(hsT i hi).1,hT k i,hb,hu1 i hi]; simp
        have hd2:den1 = den + ((List.range (k + 1)).map D).sum:=by
          rw [hsD.1,hD k,hb,hd1]; simp
        rw [hb] at hf2;clear hpo hsT hsD hu1 hd1 hu' hd hl1 hl hc hTn hDn hT hD htk hx hcm hct
        repeat' (first | simp only [↓Zabs,↓Zabn,↓Zabp,↓Zabr,↓Zaae,↓Zabm,↓Zabo,↓Zacj,↓Zaci,↓Zacd,↓Zaag,↓Zacb,↓Zaca,↓Zabw,↓Zaco,↓Zaaq,↓Zaaj,↓Zaap,↓Zaas,↓Zaak,↓bxOp_un,↓Zaan,↓Zaat,↓bxOp_min,↓Zacl,↓bxPut,↓Zabk,↓Zabj,↓Zaad,↓Zaac,↓Zabf,↓Zabe,↓resQ_normal,↓Zacm,↓Zacp,↓Zaba,↓Zaay,↓Zaaz,Zack,Zaab,Zabd,una_nt,Zabt,Zach,Zacg,List.map_cons,List.map_nil,List.nil_append,List.append_nil,↓reduceIte,Nat.reduceEqDiff,Nat.reduceLT,dec_T,true_and,one1,Option.bind_some, *,ldI,one1] | (with_reducible first | refine Zabv (by assumption) (by decide +kernel) ?_ | refine Zabu (by decide +kernel) ?_ | refine Zacc (by decide +kernel) ?_ | refine Zabx ?_))
        exact ⟨c.length - (k + 1),by omega,k + 1,u1,tk1,den1,rfl,by omega,hul1,htl1,hag,hu2,hd2,hrs,rfl⟩
      | false =>
        obtain ⟨k1,k2⟩:=cnt_or _ (by omega) came hcm k hlt hb
        have hgx:∃ x,x = c.getD k 0:=⟨_,rfl⟩;obtain ⟨x,hxx⟩:=hgx;rw [← hxx] at hrd hx;have hgz:∃ z,z = min x left:=⟨_,rfl⟩;obtain ⟨z,hz⟩:=hgz;have hmin:(if x > left then left else x) = z:=by rw [hz]; split <;> omega
        have hwl:IntKind.i64.wrap (left - z) = left - z:=IntWalk.i64_in _ (by omega)
        have hix2:aIndexAt Tryz.prog 22 (.slice (some ⟨tr,0,none⟩) c.length c.length) (.int .i64 (k:Int)) = some (.pointer (some ⟨tr,k,none⟩)):=by
          rw [ixI,if_pos ⟨by omega,by omega⟩,Int.toNat_natCast,Nat.zero_add,Nat.mul_one]
        obtain ⟨H2,st2,rs2⟩:=hrs.setT z (k:=k) (by omega)
        have ht2:∀ j,j < c.length → (came ||| 2 ^ k).testBit j = true → (tk1.set k z).getD j 0 = (tk.set k z).getD j 0:=fun j hj hjb => by
          rw [set_getD (by omega),set_getD (by omega)]
          by_cases hjk:j = k
          · rw [if_pos hjk,if_pos hjk]
          · rw [if_neg hjk,if_neg hjk];rw [or_bit] at hjb;refine hag j hj ?_
            cases hq2:came.testBit j with
            | true => rfl
            | false => rw [hq2] at hjb; simp at hjb; omega
        have hV:∀ i,i < c.length → VR c m (came ||| 2 ^ k) (left - z) (tk1.set k z) i = T k i:=fun i hi => by
          rw [VR_agree c (by omega) m _ _ _ _ i k2 (by omega) hi (by simp [htl1]) (by simp [htl]) ht2,hT k i,hb,hz,hxx]; rfl
        have hDk:DR c.length m (came ||| 2 ^ k) = D k:=by rw [hD k,hb]; rfl
        obtain ⟨H3,hR3,u3,tk3,rs3,hul3,htl3,hag3,hu3⟩:=ih (came ||| 2 ^ k) (left - z) u1 (tk1.set k z) den1 (H2.relow H2.size) k2 (by omega) (by omega) rs2.lowS hul1 (by simp [htl1]) (fun j hj hjb => by
            rw [ht2 j hj hjb,set_getD (by omega)]
            by_cases hjk:j = k
            · rw [if_pos hjk]; omega
            · rw [if_neg hjk];rw [or_bit] at hjb;refine htk j hj ?_
              cases hq2:came.testBit j with
              | true => rfl
              | false => rw [hq2] at hjb; simp at hjb; omega) (fun i hi => by
            rw [hV i hi,hu1 i hi];have h1:=hsT i hi;have h2:=hu' i hi
            have h3:=sum_nonneg (l:=(List.range k).map fun j => T j i) (fun y hy => by
              obtain ⟨q,hq,rfl⟩:=List.mem_map.1 hy
              exact hTn i hi q (by have:=List.mem_range.1 hq; omega))
            have h1':((List.range (k + 1)).map fun j => T j i).sum = ((List.range k).map fun j => T j i).sum + T k i:=h1.1
            have h1'':((List.range (k + 1)).map fun j => T j i).sum ≤ ((List.range c.length).map fun j => T j i).sum:=h1.2
            omega) (by
            rw [hDk,hd1]
            have h3:=sum_nonneg (l:=(List.range k).map D) (fun y hy => by
              obtain ⟨q,hq,rfl⟩:=List.mem_map.1 hy
              exact hDn q (by have:=List.mem_range.1 hq; omega))
            omega)
        have hu4:∀ i,i < c.length → u3.getD i 0 = u.getD i 0 + ((List.range (k + 1)).map fun j => T j i).sum:=fun i hi => by
          have h1':((List.range (k + 1)).map fun j => T j i).sum = ((List.range k).map fun j => T j i).sum + T k i:=(hsT i hi).1
          rw [h1',hu3 i hi,hV i hi,hu1 i hi]; omega
        have hd4:den1 + DR c.length m (came ||| 2 ^ k) = den + ((List.range (k + 1)).map D).sum:=by rw [hsD.1,hDk,hd1]; omega
        have hag4:∀ j,j < c.length → came.testBit j = true → tk3.getD j 0 = tk.getD j 0:=fun j hj hjb => by
          have hjk:j ≠ k:=fun h => by rw [h,hb] at hjb; cases hjb
          have hjb2:(came ||| 2 ^ k).testBit j = true:=by rw [or_bit,hjb]; rfl
          rw [hag3 j hj hjb2,ht2 j hj hjb2,set_getD (by omega),if_neg hjk]
        have rs4:=RS.lower rs2.keep rs3;have hL2:=rs2.keep.low hL0;have f3:=hR3.bx;have f4:=(only_runs hS k (by omega) (H2.relow H2.size)).bx
        have hor:IntKind.i64.wrap (((BitVec.ofInt IntKind.i64.bits (came:Int) ||| BitVec.ofInt IntKind.i64.bits ((2 ^ k:Nat):Int)).toNat:Nat):Int) = ((came ||| 2 ^ k:Nat):Int):=by
          rw [show (BitVec.ofInt IntKind.i64.bits (came:Int) ||| BitVec.ofInt IntKind.i64.bits ((2 ^ k:Nat):Int)).toNat = _ from bit_or came (by omega) k (by omega)]
          exact wrapN (by omega)
        obtain ⟨y0,y1,y2,y3,y4⟩:=hrs.rd;obtain ⟨w0,w1,w2,w3,w4⟩:=rs2.rd;rw [hb] at hf2;have hdn:∃ dn,dn = den1 + DR c.length m (came ||| 2 ^ k):=⟨_,rfl⟩;obtain ⟨dn,hdn⟩:=hdn;rw [← hdn] at rs4 hd4;clear hpo hsT hsD hu1 hd1 hu' hd hl1 hl hc hTn hDn hT hD htk hx hcm hct rs2 rs3 hV hDk ht2 ih hxx hz hR3 hu3 hag hag3 hul1 htl1 hrs hdn k1 k2
        repeat' (first | simp only [↓Zabs,↓Zabn,↓Zabp,↓Zabr,↓Zaae,↓Zabm,↓Zabo,↓Zacj,↓Zaci,↓Zacd,↓Zaag,↓Zacb,↓Zaca,↓Zabw,↓sxD_same,↓Zaco,↓Zaaq,↓Zaaj,↓Zaap,↓Zaas,↓Zaak,↓bxOp_un,↓Zaan,↓Zaat,↓bxOp_min,↓Zacl,↓bxPut,↓Zabk,↓Zabj,↓Zaad,↓Zaac,↓Zabf,↓Zabe,↓resQ_normal,↓Zacm,↓Zacp,↓Zaba,↓Zaay,↓Zaaz,Zack,mm_min,Zaab,Zabd,una_nf,Zabt,Zach,List.map_cons,List.map_nil,List.nil_append,List.cons_append,List.append_nil,↓reduceIte,Nat.reduceEqDiff,Nat.reduceLT,dec_T,true_and,Zaaa,one1,Option.bind_some, *,ldI,ldIs,ldF2,one1,Zabd] | (with_reducible first | refine Zabv (by assumption) (by decide +kernel) ?_ | refine Zabu (by decide +kernel) ?_ | refine Zacc (by decide +kernel) ?_ | refine Zabx ?_))
        exact ⟨c.length - (k + 1),by omega,k + 1,u3,tk3,dn,rfl,by omega,hul3,htl3,hag4,hu4,hd4,rs4,rfl⟩
    · have hlt':¬ (k:Int) < (c.length:Int):=by omega
      have hke:k = c.length:=by omega
      subst hke;have hfin:=hpo H1 u1 tk1 (by rw [← hd1]; exact hrs) hul1 htl1 hag hu1
      clear hpo hu1 hd1 hu' hd hl hc hTn hDn hT hD htk hcm hct hrs hag ih
      repeat' (first | simp only [↓Zabs,↓Zabn,↓Zabp,↓Zabr,↓Zaae,↓Zabm,↓Zabo,↓Zacj,↓Zaci,↓Zacd,↓Zaag,↓Zacb,↓Zaca,↓Zabw,↓Zaco,↓Zaaq,↓Zaaj,↓Zaap,↓Zaas,↓Zaak,↓bxOp_un,↓Zaan,↓Zaat,↓bxOp_min,↓Zacl,↓bxPut,↓Zabk,↓Zabj,↓Zaad,↓Zaac,↓Zabf,↓Zabe,↓resQ_normal,↓Zacm,↓Zacp,↓Zaba,↓Zaay,↓Zaaz,Zack,Zaab,Zabd,Zabt,Zacg,List.nil_append,↓reduceIte,Nat.reduceLT,dec_F,and_self, *] | (with_reducible first | refine Zabv (by assumption) (by decide +kernel) ?_ | refine Zabu (by decide +kernel) ?_ | refine Zacc (by decide +kernel) ?_ | refine Zabx ?_))
end Go.Proofs.YtpeoleimmabceaaGreat
