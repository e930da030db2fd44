/- Claims less losses; shares in proportion; halves, by the program. -/
import Derived.Test.YtpeoleimmabceaaGreatE5
set_option linter.unusedVariables false
set_option linter.unusedSimpArgs false
set_option linter.unusedSectionVars false

namespace Go.Proofs.YtpeoleimmabceaaGreat
open Go Go.AM
set_option maxRecDepth 10000

def zipL (c w:List Int) (d:Int):List Int:=(List.range c.length).map fun i => c.getD i 0 * d - w.getD i 0
theorem zipL_len (c w:List Int) (d:Int):(zipL c w d).length = c.length:=by simp [zipL]
theorem zipL_at {c w:List Int} {d:Int} {i:Nat} (hi:i < c.length):(zipL c w d).getD i 0 = c.getD i 0 * d - w.getD i 0:=by
  unfold zipL;rw [List.getD_eq_getElem?_getD,List.getElem?_map,List.getElem?_range hi]; rfl

variable {S:AM.Sys} (hS:Only S 5)
include hS

set_option maxHeartbeats 4000000 in
theorem less_parts_runs (v v2:Value) (c w:List Int) (d:Int) (r o r2 o2:Nat) (H:Heap) (hg:Grp H) (hL:H.low ≤ H.size) (hl:SlI .i64 H v c r o) (hl2:SlI .i64 H v2 w r2 o2) (hw:w.length = c.length) (h7:c.length ≤ 7) (hc:∀ x ∈ c,0 ≤ x ∧ x ≤ 100000)
    (hd:1 ≤ d ∧ d ≤ 14) (hwc:∀ i,i < c.length → 0 ≤ w.getD i 0 ∧ w.getD i 0 ≤ c.getD i 0 * d) :
    ∃ u H',Runs Tryz.prog S (.fn 39) [v,.agg ⟨[v2,.int .i64 d]⟩] H u H' ∧ Keep H H' ∧ PV H H' u (zipL c w d) d:=by
  suffices h:WCall Tryz.prog S (.fn 39) [v,.agg ⟨[v2,.int .i64 d]⟩] H (fun u H' => Keep H H' ∧ PV H H' u (zipL c w d) d) by
    obtain ⟨u,H',hr,h⟩:=h; exact ⟨u,H',hr,h⟩
  have hml:=hl.ml;obtain ⟨va,vc,rfl⟩:=hl.v0;obtain ⟨wa,wc,rfl⟩:=hl2.v0;rw [hw];obtain ⟨H1,e1,k1,s1,rd2,rd0,rd1⟩:=Q.boxP H (.slice wa c.length wc) (.int .i64 d);obtain ⟨H2,e2,k2,s2,-,-⟩:=box1 H1 [.slice none 0 0,.int .i64 0] 26;have ow2:Own H2 H1.size 26 [.slice none 0 0,.int .i64 0]:=e2 ▸ Own.new H1 _ _;have al2:aAlloc Tryz.prog H1 26 = some (.pointer (some ⟨H1.size,0,none⟩),H2):=by rw [alP,e2]
  have K2:=k1.trans k2;have lw2:=K2.low hL;obtain ⟨H4',H4,e4,d4,k4,l4,o4,z4⟩:=allocD ((List.replicate c.length (0:Int)).map fun z => .int .i64 z) 3 lw2
  have hmk:=mkI (H2.relow H2.size) (l:=(c.length:Int)) (by omega) (by omega)
  rw [Int.toNat_natCast,e4] at hmk;obtain ⟨H5',H5,e5,d5,k5,l5,o5,z5⟩:=allocD [.slice none 0 0,.int .i64 0] 26 l4;have al5:aAlloc Tryz.prog (H4.relow H4.size) 26 = some (.pointer (some ⟨H4.size,0,none⟩),H5'):=by rw [alP,e5]; rfl
  have hr5:H2.size ≤ H4.size:=by omega
  have hne:H2.size ≠ H4.size:=by omega
  obtain ⟨H6',H6,p6,q6,k6,z6,l6,o6,rr6⟩:=stPD (k4.trans k5) hr5 l5 o5 rfl (some ⟨H2.size,0,none⟩) c.length c.length d;have o46:=rr6 _ _ _ hne (o4.keep k5);have m41:=(k2.trans k4).read s1 rd1;have z12:H1.size < H2.size:=s2;clear z5 z6 rr6 z4 o5 o4 e4 e5 e2;refine Zaaw Tryz.func39 rfl (Nat.le_of_ble_eq_true rfl) (hS.no rfl _ _) ?_
  rw [Tryz.ntmps39,Tryz.results39]
  repeat' (first | simp only [↓Zabn,↓Zabp,↓Zabr,↓Zaaf,↓Zabm,↓Zabq,↓Zacj,↓Zaci,↓Zacd,↓Zaag,↓Zacb,↓sxDL_alloc,↓sxDL_build,↓Zaca,↓sxDL_makeSlice,↓Zaby,↓sxD_same,↓Zaco,↓Zaaq,↓Zaah,↓bxOp_box,↓bxOp_build,↓Zaap,↓Zaas,↓bxOp_makeSlice,↓Zaam,↓Zaao,↓Zacl,↓bxPut,↓Zabk,↓Zabi,↓Zacm,↓Zaau,↓Zacp,↓Zaba,↓Zaay,Zack,Zabg,List.map_cons,List.map_nil,↓reduceIte,Nat.reduceEqDiff,Nat.reduceLT,size_relow,Zaaa,one1,Option.bind_some, *,argF,List.getD_cons_zero,List.getD_cons_succ,lenI,bdP2,paG1,ldI,Q.cells_agg,Nat.zero_add] | (with_reducible first | refine Zabv (by assumption) (by decide +kernel) ?_ | refine Zabu (by decide +kernel) ?_ | refine Zacc (by decide +kernel) ?_ | refine Zabx ?_))
  refine sxL_of (fun m ρ H8 => ∃ (k:Nat) (u:List Int),m = c.length - k ∧ k ≤ c.length ∧ u.length = c.length ∧ (∀ i,i < k → u.getD i 0 = c.getD i 0 * d - w.getD i 0) ∧ Keep H2 H8 ∧ H8.low ≤ H8.size ∧ Own H8 H2.size 3 (u.map fun z => .int .i64 z) ∧ Own H8 H4.size 26 [.slice (some ⟨H2.size,0,none⟩) c.length c.length,.int .i64 d] ∧
      ρ 3 = .pointer (some ⟨H.size,0,none⟩) ∧ ρ 4 = .pointer (some ⟨H1.size,0,none⟩) ∧ ρ 5 = .pointer (some ⟨H4.size,0,none⟩) ∧ ρ 14 = .slice va c.length vc ∧ ρ 15 = .int .i64 (c.length:Int) ∧ ρ 16 = .int .i64 (k:Int))
    ⟨0,List.replicate c.length 0,rfl,Nat.zero_le _,by simp,(fun i hi => absurd hi (Nat.not_lt_zero i)),k6,l6,o46,o6,rfl,rfl,rfl,rfl,rfl,rfl⟩ ?_
  clear hmk al2 al5 p6 q6 o46 o6 d4 d5 m41 e1;rintro m ρ H8 ⟨k,u,rfl,hk,hul,hu,k28,lw8,o8,p8,e3,e4,e5,e14,e15,e16⟩;have hk08:=K2.trans k28;have hob:=ownP p8;obtain ⟨y0,y1,y2⟩:=hob;have x0:=(k2.trans k28).read s1 rd0;have x1:=(k2.trans k28).read s1 rd1
  by_cases hlt:k < c.length
  · have hlt':(k:Int) < (c.length:Int):=by omega
    have hwr:=wrap_succ hlt hml;have hl8:=hl.keep hk08;have hix:=SlI_ix hl8 hlt;have hrd:=(hl8.rdI hlt).1;have hm8:=hl2.keep hk08;have hltw:k < w.length:=by omega
    have hixw:=SlI_ix hm8 hltw;rw [hw] at hixw;have hrdw:=(hm8.rdI hltw).1;have hx:=hc _ (Zabb (d:=0) hlt);have hy:=hwc k hlt;have hgx:∃ x,x = c.getD k 0:=⟨_,rfl⟩;obtain ⟨x,hxx⟩:=hgx;have hgy:∃ y,y = w.getD k 0:=⟨_,rfl⟩;obtain ⟨y,hyy⟩:=hgy;have hu2:∀ z,z = x * d - y → ∀ i,i < k + 1 → (u.set k z).getD i 0 = c.getD i 0 * d - w.getD i 0:=fun z hz i hi => by
      rw [set_getD (by omega)]
      by_cases hik:i = k
      · rw [if_pos hik,hik,← hxx,← hyy,hz]
      · rw [if_neg hik]; exact hu i (by omega)
    rw [← hxx] at hrd hx hy;rw [← hyy] at hrdw hy;have hm2:x * d ≤ 100000 * 14:=Int.mul_le_mul hx.2 hd.2 (by omega) (by omega)
    have hwm:IntKind.i64.wrap (x * d) = x * d:=IntWalk.i64_in _ (by omega)
    have hws:IntKind.i64.wrap (x * d - y) = x * d - y:=IntWalk.i64_in _ (by omega)
    have hix2:aIndexAt Tryz.prog 22 (.slice (some ⟨H2.size,0,none⟩) c.length c.length) (.int .i64 (k:Int)) = some (.pointer (some ⟨H2.size,k,none⟩)):=by
      rw [ixI,if_pos ⟨by omega,by omega⟩,Int.toNat_natCast,Nat.zero_add,Nat.mul_one]
    have hob:=stID k28 (Nat.le_refl _) lw8 o8 (x * d - y) (o:=k) (by omega)
    obtain ⟨H9',H9,st9,q9,k9,z9,l9,o9,rr9⟩:=hob;have p9:=rr9 _ _ _ (Ne.symm hne) p8;have hu2:=hu2 _ rfl;have hul2:(u.set k (x * d - y)).length = c.length:=by rw [List.length_set,hul]
    have hgu:∃ u2,u2 = u.set k (x * d - y):=⟨_,rfl⟩;obtain ⟨u2,hu2'⟩:=hgu;rw [← hu2'] at hu2 hul2 o9;clear hl8 hm8 hl hl2 hu hul rr9 o8 p8 z9 hu2' hxx hyy hc hwc hw
    repeat' (first | simp only [↓Zabs,↓Zabn,↓Zabp,↓Zabr,↓Zaae,↓Zabm,↓Zabo,↓Zacj,↓Zaci,↓Zacd,↓Zaag,↓Zacb,↓Zaca,↓Zabw,↓Zaby,↓Zabz,↓sxD_same,↓Zaco,↓Zaaq,↓Zaaj,↓Zaap,↓Zaas,↓Zaak,↓Zaam,↓Zaan,↓Zacl,↓bxPut,↓Zabk,↓Zabj,↓Zaad,↓Zaac,↓Zabf,↓Zabe,↓Zacp,↓Zaba,↓Zaay,Zack,Zaab,Zabd,Zach,↓reduceIte,Nat.reduceEqDiff,Nat.reduceLT,dec_T,true_and,Zaaa,Nat.add_zero,one1,Option.bind_some, *,paG0,paG1,ldI,ldIs,Nat.zero_add] | (with_reducible first | refine Zabv (by assumption) (by decide +kernel) ?_ | refine Zabu (by decide +kernel) ?_ | refine Zacc (by decide +kernel) ?_ | refine Zabx ?_))
    exact ⟨c.length - (k + 1),by omega,k + 1,u2,rfl,by omega,hul2,hu2,by assumption,rfl⟩
  · have hlt':¬ (k:Int) < (c.length:Int):=by omega
    have hob:=stP (ow2.keep k28) rfl (some ⟨H2.size,0,none⟩) c.length c.length d;obtain ⟨H9,st9,o9,z9,rr9,kk9⟩:=hob;have k09:=kk9 H hk08 (Nat.le_of_lt s1);have o9n:=rr9 _ _ _ (by omega) o8
    have hum:u = zipL c w d:=list_is _ hul (zipL_len c w d) (fun i hi => hu i (by omega)) (fun i hi => zipL_at hi)
    have hrg:∀ z ∈ u,IntKind.i64.min ≤ z ∧ z ≤ IntKind.i64.max:=all_of (d:=0) fun i hi => by
      rw [hu i (by omega)]
      have h1:=hc _ (Zabb (l:=c) (k:=i) (d:=0) (by omega))
      have h2:=hwc i (by omega)
      have h3:c.getD i 0 * d ≤ 100000 * 14:=Int.mul_le_mul h1.2 hd.2 (by omega) (by omega)
      have h5:IntKind.i64.min = -9223372036854775808:=rfl;have h6:IntKind.i64.max = 9223372036854775807:=rfl;omega
    have hsl:=Own.sl o9n hrg (by rw [hul]; exact hml) c.length
    rw [hul] at hsl;rw [hum] at hsl;have hob:=ownP o9;obtain ⟨w0,w1,w2⟩:=hob;have hpv:PV H H9 (.agg ⟨[.slice (some ⟨H2.size,0,none⟩) c.length c.length,.int .i64 d]⟩) (zipL c w d) d:=⟨_,_,rfl,hsl,by omega⟩
    clear hl hl2 hu hul rr9 kk9 o8 p8 o9 o9n hrg ow2 hum hsl z9 x0 x1 hw
    repeat' (first | simp only [↓Zabs,↓Zabn,↓Zabp,↓Zabr,↓Zaae,↓Zabm,↓Zabo,↓Zacj,↓Zaci,↓Zacd,↓Zaag,↓Zacb,↓Zaca,↓Zabw,↓Zaby,↓Zabz,↓Zaco,↓Zaaq,↓Zaaj,↓Zaap,↓Zaas,↓Zaak,↓Zaam,↓Zaan,↓Zacl,↓bxPut,↓Zabk,↓Zabj,↓Zaad,↓Zaac,↓Zabf,↓Zabe,↓Zacp,↓Zaba,↓Zaay,Zack,Zaab,Zabd,Zacg,↓reduceIte,Nat.reduceEqDiff,Nat.reduceLT,dec_F,and_self,Option.map_some, *,ldP] | (with_reducible first | refine Zabv (by assumption) (by decide +kernel) ?_ | refine Zabu (by decide +kernel) ?_ | refine Zacc (by decide +kernel) ?_ | refine Zabx ?_))
end Go.Proofs.YtpeoleimmabceaaGreat
