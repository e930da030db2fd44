/- Parts of one's own; lowest terms, by the program. -/
import Derived.Test.YtpeoleimmabceaaGreatBM
import Derived.Test.YtpeoleimmabceaaGreatE2
import Derived.Test.YtpeoleimmabceaaGreatE1
import Derived.Sort.Defs
import Derived.Sort.AssemblyPlain
set_option linter.unusedVariables false
set_option linter.unusedSimpArgs false
set_option linter.unusedSectionVars false

namespace Go.Proofs.YtpeoleimmabceaaGreat
open Go Go.AM
set_option maxRecDepth 10000
def twice (e a b:Int):Int:=e + max 0 (e - b) - max 0 (e - a)
theorem allocD (l:List Value) (t:TypeId) {H:Heap} (hL:H.low ≤ H.size) :
    ∃ Ha Hb,(H.relow H.size).newExact l t = Ha ∧ (∀ (all:List Oper) (n:Nat) (k:Heap → Prop),sxD all n H Ha k = k Hb) ∧ Keep H Hb ∧ Hb.low ≤ Hb.size ∧ Own Hb H.size t l ∧ Hb.size = H.size + 1:=by
  obtain ⟨Ha,e1,k1,_,z1,_⟩:=box1 (H.relow H.size) l t;have ow:Own Ha H.size t l:=e1 ▸ Own.new (H.relow H.size) _ _;exact ⟨Ha,Ha.relow (Nat.min H.low Ha.low),e1,fun all n k => sxD_keep k1 k,Keep.draw k1,(Keep.draw k1).low hL,ow.addr,z1⟩
theorem stPD {H0 H:Heap} {r:Nat} {cells:List Value} (hk:Keep H0 H) (hr:H0.size ≤ r) (hL:H.low ≤ H.size) (ow:Own H r 26 cells) (hl:cells.length = 2) (a:Option Addr) (n c:Nat) (z:Int) :
    ∃ Ha Hb,aStore Tryz.prog (H.relow H.size) 26 (.pointer (some ⟨r,0,none⟩)) (.agg ⟨[.slice a n c,.int .i64 z]⟩) = some Ha ∧ Ha.relow (Nat.min H.low Ha.low) = Hb ∧ Keep H0 Hb ∧ Hb.size = H.size ∧ Hb.low ≤ Hb.size ∧ Own Hb r 26 [.slice a n c,.int .i64 z] ∧ (∀ r' e' c',r' ≠ r → Own H r' e' c' → Own Hb r' e' c'):=by
  obtain ⟨Ha,h1,h2,h3,h4,h5⟩:=stP (ow.addr (l:=H.size)) hl a n c z;refine ⟨Ha,_,h1,rfl,Keep.lower hk (h5 H0 (hk.trans (Keep.relowS _)) hr),h3,?_,h2.addr,fun r' e' c' hne ho => (h4 r' e' c' hne ho.addr).addr⟩
  show Nat.min H.low Ha.low ≤ Ha.size;rw [h3];exact Nat.le_trans (Nat.min_le_left _ _) hL
theorem stID {H0 H:Heap} {r:Nat} {w:List Int} (hk:Keep H0 H) (hr:H0.size ≤ r) (hL:H.low ≤ H.size) (ow:Own H r 3 (w.map fun z => .int .i64 z)) (z:Int) {o:Nat} (ho:o < w.length) :
    ∃ Ha Hb,aStore Tryz.prog (H.relow H.size) 3 (.pointer (some ⟨r,o,none⟩)) (.int .i64 z) = some Ha ∧ Ha.relow (Nat.min H.low Ha.low) = Hb ∧ Keep H0 Hb ∧ Hb.size = H.size ∧ Hb.low ≤ Hb.size ∧ Own Hb r 3 ((w.set o z).map fun z => .int .i64 z) ∧ (∀ r' e' c',r' ≠ r → Own H r' e' c' → Own Hb r' e' c'):=by
  obtain ⟨i,_,hi,hs,_⟩:=infoI;obtain ⟨Ha,h1,h2,h3,h4,h5⟩:=(ow.addr (l:=H.size)).store (t:=3) hi (v:=.int .i64 z) (new:=[.int .i64 z]) rfl (hs.trans rfl) rfl (o:=o) (by rw [List.length_map]; exact ho)
  rw [splice_map ho] at h2;refine ⟨Ha,_,h1,rfl,Keep.lower hk (h5 H0 (hk.trans (Keep.relowS _)) hr),h3,?_,h2.addr,fun r' e' c' hne hw => (h4 r' e' c' hne hw.addr).addr⟩
  show Nat.min H.low Ha.low ≤ Ha.size;rw [h3];exact Nat.le_trans (Nat.min_le_left _ _) hL
theorem bdP2 (a:Option Addr) (n c:Nat) (z:Int):aBuild Tryz.prog 26 [(0,.slice a n c),(1,.int .i64 z)] = some (.agg ⟨[.slice a n c,.int .i64 z]⟩):=by kernel_rfl

variable {S:AM.Sys} (hS:Only S 5)
include hS

theorem qlow_runs (v:Value) (w:List Int) (d:Int) (r o:Nat) (H:Heap) (hg:Grp H) (hL:H.low ≤ H.size) (hl:SlI .i64 H v w r o) (hp:∀ x ∈ w,0 ≤ x) (hs:w.length ≤ 1000) (hd:0 < d ∧ d ≤ 9223372036854775807) :
    ∃ H' v' r',Keep H H' ∧ Grp H' ∧ SlI .i64 H' v' (w.map fun x => x / Q.gcdAll d w) r' 0 ∧ H.size ≤ r' ∧ v' = .slice (some ⟨r',0,none⟩) w.length w.length ∧ Own H' r' 3 ((w.map fun x => x / Q.gcdAll d w).map fun z => .int .i64 z) ∧ Runs Tryz.prog S (.fn 16) [.agg ⟨[v,.int .i64 d]⟩] H (.agg ⟨[v',.int .i64 (d / Q.gcdAll d w)]⟩) H':=by
  suffices h:WCall Tryz.prog S (.fn 16) [.agg ⟨[v,.int .i64 d]⟩] H (fun u H' => ∃ v' r',u = .agg ⟨[v',.int .i64 (d / Q.gcdAll d w)]⟩ ∧ Keep H H' ∧ Grp H' ∧ SlI .i64 H' v' (w.map fun x => x / Q.gcdAll d w) r' 0 ∧ H.size ≤ r' ∧ v' = .slice (some ⟨r',0,none⟩) w.length w.length ∧ Own H' r' 3 ((w.map fun x => x / Q.gcdAll d w).map fun z => .int .i64 z)) by
    obtain ⟨_,H',hr,v',r',rfl,h1,h2,h3,h4,h5,h6⟩:=h; exact ⟨H',v',r',h1,h2,h3,h4,h5,h6,hr⟩
  obtain ⟨a,cap,rfl⟩:=hl.v0;have hml:=hl.ml;obtain ⟨H1,e1,k1,s1,rd2,rd0,rd1⟩:=Q.boxP H (.slice a w.length cap) (.int .i64 d);obtain ⟨H2,e2,k2,s2,-,-⟩:=box1 H1 [.slice none 0 0,.int .i64 0] 26;have ow2:Own H2 H1.size 26 [.slice none 0 0,.int .i64 0]:=e2 ▸ Own.new H1 _ _;have l2:=(k1.trans k2).low hL;obtain ⟨H3,k3,R3⟩:=Q.cdiv_runs hS _ w d r o H2 (hl.keep (k1.trans k2)) hp hd;have f3:=R3.bx;have l3:=k3.low l2;have hgp:=Q.gcdAll_pos d w hd.1;generalize hG:Q.gcdAll d w = G at *;obtain ⟨H4',H4,e4,d4,k4,l4,o4,z4⟩:=allocD ((List.replicate w.length (0:Int)).map fun z => .int .i64 z) 3 l3
  have hmk:=mkI (H3.relow H3.size) (l:=(w.length:Int)) (by omega) (by omega)
  rw [Int.toNat_natCast,e4] at hmk;obtain ⟨H5',H5,e5,d5,k5,l5,o5,z5⟩:=allocD [.slice none 0 0,.int .i64 0] 26 l4;have hr5:H3.size ≤ H4.size:=by omega
  have hne:H3.size ≠ H4.size:=by omega
  have z35:H3.size < H4.size:=by omega
  obtain ⟨H6',H6,p6,q6,k6,z6,l6,o6,rr6⟩:=stPD (k4.trans k5) hr5 l5 o5 rfl (some ⟨H3.size,0,none⟩) w.length w.length (d / G);have o46:=rr6 _ _ _ hne (o4.keep k5);clear z4 z5 z6 rr6;have ks:=(k2.trans k3).read s1 rd2;have ks0:=(k2.trans k3).read s1 rd0;have m2:=k2.read s1 rd2;have m40:=((k2.trans k3).trans k4).read s1 rd0;have m41:=((k2.trans k3).trans k4).read s1 rd1;have m31:=(k2.trans k3).read s1 rd1;have m60:=((k2.trans k3).trans k6).read s1 rd0;have hG0:¬ G = 0:=by omega
  have fdv:IntKind.i64.wrap (d.tdiv G) = d / G:=by
    have h0:=Int.ediv_nonneg (show 0 ≤ d by omega) (show 0 ≤ G by omega)
    have h1:=Int.ediv_le_self G (show 0 ≤ d by omega)
    rw [Int.tdiv_eq_ediv_of_nonneg (by omega),IntWalk.i64_in _ (by omega)]
  refine Zaaw Tryz.func16 rfl (Nat.le_of_ble_eq_true rfl) (hS.no rfl _ _) ?_
  rw [Tryz.ntmps16,Tryz.results16];have hlk:=hl;clear hl R3
  repeat' (first | simp only [↓Zabn,↓Zabp,↓Zabr,↓Zaaf,↓Zabm,↓Zabq,↓Zacj,↓Zaci,↓Zacd,↓Zaag,↓Zacb,↓sxDL_alloc,↓sxDL_build,↓Zaca,↓Zabw,↓sxDL_makeSlice,↓Zaby,↓sxD_same,↓Zaco,↓Zaaq,↓Zaaj,↓Zaah,↓bxOp_box,↓bxOp_build,↓Zaap,↓Zaas,↓Zaak,↓bxOp_makeSlice,↓Zaam,↓Zaat,↓Zaao,↓Zacl,↓bxPut,↓Zabk,↓Zabi,↓Zacm,↓Zaau,↓Zacp,↓Zaba,↓Zaay,↓Zaaz,Zack,Zaab,Zabd,Zabt,Zabg,List.map_cons,List.map_nil,List.nil_append,List.append_nil,↓reduceIte,Nat.reduceEqDiff,Nat.reduceLT,size_relow,Zaaa,Nat.add_zero,one1,Option.bind_some,ne_eq,not_false_eq_true,Option.map_some, *,argF,List.getD_cons_zero,lenI,alP,ldP,bdP2,paG0,paG1,ldI,ldIs,Q.cells_agg,Nat.zero_add] | (with_reducible first | refine Zabv (by assumption) (by decide +kernel) ?_ | refine Zabu (by decide +kernel) ?_ | refine Zacc (by decide +kernel) ?_ | refine Zabx ?_))
  refine sxL_of (fun m ρ H7 => ∃ (k:Nat) (u:List Int),m = w.length - k ∧ k ≤ w.length ∧ u.length = w.length ∧ (∀ i,i < k → u.getD i 0 = w.getD i 0 / G) ∧ Keep H3 H7 ∧ Own H7 H3.size 3 (u.map fun z => .int .i64 z) ∧ Own H7 H4.size 26 [.slice (some ⟨H3.size,0,none⟩) w.length w.length,.int .i64 (d / G)] ∧
      ρ 2 = .pointer (some ⟨H1.size,0,none⟩) ∧ ρ 3 = .int .i64 G ∧ ρ 4 = .pointer (some ⟨H4.size,0,none⟩) ∧ ρ 19 = .slice a w.length cap ∧ ρ 20 = .int .i64 w.length ∧ ρ 21 = .int .i64 k)
    ⟨0,List.replicate w.length 0,rfl,Nat.zero_le _,by simp,(fun i hi => absurd hi (Nat.not_lt_zero i)),k6,o46,o6,rfl,rfl,rfl,rfl,rfl,rfl⟩ ?_
  clear e1 rd2 rd0 rd1 e2 ks ks0 m2 m40 m41 m31 m60 o4 o5 o6 o46 p6 q6 hmk e4 e5;rintro m ρ H7 ⟨k,u,rfl,hk,hul,hu,k37,o7,p7,e2,e3,e4,e19,e20,e21⟩;have l7:=k37.low l3;have hk07:=(k1.trans k2).trans (k3.trans k37);obtain ⟨y0,y1,y2⟩:=ownP p7
  by_cases hlt:k < w.length
  · have hlt':(k:Int) < (w.length:Int):=by omega
    have hwr:=wrap_succ hlt hlk.ml;have hl7:=hlk.keep hk07;have hix:=SlI_ix hl7 hlt;have hrd:=(hl7.rdI hlt).1;have hrg:=hl7.rng k;have hxk:=hp _ (Zabb (d:=0) hlt);have hmx:IntKind.i64.max = 9223372036854775807:=rfl;have fdv2:IntKind.i64.wrap ((w.getD k 0).tdiv G) = w.getD k 0 / G:=by
      have h0:=Int.ediv_nonneg (show 0 ≤ w.getD k 0 by omega) (show 0 ≤ G by omega)
      have h1:=Int.ediv_le_self G (show 0 ≤ w.getD k 0 by omega)
      rw [Int.tdiv_eq_ediv_of_nonneg (by omega),IntWalk.i64_in _ (by omega)]
    obtain ⟨H8',H8,p8,q8,k8,z8,l8,o8,rr8⟩:=stID k37 (Nat.le_refl _) l7 o7 (w.getD k 0 / G) (o:=k) (by omega)
    have p8':=rr8 _ _ _ (Ne.symm hne) p7;have hix2:aIndexAt Tryz.prog 22 (.slice (some ⟨H3.size,0,none⟩) w.length w.length) (.int .i64 (k:Int)) = some (.pointer (some ⟨H3.size,k,none⟩)):=by
      rw [ixI,if_pos ⟨by omega,by omega⟩,Int.toNat_natCast,Nat.zero_add,Nat.mul_one]
    have hu2:∀ i,i < k + 1 → (u.set k (w.getD k 0 / G)).getD i 0 = w.getD i 0 / G:=fun i hi => by
      rw [set_getD (by omega)]
      by_cases hik:i = k
      · rw [if_pos hik,hik]
      · rw [if_neg hik]; exact hu i (by omega)
    have hul2:(u.set k (w.getD k 0 / G)).length = w.length:=by rw [List.length_set,hul]
    generalize u.set k (w.getD k 0 / G) = u2 at *;generalize w.getD k 0 / G = wk at *;clear hl7 hlk hp hrg hxk hu hul z8 rr8 o7 p7 hmx
    repeat' (first | simp only [↓Zabs,↓Zabn,↓Zabp,↓Zabr,↓Zaae,↓Zabm,↓Zabo,↓Zacj,↓Zaci,↓Zacd,↓Zaag,↓Zacb,↓Zaca,↓Zabw,↓Zaby,↓Zabz,↓sxD_same,↓Zaco,↓Zaaq,↓Zaaj,↓Zaap,↓Zaas,↓Zaak,↓Zaam,↓Zaan,↓Zacl,↓bxPut,↓Zabk,↓Zabj,↓Zaad,↓Zaac,↓Zabf,↓Zabe,↓Zacp,↓Zaba,↓Zaay,Zack,Zaab,Zabd,Zach,↓reduceIte,Nat.reduceEqDiff,Nat.reduceLT,dec_T,true_and,Zaaa,Nat.add_zero,one1,Option.bind_some,ne_eq,not_false_eq_true, *,paG0,ldI,ldIs] | (with_reducible first | refine Zabv (by assumption) (by decide +kernel) ?_ | refine Zabu (by decide +kernel) ?_ | refine Zacc (by decide +kernel) ?_ | refine Zabx ?_))
    exact ⟨_,by omega,k + 1,u2,rfl,by omega,hul2,hu2,by assumption,rfl⟩
  · have hlt':¬ (k:Int) < (w.length:Int):=by omega
    obtain ⟨H8,p8,o8,z8,rr8,kk8⟩:=stP ((ow2.keep k3).keep k37) rfl (some ⟨H3.size,0,none⟩) w.length w.length (d / G);have k08:=kk8 H hk07 k1.size;have g08:=k08.grp hg;have hsz:H1.size < H3.size:=Nat.lt_of_lt_of_le s2 k3.size;have o8n:=rr8 _ _ _ (by omega) o7
    have hum:w.map (fun x => x / G) = u:=by
      apply List.ext_getElem?;intro i;rw [List.getElem?_map]
      by_cases hi:i < w.length
      · have h1:=hu i (by omega)
        rw [List.getD_eq_getElem?_getD,List.getD_eq_getElem?_getD,List.getElem?_eq_getElem hi,List.getElem?_eq_getElem (by omega)] at h1
        rw [List.getElem?_eq_getElem hi,List.getElem?_eq_getElem (by omega)]
        simpa using h1.symm
      · rw [List.getElem?_eq_none (by omega),List.getElem?_eq_none (by omega)]; rfl
    have hrg:∀ z ∈ u,IntKind.i64.min ≤ z ∧ z ≤ IntKind.i64.max:=fun z hz => by
      rw [← hum] at hz;obtain ⟨x,hx,rfl⟩:=List.mem_map.1 hz;have h1:=hp x hx;obtain ⟨j,hj,hxj⟩:=List.getElem_of_mem hx;have h2:=(hlk.rdI hj).2;rw [List.getD_eq_getElem?_getD,List.getElem?_eq_getElem hj] at h2;simp only [Option.getD_some,hxj] at h2;have h3:=Int.ediv_nonneg h1 (show 0 ≤ G by omega)
      have h4:=Int.ediv_le_self G h1;have h5:IntKind.i64.min = -9223372036854775808:=rfl;omega
    have hsl:=Own.sl o8n hrg (by rw [hul]; exact hml) w.length
    rw [hul] at hsl;have hfr:H.size ≤ H3.size:=by have:=k1.size; omega
    obtain ⟨x0,x1,x2⟩:=ownP o8;clear hlk hp hu hul z8 rr8 kk8 o7 p7 o8 hrg ow2
    repeat' (first | simp only [↓Zabs,↓Zabn,↓Zabp,↓Zabr,↓Zaae,↓Zabm,↓Zabo,↓Zacj,↓Zaci,↓Zacd,↓Zaag,↓Zacb,↓Zaca,↓Zabw,↓Zaby,↓Zabz,↓Zaco,↓Zaaq,↓Zaaj,↓Zaap,↓Zaas,↓Zaak,↓Zaam,↓Zaan,↓Zacl,↓bxPut,↓Zabk,↓Zabj,↓Zaad,↓Zaac,↓Zabf,↓Zabe,↓Zacp,↓Zaba,↓Zaay,Zack,Zaab,Zabd,Zacg,↓reduceIte,Nat.reduceEqDiff,Nat.reduceLT,dec_F,true_and,Option.map_some, *,ldP] | (with_reducible first | refine Zabv (by assumption) (by decide +kernel) ?_ | refine Zabu (by decide +kernel) ?_ | refine Zacc (by decide +kernel) ?_ | refine Zabx ?_))
    exact ⟨_,_,rfl,hsl,hfr,rfl,o8n⟩
end Go.Proofs.YtpeoleimmabceaaGreat

namespace Go.Proofs.YtpeoleimmabceaaGreat
open Go Go.AM
set_option maxRecDepth 10000
theorem ixJ (r n c:Nat) (k:IntKind) (i:Int):aIndexAt Tryz.prog 22 (.slice (some ⟨r,0,none⟩) n c) (.int k i) = if 0 ≤ i ∧ i < (n:Int) then some (.pointer (some ⟨r,0 + i.toNat * 1,none⟩)) else none:=by kernel_rfl
theorem ldJ (H:Heap) (r o:Nat):aLoad Tryz.prog H 3 (.pointer (some ⟨r,o,none⟩)) = ((H.read r o 1).bind one1):=by kernel_rfl
theorem infoJ:∃ i,Tryz.prog.info? 3 = some i ∧ i.size = 1:=Option.map_eq_some_iff.1 (show (Tryz.prog.info? 3).map (·.size) = some 1 by kernel_rfl)
abbrev SaJ (HB:Base) (H:Heap) (b r:Nat) (k:Bool) (d:Array Int):Prop:=Arr HB H b r 3 1 k (flat celInt d)
theorem ixAtJ {r n c i:Nat} (h:i < n):aIndexAt Tryz.prog 22 (.slice (some ⟨r,0,none⟩) n c) (.int .i64 (i:Int)) = some (.pointer (some ⟨r,i,none⟩)):=by
  rw [ixJ,if_pos ⟨by omega,by omega⟩,Int.toNat_natCast,Nat.zero_add]; rw [Nat.mul_one]
theorem ldAtJ {HB:Base} {H:Heap} {b r:Nat} {k:Bool} {d:Array Int} (h:SaJ HB H b r k d) {i:Nat} (hi:i < d.size):aLoad Tryz.prog H 3 (.pointer (some ⟨r,i,none⟩)) = some (celInt.val d[i]!):=by
  have hle:i * 1 + 1 ≤ (flat celInt d).length:=by rw [flat_len]; show _ ≤ d.size * 1; omega
  have h1:=h.read hle;have h2:=flat_at (C:=celInt) d hi;have h2:((flat celInt d).drop (i * 1)).take 1 = celInt.ce d[i]!:=h2;rw [h2] at h1;rw [ldJ];first
    | (rw [h1]; rfl)
    | (rw [Nat.mul_one] at h1; rw [h1]; rfl)
theorem stAtJ {HB:Base} {H:Heap} {b r:Nat} {k:Bool} {d:Array Int} (h:SaJ HB H b r k d) {i:Nat} (hi:i < d.size) (x:Int):∃ H2,aStore Tryz.prog H 3 (.pointer (some ⟨r,i,none⟩)) (celInt.val x) = some H2 ∧ SaJ HB H2 b r k (d.setIfInBounds i x) ∧ H2.size = H.size:=by
  obtain ⟨inf,hi1,hi2⟩:=infoJ;have hle:i * 1 + 1 ≤ (flat celInt d).length:=by rw [flat_len]; show _ ≤ d.size * 1; omega
  obtain ⟨H2,h1,h2,h3⟩:=h.store hi1 (v:=celInt.val x) (new:=celInt.ce x) (celInt.cells x) (hi2.trans (celInt.len x).symm) (celInt.ones x) (o:=i * 1) (by rw [celInt.len]; exact hle)
  rw [show splice (flat celInt d) (i * 1) (celInt.ce x) = flat celInt (d.setIfInBounds i x) from flat_set (C:=celInt) d hi x] at h2
  refine ⟨H2,?_,h2,h3⟩;first
    | exact h1
    | (rw [Nat.mul_one] at h1; exact h1)
theorem swDJ {HB:Base} {H:Heap} {b r:Nat} {k:Bool} {d:Array Int} (hLB:HB.low ≤ HB.size) (h:SaJ HB H b r k d) {i j:Nat} (hi:i < d.size) (hj:j < d.size) :
    ∃ H2 H3 H4 H5,aStore Tryz.prog (H.relow H.size) 3 (.pointer (some ⟨r,i,none⟩)) (celInt.val d[j]!) = some H2 ∧ H2.relow (Nat.min H.low H2.low) = H3 ∧
      aStore Tryz.prog (H3.relow H3.size) 3 (.pointer (some ⟨r,j,none⟩)) (celInt.val d[i]!) = some H4 ∧ H4.relow (Nat.min H3.low H4.low) = H5 ∧ SaJ HB H5 b r k (Sort.swp d i j) ∧ H5.size = H.size ∧ H5.low ≤ H5.size ∧ H3.low ≤ H3.size:=by
  have hlo:=h.keep.lo;obtain ⟨H2,h1,h2,h3⟩:=stAtJ (h.kept (Keep.relowS H)) hi d[j]!;have lo2:=h2.keep.lo;have lw2:=h2.keep.low hLB;have h3':H2.size = H.size:=h3;have hd3:SaJ HB (H2.relow (Nat.min H.low H2.low)) b r k (d.setIfInBounds i d[j]!):=h2.relow (Nat.le_min.2 ⟨hlo,lo2⟩) fun _ => Nat.le_trans (Nat.min_le_right _ _) lw2
  obtain ⟨H4,g1,g2,g3⟩:=stAtJ (hd3.kept (Keep.relowS _)) (i:=j) (by simp; exact hj) d[i]!
  have lo4:=g2.keep.lo;have lw4:=g2.keep.low hLB;have g3':H4.size = H2.size:=g3;have hd5:SaJ HB (H4.relow (Nat.min (H2.relow (Nat.min H.low H2.low)).low H4.low)) b r k (Sort.swp d i j):=g2.relow (Nat.le_min.2 ⟨Nat.le_min.2 ⟨hlo,lo2⟩,lo4⟩) fun _ => Nat.le_trans (Nat.min_le_right _ _) lw4
  exact ⟨H2,_,H4,_,h1,rfl,g1,rfl,hd5,g3'.trans h3',Nat.le_trans (Nat.min_le_right _ _) lw4,Nat.le_trans (Nat.min_le_right _ _) lw2⟩
def AllJ (V:Int → Prop) (d:Array Int):Prop:=∀ i,i < d.size → V d[i]!
theorem AllJ.swp {V:Int → Prop} {d:Array Int} (h:AllJ V d) {i j:Nat} (hi:i < d.size) (hj:j < d.size):AllJ V (Sort.swp d i j):=fun k hk => by
  have hk':k < d.size:=by simpa [Sort.swp] using hk
  have:(Sort.swp d i j)[k]! = d[k]! ∨ (Sort.swp d i j)[k]! = d[i]! ∨ (Sort.swp d i j)[k]! = d[j]!:=by
    unfold Sort.swp;rw [getElem!_pos _ k (by simpa using hk'),Array.getElem_setIfInBounds (by simpa using hk'),Array.getElem_setIfInBounds (by simpa using hk')]
    split
    · right; left; rfl
    · split
      · right; right; rfl
      · left; rw [getElem!_pos d k hk']
  rcases this with h1 | h1 | h1 <;> rw [h1]
  · exact h k hk'
  · exact h i hi
  · exact h j hj
theorem swp_szJ (d:Array Int) (i j:Nat):(Sort.swp d i j).size = d.size:=by simp [Sort.swp]
theorem SaJ.lowS {HB:Base} {H:Heap} {b r:Nat} {k:Bool} {d:Array Int} (h:SaJ HB H b r k d) (hLB:HB.low ≤ HB.size):H.low ≤ H.size:=h.keep.low hLB
end Go.Proofs.YtpeoleimmabceaaGreat
