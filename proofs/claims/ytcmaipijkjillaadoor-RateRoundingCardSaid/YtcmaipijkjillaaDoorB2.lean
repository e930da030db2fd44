/- Whole numbers of any size, continued: the digits of a product. -/
import Derived.Test.YtcmaipijkjillaaDoorB1
set_option linter.unusedVariables false
set_option linter.unusedSimpArgs false
set_option linter.unusedSectionVars false

namespace Go.Proofs.YtcmaipijkjillaaDoor
open Go Go.AM
set_option maxRecDepth 10000

theorem mkI (H:Heap) {l:Int} (h0:0 ≤ l) (h1:l ≤ 268435456):aMakeSlice Tryd.prog H 23 (.int .i64 l) (.int .i64 l) = some (.slice (some ⟨H.size,0,none⟩) l.toNat l.toNat,H.newExact ((List.replicate l.toNat (0:Int)).map fun z => .int .i64 z) 3):=by
  have h2:=makeSlice_eq (P:=Tryd.prog) (t:=23) (e:=3) (inf:=Tryd.t3) (z:=.int .i64 0) Tryd.underlying23 (by kernel_rfl) (by kernel_rfl) rfl (by kernel_rfl) (of_decide_eq_true (by kernel_rfl)) H .i64 .i64 h0 h1
  rw [h2];have h3:Tryd.t3.size = 1:=by kernel_rfl
  rw [h3,Nat.mul_one,List.map_replicate];rfl
theorem stI {H:Heap} {r:Nat} {w:List Int} (h:Own H r 3 (w.map fun z => .int .i64 z)) (z:Int) {o:Nat} (ho:o < w.length) :
    ∃ H2,aStore Tryd.prog H 3 (.pointer (some ⟨r,o,none⟩)) (.int .i64 z) = some H2 ∧ Own H2 r 3 ((w.set o z).map fun z => .int .i64 z) ∧ (∀ H0,Keep H0 H → H0.size ≤ r → Keep H0 H2) ∧ H2.size = H.size:=by
  obtain ⟨i,_,hi,hs,_⟩:=infoI;obtain ⟨H2,h1,h2,h4,_,h3⟩:=h.store (t:=3) hi (v:=.int .i64 z) (new:=[.int .i64 z]) rfl (hs.trans rfl) rfl (o:=o) (by rw [List.length_map]; exact ho)
  rw [splice_map ho] at h2;exact ⟨H2,h1,h2,h3,h4⟩

theorem mul_step {P x ab c s V W:Int} (hs:s = x + ab + c) (hi:V + P * c = W):(V + P * (s % 10000 - x)) + P * 10000 * (s / 10000) = W + P * ab:=by
  have h1:10000 * (s / 10000) + s % 10000 = s:=Int.mul_ediv_add_emod s 10000;have h2:P * (s % 10000 - x) + P * 10000 * (s / 10000) = P * ab + P * c:=by
    rw [Int.mul_assoc,← Int.mul_add,← Int.mul_add];congr 1;omega
  omega
theorem prod_bound {x y:Int} (hx:0 ≤ x ∧ x ≤ 9999) (hy:0 ≤ y ∧ y ≤ 9999):0 ≤ x * y ∧ x * y ≤ 99980001:=
  ⟨Int.mul_nonneg hx.1 hy.1,Int.le_trans (Int.mul_le_mul hx.2 hy.2 hy.1 (by omega)) (by decide)⟩
theorem val_replicate (n:Nat):val (List.replicate n 0) = 0:=by
  induction n with
  | zero => rfl
  | succ n ih => rw [List.replicate_succ]; simp [val,ih]

variable {S:AM.Sys} (hS:Only S 6)
include hS

theorem mulD_runs (v1 v2:Value) (a b:List Int) (r1 o1 r2 o2:Nat) (H:Heap) (hg:Grp H) (hL:H.low ≤ H.size) (h1:SlI .i64 H v1 a r1 o1) (h2:SlI .i64 H v2 b r2 o2) (ha:Digs a) (hb:Digs b) (hsa:a.length ≤ 1000) (hsb:b.length ≤ 1000) :
    ∃ w,Dg w (val a * val b).toNat ∧ w.length ≤ a.length + b.length ∧ Out S 57 [v1,v2] H w:=by
  suffices h:WCall Tryd.prog S (.fn 57) [v1,v2] H (fun v H' => ∃ w r' o',Dg w (val a * val b).toNat ∧ w.length ≤ a.length + b.length ∧ Keep H H' ∧ Grp H' ∧ SlI .i64 H' v w r' o' ∧ Fine v ∧ (0 < w.length → H.size ≤ r')) by
    obtain ⟨v',H',hr,w,r',o',h1,h2,h3,h4,h5,h6,h7⟩:=h; exact ⟨w,h1,h2,H',v',r',o',h3,h4,h5,h6,h7,hr⟩
  obtain ⟨a1,c1,rfl⟩:=h1.v0;obtain ⟨a2,c2,rfl⟩:=h2.v0;have hmk:=mkI H (l:=(a.length:Int) + (b.length:Int)) (by omega) (by omega)
  have hto:((a.length:Int) + (b.length:Int)).toNat = a.length + b.length:=by omega
  rw [hto] at hmk;obtain ⟨H1,e1,hK1,hs1,zz,_⟩:=box1 H ((List.replicate (a.length + b.length) (0:Int)).map fun z => .int .i64 z) 3
  have w1:Own H1 H.size 3 ((List.replicate (a.length + b.length) (0:Int)).map fun z => .int .i64 z):=e1 ▸ Own.new H _ _
  have hw0:IntKind.i64.wrap ((a.length:Int) + (b.length:Int)) = (a.length:Int) + (b.length:Int):=IntWalk.i64_in _ (by omega)
  clear zz;refine call_of Tryd.func57 rfl (Nat.le_of_ble_eq_true rfl) (hS.no rfl _ _) ?_
  rw [Tryd.ntmps57,Tryd.results57]
  repeat' simp only [↓Zabo,↓Zabq,↓bxC_loop,↓Zabl,↓Zabp,↓Zacj,↓Zaci,↓Zaco,↓Zaar,↓Zaak,↓Zaal,↓bxOp_makeSlice,↓Zaau,↓Zaap,↓bxPut,↓Zabj,↓Zabh,↓Zacm,↓Zacn,↓Zacp,↓Zaaz,↓Zaax,↓Zaay,Zack,Zaad,Zabb,Zabs,Zabe,List.nil_append,↓reduceIte,Nat.reduceEqDiff,Nat.reduceLT, *,argF,List.getD_cons_zero,List.getD_cons_succ,lenI]
  refine sxL_of (fun m ρ H2 => ∃ (i:Nat) (out:List Int),m = a.length - i ∧ i ≤ a.length ∧ out.length = a.length + b.length ∧ Digs out ∧ val out = val (a.take i) * val b ∧ (∀ j,i + b.length ≤ j → out.getD j 0 = 0) ∧ Keep H H2 ∧ Own H2 H.size 3 (out.map fun z => .int .i64 z) ∧
    ρ 0 = .slice a1 a.length c1 ∧ ρ 1 = .slice a2 b.length c2 ∧ ρ 5 = .slice (some ⟨H.size,0,none⟩) (a.length + b.length) (a.length + b.length) ∧ ρ 6 = .int .i64 i)
    ⟨0,List.replicate (a.length + b.length) 0,rfl,Nat.zero_le _,by simp,(fun x hx => by rw [List.eq_of_mem_replicate hx]; omega),(by rw [val_replicate]; simp [val]),(fun j _ => by rw [List.getD_eq_getElem?_getD,List.getElem?_replicate]; split <;> rfl),hK1,w1,rfl,rfl,rfl,rfl⟩ ?_
  clear w1 hmk hw0 hs1 e1;rintro m ρ H2 ⟨i,out,rfl,hi,hol,hod,hov,hoz,hK2,w2,e0,e1,e5,e6⟩
  by_cases hlt:i < a.length
  · have hlt':(i:Int) < (a.length:Int):=by omega
    have hwi:=wrap_succ hlt h1.ml;have p0:=SlI_ix h1 hlt;have hai:=ha.getD i
    repeat' simp only [↓Zabr,↓Zabo,↓Zabq,↓Zaah,↓bxC_loop,↓Zabl,↓Zabn,↓Zacj,↓Zaci,↓Zaco,↓Zaar,↓Zaak,↓Zaat,↓Zaal,↓Zaao,↓Zaap,↓Zacl,↓bxPut,↓Zabj,↓Zabi,↓Zaaf,↓Zaae,↓Zabd,↓Zabc,↓Zacp,↓Zaaz,↓Zaax,Zack,Zaad,Zabb,Zach,↓reduceIte,Nat.reduceEqDiff,Nat.reduceLT,dec_T, *,lenI]
    refine sxL_of (fun m ρ H3 => ∃ (k:Nat) (o3:List Int) (c:Int),m = b.length - k ∧ k ≤ b.length ∧ o3.length = a.length + b.length ∧ Digs o3 ∧ (0 ≤ c ∧ c ≤ 9999) ∧ val o3 + 10000 ^ (i + k) * c = val (a.take i) * val b + 10000 ^ i * (a.getD i 0 * val (b.take k)) ∧
      (∀ j,i + b.length ≤ j → o3.getD j 0 = 0) ∧ Keep H H3 ∧ Own H3 H.size 3 (o3.map fun z => .int .i64 z) ∧
      ρ 0 = .slice a1 a.length c1 ∧ ρ 1 = .slice a2 b.length c2 ∧ ρ 5 = .slice (some ⟨H.size,0,none⟩) (a.length + b.length) (a.length + b.length) ∧ ρ 6 = .int .i64 i ∧ ρ 7 = .int .i64 c ∧ ρ 8 = .int .i64 k)
      ⟨0,out,0,rfl,Nat.zero_le _,hol,hod,by omega,(by simp [val,hov]),hoz,hK2,w2,by assumption,by assumption,by assumption,by assumption,rfl,rfl⟩ ?_
    clear e0 e1 e5 e6 w2 hod hov hoz hol hK2;rintro m ρ H3 ⟨k,o3,c,rfl,hk,hol,hod,hc,hov,hoz,hK3,w3,e0,e1,e5,e6,e7,e8⟩;have hL3:H3.low ≤ H3.size:=hK3.low hL
    by_cases hlt2:k < b.length
    · have hlt2':(k:Int) < (b.length:Int):=by omega
      have hwk:=wrap_succ hlt2 h2.ml;have q0:=((h1.keep hK3).rdI hlt).1;have p1:=SlI_ix h2 hlt2;have q1:=((h2.keep hK3).rdI hlt2).1;have hbk:=hb.getD k;have hx:=hod.getD (i + k);have hik:i + k < o3.length:=by omega
      have hwik:IntKind.i64.wrap ((i:Int) + (k:Int)) = ((i + k:Nat):Int):=by rw [IntWalk.i64_in _ (by omega)]; omega
      have p2:aIndexAt Tryd.prog 23 (.slice (some ⟨H.size,0,none⟩) (a.length + b.length) (a.length + b.length)) (.int .i64 ((i + k:Nat):Int)) = some (.pointer (some ⟨H.size,i + k,none⟩)):=by rw [ixI,if_pos ⟨by omega,by omega⟩,Int.toNat_natCast,Nat.zero_add,Nat.mul_one]
      have q2:=w3.read (o:=i + k) (n:=1) (by rw [List.length_map]; omega)
      rw [map_at hik] at q2;have hpb:=prod_bound hai hbk;have hob:=hoz;have hsp:=val_split (l:=b) (n:=k) (by omega)
      have hst:=val_set (l:=o3) (j:=i + k) ((o3.getD (i + k) 0 + a.getD i 0 * b.getD k 0 + c) % 10000) hik;have hms:=mul_step (s:=o3.getD (i + k) 0 + a.getD i 0 * b.getD k 0 + c) rfl hov;have hnew:val (o3.set (i + k) ((o3.getD (i + k) 0 + a.getD i 0 * b.getD k 0 + c) % 10000)) + 10000 ^ (i + (k + 1)) * ((o3.getD (i + k) 0 + a.getD i 0 * b.getD k 0 + c) / 10000) = val (a.take i) * val b + 10000 ^ i * (a.getD i 0 * val (b.take (k + 1))):=by
        rw [hst,← Nat.add_assoc,Int.pow_succ,hms,hsp,Int.mul_add,Int.mul_add,Int.pow_add]
        rw [show (10000:Int) ^ i * 10000 ^ k * (a.getD i 0 * b.getD k 0) = 10000 ^ i * (a.getD i 0 * (10000 ^ k * b.getD k 0)) by
          rw [Int.mul_assoc]; congr 1
          rw [← Int.mul_assoc,Int.mul_comm ((10000:Int) ^ k) (a.getD i 0),Int.mul_assoc]]
        omega
      have hz2:∀ j,i + b.length ≤ j → (o3.set (i + k) ((o3.getD (i + k) 0 + a.getD i 0 * b.getD k 0 + c) % 10000)).getD j 0 = 0:=fun j hj => by rw [set_getD hik,if_neg (by omega)]; exact hoz j hj
      have hd2:Digs (o3.set (i + k) ((o3.getD (i + k) 0 + a.getD i 0 * b.getD k 0 + c) % 10000)):=hod.set (by omega)
      have hl2:(o3.set (i + k) ((o3.getD (i + k) 0 + a.getD i 0 * b.getD k 0 + c) % 10000)).length = a.length + b.length:=by rw [List.length_set]; exact hol
      have hob1:=stI w3 ((o3.getD (i + k) 0 + a.getD i 0 * b.getD k 0 + c) % 10000) hik;obtain ⟨H4,ps,w4,hkp,_⟩:=hob1;have hK4:=hkp H hK3 (Nat.le_refl _);clear hov hoz hob hsp hst hms hod hol w3 hkp h1 h2 ha hb hik;generalize o3.getD (i + k) 0 = x at *;generalize b.getD k 0 = bk at *;generalize a.getD i 0 = ai at *;have f1:IntKind.i64.wrap (ai * bk) = ai * bk:=IntWalk.i64_in _ (by omega)
      have f2:IntKind.i64.wrap (x + ai * bk) = x + ai * bk:=IntWalk.i64_in _ (by omega)
      have f3:IntKind.i64.wrap (x + ai * bk + c) = x + ai * bk + c:=IntWalk.i64_in _ (by omega)
      have f4:(x + ai * bk + c).tmod 10000 = (x + ai * bk + c) % 10000:=Int.tmod_eq_emod_of_nonneg (by omega)
      have f5:(x + ai * bk + c).tdiv 10000 = (x + ai * bk + c) / 10000:=Int.tdiv_eq_ediv_of_nonneg (by omega)
      have f6:IntKind.i64.wrap ((x + ai * bk + c) / 10000) = (x + ai * bk + c) / 10000:=IntWalk.i64_in _ (by omega)
      have f7:¬ (10000:Int) = 0:=by omega
      repeat' (first | simp only [↓Zabr,↓Zabm,↓Zabo,↓Zabq,↓Zaah,↓Zabl,↓Zabn,↓Zacj,↓Zaci,↓Zacc,↓Zaai,↓Zaca,↓sxDL_assign,↓Zabz,↓Zabv,↓Zaby,↓sxD_same,↓Zaco,↓Zaar,↓Zaak,↓Zaaq,↓Zaat,↓Zaal,↓Zaao,↓Zaap,↓Zacl,↓bxPut,↓Zabj,↓Zabi,↓Zaaf,↓Zaae,↓Zabd,↓Zabc,↓Zacp,↓Zaaz,↓Zaax,Zack,Zaad,Zabb,Zach,↓reduceIte,Nat.reduceEqDiff,Nat.reduceLT,dec_T,true_and,Zaaa,one1,Option.bind_some,ne_eq,not_false_eq_true, *,lenI,ldI] | (with_reducible first | refine Zabu (by assumption) (by decide +kernel) ?_ | refine Zabt (by decide +kernel) ?_ | refine Zacb (by decide +kernel) ?_ | refine Zabw ?_))
      exact ⟨_,by omega,k + 1,_,_,rfl,by omega,hl2,hd2,by omega,hnew,hz2,w4,rfl,rfl⟩
    · have hlt2':¬ (k:Int) < (b.length:Int):=by omega
      have hke:k = b.length:=by omega
      have hil:i + b.length < o3.length:=by omega
      have hwil:IntKind.i64.wrap ((i:Int) + (b.length:Int)) = ((i + b.length:Nat):Int):=by rw [IntWalk.i64_in _ (by omega)]; omega
      have p2:aIndexAt Tryd.prog 23 (.slice (some ⟨H.size,0,none⟩) (a.length + b.length) (a.length + b.length)) (.int .i64 ((i + b.length:Nat):Int)) = some (.pointer (some ⟨H.size,i + b.length,none⟩)):=by rw [ixI,if_pos ⟨by omega,by omega⟩,Int.toNat_natCast,Nat.zero_add,Nat.mul_one]
      have hob1:=stI w3 c hil;obtain ⟨H4,ps,w4,hkp,_⟩:=hob1;have hK4:=hkp H hK3 (Nat.le_refl _);have hst:=val_set (l:=o3) (j:=i + b.length) c hil;have hsp:=val_split (l:=a) (n:=i) hlt;have hnew:val (o3.set (i + b.length) c) = val (a.take (i + 1)) * val b:=by
        rw [hke,List.take_length] at hov;rw [hst,hoz _ (Nat.le_refl _),Int.sub_zero,hov,hsp,Int.add_mul,Int.mul_assoc]
      have hz2:∀ j,i + 1 + b.length ≤ j → (o3.set (i + b.length) c).getD j 0 = 0:=fun j hj => by rw [set_getD hil,if_neg (by omega)]; exact hoz j (by omega)
      have hd2:Digs (o3.set (i + b.length) c):=hod.set hc;have hl2:(o3.set (i + b.length) c).length = a.length + b.length:=by rw [List.length_set]; exact hol
      clear hov hoz hst hsp hod hol w3 hkp h1 h2 ha hb hke
      repeat' (first | simp only [↓Zabr,↓Zabm,↓Zabo,↓Zabq,↓Zaah,↓Zabl,↓Zabn,↓Zacj,↓Zaci,↓Zacc,↓Zaai,↓Zaca,↓sxDL_assign,↓Zabz,↓Zabv,↓Zaby,↓Zaco,↓Zaar,↓Zaak,↓Zaaq,↓Zaat,↓Zaal,↓Zaao,↓Zaap,↓Zacl,↓bxPut,↓Zabj,↓Zabi,↓Zaaf,↓Zaae,↓Zabd,↓Zabc,↓Zacp,↓Zaaz,↓Zaax,Zack,Zaad,Zabb,Zacg,↓reduceIte,Nat.reduceEqDiff,Nat.reduceLT,dec_F,true_and, *,lenI] | (with_reducible first | refine Zabu (by assumption) (by decide +kernel) ?_ | refine Zabt (by decide +kernel) ?_ | refine Zacb (by decide +kernel) ?_ | refine Zabw ?_))
      exact ⟨_,by omega,i + 1,_,rfl,by omega,hl2,hd2,hnew,hz2,w4,rfl⟩
  · have hlt':¬ (i:Int) < (a.length:Int):=by omega
    have hie:i = a.length:=by omega
    have hmx:Go.maxLen = 9223372036854775807:=rfl;have sl:=w2.sl (k:=.i64) (fun z hz => by have:=hod z hz; show -9223372036854775808 ≤ z ∧ z ≤ 9223372036854775807; omega) (by omega) (a.length + b.length)
    rw [hol] at sl;have hob1:=trim_runs hS _ out H.size 0 H2 (hK2.grp hg) (hK2.low hL) sl (by omega)
    obtain ⟨H3,v3,r3,o3,hK3,hg3,s3,hF3,hfr,hR3⟩:=hob1;have f3:=hR3.bx;have hdg:=trimL_dg hod;rw [hov,hie,List.take_length] at hdg;have hle:(trimL out).length ≤ a.length + b.length:=by rw [← hol]; exact trimL_le _
    have hKK:=hK2.trans hK3;have hsz2:=hK2.size;clear hR3 h1 h2 ha hb w2 hod hov hoz hol hie hmx sl
    repeat' simp only [↓Zabr,↓Zabo,↓Zabq,↓Zaah,↓bxC_loop,↓Zabl,↓Zabn,↓Zacj,↓Zaci,↓Zaco,↓Zaar,↓Zaak,↓Zaat,↓Zaal,↓Zaao,↓Zaap,↓Zacl,↓bxPut,↓Zabj,↓Zabi,↓Zaaf,↓Zaae,↓Zabd,↓Zabc,↓Zacp,↓Zaaz,↓Zaax,Zack,Zaad,Zabb,Zacg,List.map,List.append_nil,↓reduceIte,Nat.reduceEqDiff,Nat.reduceLT,dec_F,true_and, *,lenI]
    exact ⟨_,r3,o3,hdg,hle,s3,fun h => by have:=hfr h; have:=hsz2; omega⟩
end Go.Proofs.YtcmaipijkjillaaDoor
