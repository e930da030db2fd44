/- Whole numbers of any size, continued: the digits of a difference. -/
import Derived.Test.YtcmaipijkjillaaDoorB2
set_option linter.unusedVariables false
set_option linter.unusedSimpArgs false
set_option linter.unusedSectionVars false

namespace Go.Proofs.YtcmaipijkjillaaDoor
open Go Go.AM
set_option maxRecDepth 10000

variable {S:AM.Sys} (hS:Only S 6)
include hS

theorem subD_runs (v1 v2:Value) (a b:List Int) (r1 o1 r2 o2:Nat) (H:Heap) (hg:Grp H) (hL:H.low ≤ H.size) (h1:SlI .i64 H v1 a r1 o1) (h2:SlI .i64 H v2 b r2 o2) (ha:Digs a) (hb:Digs b) (hsa:a.length ≤ 3000) (hle:b.length ≤ a.length) (hv:val b ≤ val a) :
    ∃ w,Dg w (val a - val b).toNat ∧ w.length ≤ a.length ∧ Out S 68 [v1,v2] H w:=by
  suffices h:WCall Tryd.prog S (.fn 68) [v1,v2] H (fun v H' => ∃ w r' o',Dg w (val a - val b).toNat ∧ w.length ≤ a.length ∧ Keep H H' ∧ Grp H' ∧ SlI .i64 H' v w r' o' ∧ Fine v ∧ (0 < w.length → H.size ≤ r')) by
    obtain ⟨v',H',hr,w,r',o',h1,h2,h3,h4,h5,h6,h7⟩:=h; exact ⟨w,h1,h2,H',v',r',o',h3,h4,h5,h6,h7,hr⟩
  obtain ⟨a1,c1,rfl⟩:=h1.v0;obtain ⟨a2,c2,rfl⟩:=h2.v0;refine call_of Tryd.func68 rfl (Nat.le_of_ble_eq_true rfl) (hS.no rfl _ _) ?_
  rw [Tryd.ntmps68,Tryd.results68]
  repeat' (first | (with_reducible refine Zacf (fun h => ?_) (fun h => ?_)) | (with_reducible refine Zace (fun h => ?_) (fun h => ?_)) | (with_reducible refine sxIfB_sp (fun h => ?_) (fun h => ?_)) | simp only [↓Zabo,↓Zabq,↓bxC_loop,↓Zabl,↓Zabp,↓Zacj,↓Zaci,↓Zaco,↓Zaar,↓Zaak,↓Zaau,↓bxPut,↓Zabj,↓Zabh,↓Zacm,↓Zacn,↓Zaaz,↓Zaax,↓Zaay,Zabs,Zabe,List.nil_append,Nat.reduceLT, *])
  refine sxL_of (fun m ρ H2 => ∃ (i:Nat) (out:List Int) (v':Value) (c:Int),m = a.length - i ∧ i ≤ a.length ∧ out.length = i ∧ Digs out ∧ (c = 0 ∨ c = 1) ∧ val out - 10000 ^ i * c = val (a.take i) - val (b.take i) ∧ Lst 3 .i64 H H2 v' out ∧
    ρ 0 = .slice a1 a.length c1 ∧ ρ 1 = .slice a2 b.length c2 ∧ ρ 5 = v' ∧ ρ 6 = .int .i64 c ∧ ρ 7 = .int .i64 i)
    ⟨0,[],_,0,rfl,Nat.zero_le _,rfl,(fun x hx => absurd hx (List.not_mem_nil)),.inl rfl,(by simp [val]),Lst.nil (Keep.refl H) hg,rfl,rfl,rfl,rfl,rfl⟩ ?_
  rintro m ρ H2 ⟨i,out,v',c,rfl,hi,hol,hod,hc,hov,L,e0,e1,e5,e6,e7⟩;have hL2:H2.low ≤ H2.size:=L.keep.low hL
  by_cases hlt:i < a.length
  · have hlt':(i:Int) < (a.length:Int):=by omega
    have hwi:=wrap_succ hlt h1.ml;have p0:=SlI_ix h1 hlt;have q0:=((h1.keep L.keep).rdI hlt).1;have hai:=ha.getD i;have hsa':=val_split (l:=a) (n:=i) hlt
    by_cases hlb:i < b.length
    · have hlb':(i:Int) < (b.length:Int):=by omega
      have p1:=SlI_ix h2 hlb;have q1:=((h2.keep L.keep).rdI hlb).1;have hbi:=hb.getD i;have hsb':=val_split (l:=b) (n:=i) hlb;have fin:∀ z c':Int,(0 ≤ z ∧ z ≤ 9999) → z - 10000 * c' = a.getD i 0 - c - b.getD i 0 → (Digs (out ++ [z]) ∧ val (out ++ [z]) - 10000 ^ (i + 1) * c' = val (a.take (i + 1)) - val (b.take (i + 1))):=fun z c' hz he => by
        refine ⟨hod.append (Digs.one hz),?_⟩;rw [val_append,hol,hsa',hsb',Int.pow_succ,Int.mul_assoc];simp only [val,Int.mul_zero,Int.add_zero];have h3:(10000:Int) ^ i * z - 10000 ^ i * (10000 * c') = 10000 ^ i * a.getD i 0 - 10000 ^ i * c - 10000 ^ i * b.getD i 0:=by rw [← Int.mul_sub,he,Int.mul_sub,Int.mul_sub]
        omega
      have hob1:=L.push okI hg (by omega) (a.getD i 0 - c - b.getD i 0)
      obtain ⟨v3,H3,p3,L3⟩:=hob1;have hob2:=L.push okI hg (by omega) (a.getD i 0 - c - b.getD i 0 + 10000)
      obtain ⟨v4,H4,p4,L4⟩:=hob2;have b3:=bsI H2 (a.getD i 0 - c - b.getD i 0);have b4:=bsI H2 (a.getD i 0 - c - b.getD i 0 + 10000);clear h1 h2 hsa' hsb' ha hb hov;generalize a.getD i 0 = x at *;generalize b.getD i 0 = y at *;have f1:IntKind.i64.wrap (x - c) = x - c:=IntWalk.i64_in _ (by omega)
      have f2:IntKind.i64.wrap (x - c - y) = x - c - y:=IntWalk.i64_in _ (by omega)
      have f3:IntKind.i64.wrap (x - c - y + 10000) = x - c - y + 10000:=IntWalk.i64_in _ (by omega)
      repeat' (first | (with_reducible refine Zacf (fun h => ?_) (fun h => ?_)) | (with_reducible refine Zace (fun h => ?_) (fun h => ?_)) | (with_reducible refine sxIfB_sp (fun h => ?_) (fun h => ?_)) | simp only [↓Zabr,↓Zabo,↓Zabq,↓Zaah,↓Zabl,↓Zabn,↓Zacj,↓Zaci,↓Zaco,↓Zaar,↓Zaak,↓Zaam,↓Zaaq,↓Zaal,↓Zaao,↓Zaap,↓bxOp_append,↓bxPut,↓Zabj,↓Zabi,↓Zaaf,↓Zaae,↓Zabd,↓Zabc,↓Zacp,↓Zaaz,↓Zaax,Zack,Zaad,Zabb,Zach,List.map,↓reduceIte,Nat.reduceEqDiff,Nat.reduceLT,dec_T,dec_F,true_and,one1,Option.bind_some, *,lenI,ldI])
      · have hf:=fin (x - c - y + 10000) 1 (by omega) (by omega)
        exact ⟨_,by omega,i + 1,_,_,1,rfl,by omega,by simp [hol],hf.1,.inr rfl,hf.2,L4,rfl,rfl,rfl⟩
      · have hf:=fin (x - c - y) 0 (by omega) (by omega)
        exact ⟨_,by omega,i + 1,_,_,0,rfl,by omega,by simp [hol],hf.1,.inl rfl,hf.2,L3,rfl,rfl,rfl⟩
    · have hlb':¬ (i:Int) < (b.length:Int):=by omega
      have hbt:b.take (i + 1) = b.take i:=by rw [List.take_of_length_le (by omega),List.take_of_length_le (by omega)]
      have fin:∀ z c':Int,(0 ≤ z ∧ z ≤ 9999) → z - 10000 * c' = a.getD i 0 - c → (Digs (out ++ [z]) ∧ val (out ++ [z]) - 10000 ^ (i + 1) * c' = val (a.take (i + 1)) - val (b.take (i + 1))):=fun z c' hz he => by
        refine ⟨hod.append (Digs.one hz),?_⟩;rw [val_append,hol,hsa',hbt,Int.pow_succ,Int.mul_assoc];simp only [val,Int.mul_zero,Int.add_zero];have h3:(10000:Int) ^ i * z - 10000 ^ i * (10000 * c') = 10000 ^ i * a.getD i 0 - 10000 ^ i * c:=by rw [← Int.mul_sub,he,Int.mul_sub]
        omega
      have hob1:=L.push okI hg (by omega) (a.getD i 0 - c)
      obtain ⟨v3,H3,p3,L3⟩:=hob1;have hob2:=L.push okI hg (by omega) (a.getD i 0 - c + 10000)
      obtain ⟨v4,H4,p4,L4⟩:=hob2;have b3:=bsI H2 (a.getD i 0 - c);have b4:=bsI H2 (a.getD i 0 - c + 10000);clear h1 h2 hsa' ha hb hov hbt;generalize a.getD i 0 = x at *;have f1:IntKind.i64.wrap (x - c) = x - c:=IntWalk.i64_in _ (by omega)
      have f3:IntKind.i64.wrap (x - c + 10000) = x - c + 10000:=IntWalk.i64_in _ (by omega)
      repeat' (first | (with_reducible refine Zacf (fun h => ?_) (fun h => ?_)) | (with_reducible refine Zace (fun h => ?_) (fun h => ?_)) | (with_reducible refine sxIfB_sp (fun h => ?_) (fun h => ?_)) | simp only [↓Zabr,↓Zabo,↓Zabq,↓Zaah,↓Zabl,↓Zabn,↓Zacj,↓Zaci,↓Zaco,↓Zaar,↓Zaak,↓Zaam,↓Zaaq,↓Zaal,↓Zaao,↓Zaap,↓bxOp_append,↓bxPut,↓Zabj,↓Zabi,↓Zaaf,↓Zaae,↓Zabd,↓Zabc,↓Zacp,↓Zaaz,↓Zaax,Zack,Zaad,Zabb,Zach,Zacg,List.map,↓reduceIte,Nat.reduceEqDiff,Nat.reduceLT,dec_T,dec_F,true_and,one1,Option.bind_some, *,lenI,ldI])
      · have hf:=fin (x - c + 10000) 1 (by omega) (by omega)
        exact ⟨_,by omega,i + 1,_,_,1,rfl,by omega,by simp [hol],hf.1,.inr rfl,hf.2,L4,rfl,rfl,rfl⟩
      · have hf:=fin (x - c) 0 (by omega) (by omega)
        exact ⟨_,by omega,i + 1,_,_,0,rfl,by omega,by simp [hol],hf.1,.inl rfl,hf.2,L3,rfl,rfl,rfl⟩
  · have hlt':¬ (i:Int) < (a.length:Int):=by omega
    have hie:i = a.length:=by omega
    have hob1:=L.sl (fun z hz => by have:=hod z hz; show -9223372036854775808 ≤ z ∧ z ≤ 9223372036854775807; omega) (by show out.length ≤ 9223372036854775807; omega)
    obtain ⟨rr,sl⟩:=hob1;have hov2:val out = val a - val b:=by
      rw [hie,List.take_length,List.take_of_length_le hle] at hov;have h3:=hod.lt;rw [hol,hie] at h3;rcases hc with rfl | rfl
      · omega
      · omega
    have hob2:=trim_runs hS _ out rr 0 H2 L.grp hL2 sl (by omega)
    obtain ⟨H3,v3,r3,o3,hK3,hg3,s3,hF3,hfr,hR3⟩:=hob2;have f3:=hR3.bx;have hdg:=trimL_dg hod;rw [hov2] at hdg;have hle2:(trimL out).length ≤ a.length:=by have:=trimL_le out; omega
    have hKK:=L.keep.trans hK3;have hsz2:=L.keep.size;clear hR3 h1 h2 ha hb hod hov hov2 hol hie sl L hc
    repeat' (first | (with_reducible refine Zacf (fun h => ?_) (fun h => ?_)) | (with_reducible refine Zace (fun h => ?_) (fun h => ?_)) | (with_reducible refine sxIfB_sp (fun h => ?_) (fun h => ?_)) | simp only [↓Zabr,↓Zabo,↓Zabq,↓Zaah,↓Zabl,↓Zabn,↓Zacj,↓Zaci,↓Zaco,↓Zaar,↓Zaak,↓Zaam,↓Zaaq,↓Zaal,↓Zaao,↓Zaap,↓bxOp_append,↓bxPut,↓Zabj,↓Zabi,↓Zaaf,↓Zaae,↓Zabd,↓Zabc,↓Zacp,↓Zaaz,↓Zaax,Zack,Zaad,Zabb,Zacg,List.map,List.append_nil,↓reduceIte,Nat.reduceEqDiff,Nat.reduceLT,dec_F,true_and, *,lenI])
    exact ⟨_,r3,o3,hdg,hle2,s3,fun h => by have:=hfr h; have:=hsz2; omega⟩
end Go.Proofs.YtcmaipijkjillaaDoor
