/- The functions of package rate and of the reference that check offers, on the canonical machine. -/
import Derived.Test.YtcmaipijkjillaaDoorB1
import Derived.Test.YtcmaipijkjillaaDoorM1
set_option linter.unusedVariables false
set_option linter.unusedSimpArgs false
set_option linter.unusedSectionVars false

namespace Go.Proofs.YtcmaipijkjillaaDoor
open Go Go.AM
set_option maxRecDepth 10000

def offE:Enc Off:=mapE (fun x => (x.f,x.t,x.n,x.d)) (prodE (intE .i64) (prodE (intE .i64) (prodE (intE .i64) (intE .i64))))
def Off.cells (o:Off):List Value:=[.int .i64 o.f,.int .i64 o.t,.int .i64 o.n,.int .i64 o.d]
def Off.Fits (x:Off):Prop:=(-9223372036854775808 ≤ x.f ∧ x.f ≤ 9223372036854775807) ∧ (-9223372036854775808 ≤ x.t ∧ x.t ≤ 9223372036854775807) ∧ (-9223372036854775808 ≤ x.n ∧ x.n ≤ 9223372036854775807) ∧ (-9223372036854775808 ≤ x.d ∧ x.d ≤ 9223372036854775807)
theorem offE_inv {H:Heap} {x:Off} {cs:List Value} (h:offE.At H x cs):cs = x.cells ∧ x.Fits:=by
  obtain ⟨c1,c2,rfl,⟨rfl,h1⟩,c3,c4,rfl,⟨rfl,h2⟩,c5,c6,rfl,⟨rfl,h3⟩,rfl,h4⟩:=h;exact ⟨rfl,h1,h2,h3,h4⟩
def IsOff (n:Int) (o:Off):Prop:=(0 ≤ o.f ∧ o.f < n) ∧ (0 ≤ o.t ∧ o.t < n) ∧ o.f ≠ o.t ∧ 1 ≤ o.n ∧ o.n ≤ 50 ∧ 1 ≤ o.d ∧ o.d ≤ 50
instance (n:Int) (o:Off):Decidable (IsOff n o):=by unfold IsOff; infer_instance

theorem ldO (H:Heap) (r o:Nat):aLoad Tryd.prog H 40 (.pointer (some ⟨r,o,none⟩)) = (H.read r o 4).map fun l => .agg ⟨l⟩:=by kernel_rfl
theorem lenO (a:Option Addr) (n c:Nat):aLen Tryd.prog #[22] (.slice a n c) = some (.int .i64 n):=by kernel_rfl
theorem ixO (r o n c:Nat) (k:IntKind) (i:Int):aIndexAt Tryd.prog 22 (.slice (some ⟨r,o,none⟩) n c) (.int k i) = if 0 ≤ i ∧ i < (n:Int) then some (.pointer (some ⟨r,o + i.toNat * 4,none⟩)) else none:=by kernel_rfl
abbrev SlO (H:Heap) (v:Value) (d:List Off) (r o:Nat):Prop:=SlE offE H v d r o
theorem SlO_ix {H:Heap} {w:List Off} {r o:Nat} {a:Option Addr} {cap:Nat} (h:SlO H (.slice a w.length cap) w r o) {i:Int} (h0:0 ≤ i) (h1:i < w.length) :
    aIndexAt Tryd.prog 22 (.slice a w.length cap) (.int .i64 i) = some (.pointer (some ⟨r,o + i.toNat * 4,none⟩)):=by
  obtain ⟨a',cap',e,ha⟩:=h.isv;cases e;rw [ha (by omega),ixO,if_pos ⟨h0,h1⟩]
theorem SlO_ixN {H:Heap} {w:List Off} {r o:Nat} {a:Option Addr} {cap:Nat} (h:SlO H (.slice a w.length cap) w r o) {i:Nat} (h1:i < w.length) :
    aIndexAt Tryd.prog 22 (.slice a w.length cap) (.int .i64 (i:Int)) = some (.pointer (some ⟨r,o + i * 4,none⟩)):=by
  have:=SlO_ix h (i:=(i:Int)) (by omega) (by omega)
  rwa [Int.toNat_natCast] at this
theorem SlO_el {H:Heap} {w:List Off} {r o:Nat} {v:Value} (h:SlO H v w r o) {i:Nat} (h1:i < w.length):∃ es,H.read r (o + i * 4) 4 = some es ∧ offE.At H (w.getD i default) es:=h.rd i h1

theorem faO0 (r o:Nat):aFieldAt Tryd.prog 40 0 (.pointer (some ⟨r,o,none⟩)) = some (.pointer (some ⟨r,o + 0,none⟩)):=by kernel_rfl
theorem faO1 (r o:Nat):aFieldAt Tryd.prog 40 1 (.pointer (some ⟨r,o,none⟩)) = some (.pointer (some ⟨r,o + 1,none⟩)):=by kernel_rfl
theorem faO2 (r o:Nat):aFieldAt Tryd.prog 40 2 (.pointer (some ⟨r,o,none⟩)) = some (.pointer (some ⟨r,o + 2,none⟩)):=by kernel_rfl
theorem faO3 (r o:Nat):aFieldAt Tryd.prog 40 3 (.pointer (some ⟨r,o,none⟩)) = some (.pointer (some ⟨r,o + 3,none⟩)):=by kernel_rfl
theorem boxO (H:Heap) (x:Off):∃ H1,H.newExact x.cells 40 = H1 ∧ Keep H H1 ∧ H.size < H1.size ∧ H1.read H.size 0 4 = some x.cells ∧ H1.read H.size 0 1 = some [.int .i64 x.f] ∧ H1.read H.size 1 1 = some [.int .i64 x.t] ∧ H1.read H.size 2 1 = some [.int .i64 x.n] ∧ H1.read H.size 3 1 = some [.int .i64 x.d]:=by
  obtain ⟨H1,e1,hK1,hz1,_,hr1⟩:=box1 H x.cells 40;exact ⟨H1,e1,hK1,hz1,hr1 0 4 (by show 0 + 4 ≤ 4; omega),hr1 0 1 (by show 0 + 1 ≤ 4; omega),hr1 1 1 (by show 1 + 1 ≤ 4; omega),hr1 2 1 (by show 2 + 1 ≤ 4; omega),hr1 3 1 (by show 3 + 1 ≤ 4; omega)⟩
theorem off_at {H:Heap} {v:Value} {l:List Off} {r o:Nat} (h:SlO H v l r o) {i:Nat} (hi:i < l.length) :
    H.read r (o + i * 4) 4 = some (l.getD i default).cells ∧ H.read r (o + i * 4) 1 = some [.int .i64 (l.getD i default).f] ∧ H.read r (o + i * 4 + 1) 1 = some [.int .i64 (l.getD i default).t] ∧
      H.read r (o + i * 4 + 2) 1 = some [.int .i64 (l.getD i default).n] ∧ H.read r (o + i * 4 + 3) 1 = some [.int .i64 (l.getD i default).d]:=by
  obtain ⟨es,h1,h2⟩:=SlO_el h hi;obtain ⟨rfl,_⟩:=offE_inv h2;exact ⟨h1,read_sub h1 (j:=0) (k:=1) (by omega),read_sub h1 (j:=1) (k:=1) (by omega),read_sub h1 (j:=2) (k:=1) (by omega),read_sub h1 (j:=3) (k:=1) (by omega)⟩

variable {S:AM.Sys} (hS:Only S 6)
include hS

theorem isCurrency_runs (n c:Int) (H:Heap):Runs Tryd.prog S (.fn 42) [.int .i64 n,.int .i64 c] H (.bool (decide (0 ≤ c ∧ c < n))) H:=by
  suffices h:WCall Tryd.prog S (.fn 42) [.int .i64 n,.int .i64 c] H (fun v H' => v = .bool (decide (0 ≤ c ∧ c < n)) ∧ H' = H) by
    obtain ⟨_,_,hr,rfl,rfl⟩:=h; exact hr
  refine call_of Tryd.func42 rfl (Nat.le_of_ble_eq_true rfl) (hS.no rfl _ _) ?_
  rw [Tryd.ntmps42,Tryd.results42]
  repeat' (first | (with_reducible refine Zacf (fun h => ?_) (fun h => ?_)) | (with_reducible refine Zace (fun h => ?_) (fun h => ?_)) | (with_reducible refine sxIfB_sp (fun h => ?_) (fun h => ?_)) | simp only [↓Zabo,↓Zabq,↓Zabp,↓Zacj,↓Zaci,↓Zaco,↓Zaav,↓Zaar,↓Zaak,↓Zaas,↓Zaal,↓bxPut,↓Zabj,↓Zabh,↓Zacm,↓Zacn,↓Zacp,↓Zaaz,↓Zaax,↓dstAt,↓Zaba,Zack,Zaad,Zabb,Zaac,Zaab,sxGuardB_tt,sxGuardB_tf,Zabe,↓reduceIte,Nat.reduceEqDiff,Nat.reduceLT,dec_T,dec_F,true_and,false_and,and_self, *,argF,List.getD_cons_zero,List.getD_cons_succ])

theorem isOffer_runs (n:Int) (x:Off) (H:Heap):∃ H',Keep H H' ∧ Runs Tryd.prog S (.fn 49) [.int .i64 n,.agg ⟨x.cells⟩] H (.bool (decide (IsOff n x))) H':=by
  suffices h:WCall Tryd.prog S (.fn 49) [.int .i64 n,.agg ⟨x.cells⟩] H (fun v H' => v = .bool (decide (IsOff n x)) ∧ Keep H H') by
    obtain ⟨_,H',hr,rfl,hk⟩:=h; exact ⟨H',hk,hr⟩
  obtain ⟨H1,e1,k1,s1,_,h0,h1,h2,h3⟩:=boxO H x;have hc:(Value.agg ⟨x.cells⟩).cells.toList = x.cells:=rfl;have hcur:=fun c => (isCurrency_runs hS n c H1).bx
  refine call_of Tryd.func49 rfl (Nat.le_of_ble_eq_true rfl) (hS.no rfl _ _) ?_
  rw [Tryd.ntmps49,Tryd.results49]
  repeat' (first | (with_reducible refine Zacf (fun h => ?_) (fun h => ?_)) | (with_reducible refine Zace (fun h => ?_) (fun h => ?_)) | (with_reducible refine sxIfB_sp (fun h => ?_) (fun h => ?_)) | simp only [↓Zabo,↓Zabq,↓Zabp,↓Zacj,↓Zaci,↓Zaco,↓Zaav,↓Zaar,↓Zaak,↓Zaas,↓bxOp_box,↓Zaaq,↓Zaal,↓Zaan,↓Zaau,↓bxPut,↓Zabj,↓Zabh,↓Zacm,↓Zacn,↓Zacp,↓Zaaz,↓Zaax,↓Zaay,↓dstAt,↓Zaba,Zack,Zaad,Zabb,Zaac,Zaab,Zabs,sxGuardB_tt,sxGuardB_tf,Zabe,List.map,List.nil_append,List.append_nil,↓reduceIte,Nat.reduceEqDiff,Nat.reduceLT,dec_T,dec_F,and_true,and_self,Nat.add_zero,one1,Option.bind_some,not_false_eq_true, *,argF,List.getD_cons_zero,List.getD_cons_succ,faO0,faO1,faO2,faO3,ldI,Nat.zero_add])
  all_goals first
    | exact bool_f (by unfold IsOff; omega)
    | exact bool_t (by unfold IsOff; omega)
    | exact bool_d (by unfold IsOff; omega)

theorem checkL_runs (n:Int) (x:Off) (rn:Nat) (H:Heap) (hr:rn < H.size) (hn:H.read rn 0 1 = some [.int .i64 n]) :
    ∃ H',Keep H H' ∧ Runs Tryd.prog S (.fn 48) [.agg ⟨x.cells⟩,.pointer (some ⟨rn,0,none⟩)] H (.bool (decide (¬ IsOff n x))) H':=by
  suffices h:WCall Tryd.prog S (.fn 48) [.agg ⟨x.cells⟩,.pointer (some ⟨rn,0,none⟩)] H (fun v H' => v = .bool (decide (¬ IsOff n x)) ∧ Keep H H') by
    obtain ⟨_,H',hr,rfl,hk⟩:=h; exact ⟨H',hk,hr⟩
  obtain ⟨H1,e1,k1,s1,h4,_⟩:=boxO H x;have hc:(Value.agg ⟨x.cells⟩).cells.toList = x.cells:=rfl;have h0:=k1.read hr hn;obtain ⟨H2,k2,R2⟩:=isOffer_runs hS n x H1;have hof:=R2.bx;have k12:=k1.trans k2;clear R2;refine call_of Tryd.func48 rfl (Nat.le_of_ble_eq_true rfl) (hS.no rfl _ _) ?_
  rw [Tryd.ntmps48,Tryd.results48]
  repeat' (first | (with_reducible refine Zacf (fun h => ?_) (fun h => ?_)) | (with_reducible refine Zace (fun h => ?_) (fun h => ?_)) | (with_reducible refine sxIfB_sp (fun h => ?_) (fun h => ?_)) | simp only [↓Zabo,↓Zabq,↓Zabp,↓Zacj,↓Zaci,↓Zaco,↓Zaak,↓bxOp_box,↓Zaaq,↓bxOp_un,↓Zaau,↓bxPut,↓Zabj,↓Zabh,↓Zacm,↓Zacn,↓Zacp,↓Zaaz,↓Zaax,↓Zaay,Zack,una_not_dec,Zabs,Zabe,List.map,List.nil_append,List.append_nil,↓reduceIte,Nat.reduceEqDiff,Nat.reduceLT,and_self,one1,Option.bind_some,Option.map_some, *,argF,List.getD_cons_zero,List.getD_cons_succ,ldI,ldO])

theorem ifO_runs (p:Off → Prop) [DecidablePred p] (v:Value) (w:List Off) (r o:Nat) (H:Heap) (hl:SlO H v w r o)
    {g:FuncId} {cs:List Value} (hp:∀ H1,Keep H H1 → ∀ n xs,n ∈ w → offE.At H1 n xs → ∃ H2,Keep H1 H2 ∧ Runs Tryd.prog S (.fn g) (.agg ⟨xs⟩ :: cs) H1 (.bool (decide (p n))) H2) :
    ∃ H' k,Keep H H' ∧ Runs Tryd.prog S (.fn 64) [v,.func (.func g) #[] ⟨cs⟩] H (.int .i64 k) H' ∧ ((k = -1 ∧ ∀ x ∈ w,¬ p x) ∨ (∃ j:Nat,k = j ∧ j < w.length ∧ p (w.getD j default) ∧ ∀ i,i < j → ¬ p (w.getD i default))):=by
  suffices h:WCall Tryd.prog S (.fn 64) [v,.func (.func g) #[] ⟨cs⟩] H (fun v H' => ∃ k,v = .int .i64 k ∧ Keep H H' ∧ ((k = -1 ∧ ∀ x ∈ w,¬ p x) ∨ (∃ j:Nat,k = j ∧ j < w.length ∧ p (w.getD j default) ∧ ∀ i,i < j → ¬ p (w.getD i default)))) by
    obtain ⟨_,H',hr,k,rfl,hk,hi⟩:=h; exact ⟨H',k,hk,hr,hi⟩
  obtain ⟨a,cap,rfl⟩:=hl.v0;refine call_of Tryd.func64 rfl (Nat.le_of_ble_eq_true rfl) (hS.no rfl _ _) ?_
  rw [Tryd.ntmps64,Tryd.results64]
  repeat' (first | (with_reducible refine Zacf (fun h => ?_) (fun h => ?_)) | (with_reducible refine Zace (fun h => ?_) (fun h => ?_)) | (with_reducible refine sxIfB_sp (fun h => ?_) (fun h => ?_)) | simp only [↓Zabo,↓Zabq,↓bxC_loop,↓Zabl,↓Zabp,↓Zacj,↓Zaci,↓Zaco,↓Zaar,↓Zaak,↓Zaap,↓bxPut,↓Zabj,↓Zabh,↓Zacm,↓Zacn,↓Zacp,↓Zaaz,↓Zaax,Zack,Zabe,↓reduceIte,Nat.reduceEqDiff,Nat.reduceLT, *,argF,List.getD_cons_zero,lenO])
  refine sxL_of (fun m ρ H1 => ∃ k:Nat,m = w.length - k ∧ k ≤ w.length ∧ Keep H H1 ∧ (∀ j,j < k → ¬ p (w.getD j default)) ∧ ρ 0 = .slice a w.length cap ∧
    ρ 1 = .func (.func g) #[] ⟨cs⟩ ∧ ρ 7 = .int .i64 w.length ∧ ρ 8 = .int .i64 k) ⟨0,rfl,Nat.zero_le _,Keep.refl _,fun j hj => absurd hj (Nat.not_lt_zero j),rfl,rfl,rfl,rfl⟩ ?_
  rintro m ρ H1 ⟨k,rfl,hk,hK,hall,e0,e1,e7,e8⟩;have hl1:=hl.keep hK
  by_cases hlt:k < w.length
  · have hix:=SlO_ixN hl1 hlt;obtain ⟨es,hrd,hat⟩:=SlO_el hl1 hlt;obtain ⟨H2,hK2,hr2⟩:=hp H1 hK (w.getD k default) _ (getD_mem hlt) hat;have hb:=hr2.bx;have hw:=wrap_succ hlt hl.ml;have hlt':(k:Int) < (w.length:Int):=by omega
    clear hl1 hr2 hat
    repeat' (first | (with_reducible refine Zacf (fun h => ?_) (fun h => ?_)) | (with_reducible refine Zace (fun h => ?_) (fun h => ?_)) | (with_reducible refine sxIfB_sp (fun h => ?_) (fun h => ?_)) | simp only [↓Zabr,↓Zabo,↓Zabq,↓Zaah,↓Zabl,↓Zabn,↓Zabp,↓Zacj,↓Zaci,↓Zaco,↓Zaar,↓Zaak,↓Zaaq,↓Zaal,↓Zaao,↓Zaau,↓bxPut,↓Zabj,↓Zabi,↓Zabk,↓Zaaf,↓Zaag,↓Zaae,↓Zabd,↓Zabc,↓loopQ_ret,↓Zabh,↓Zacm,↓Zacn,↓Zacp,↓Zaaz,↓Zaax,Zack,Zaad,Zabb,Zabs,Zach,Zabe,List.map,List.nil_append,List.cons_append,↓reduceIte,Nat.reduceEqDiff,Nat.reduceLT,dec_T,true_and,Option.map_some, *,ldO])
    · exact ⟨k,rfl,hK.trans hK2,.inr ⟨k,rfl,hlt,‹_›,hall⟩⟩
    · exact ⟨_,by omega,k + 1,rfl,by omega,hK.trans hK2,fun j hj => by
        rcases Nat.lt_or_ge j k with h | h
        · exact hall j h
        · rw [show j = k by omega]; assumption,rfl⟩
  · have hlt':¬ (k:Int) < (w.length:Int):=by omega
    clear hl1;obtain rfl:k = w.length:=by omega
    repeat' (first | (with_reducible refine Zacf (fun h => ?_) (fun h => ?_)) | (with_reducible refine Zace (fun h => ?_) (fun h => ?_)) | (with_reducible refine sxIfB_sp (fun h => ?_) (fun h => ?_)) | simp only [↓Zabr,↓Zabo,↓Zabq,↓Zaah,↓Zabl,↓Zabn,↓Zabp,↓Zacj,↓Zaci,↓Zaco,↓Zaar,↓Zaak,↓Zaaq,↓Zaal,↓Zaao,↓Zaau,↓bxPut,↓Zabj,↓Zabi,↓Zabk,↓Zaaf,↓Zaag,↓Zaae,↓Zabd,↓Zabc,↓loopQ_ret,↓Zabh,↓Zacm,↓Zacn,↓Zacp,↓Zaaz,↓Zaax,Zack,Zaad,Zabb,Zacg,Zabe,↓reduceIte,Nat.reduceLT,dec_F,true_and, *])
    exact ⟨-1,rfl,.inl ⟨rfl,all_of hall⟩⟩

theorem cfO_runs (p:Off → Prop) [DecidablePred p] (v:Value) (w:List Off) (r o:Nat) (H:Heap) (hl:SlO H v w r o)
    {g:FuncId} {cs:List Value} (hp:∀ H1,Keep H H1 → ∀ n xs,n ∈ w → offE.At H1 n xs → ∃ H2,Keep H1 H2 ∧ Runs Tryd.prog S (.fn g) (.agg ⟨xs⟩ :: cs) H1 (.bool (decide (p n))) H2) :
    ∃ H',Keep H H' ∧ Runs Tryd.prog S (.fn 47) [v,.func (.func g) #[] ⟨cs⟩] H (.bool (decide (¬ ∀ x ∈ w,¬ p x))) H':=by
  obtain ⟨H',k,hK,hR,hk⟩:=ifO_runs hS p v w r o H hl hp;refine ⟨H',hK,?_⟩;have hk':0 ≤ k ↔ ¬ ∀ x ∈ w,¬ p x:=by
    rcases hk with ⟨rfl,h⟩ | ⟨j,rfl,h1,h2,h3⟩
    · exact ⟨fun h => by omega,fun hn => absurd h hn⟩
    · exact ⟨fun _ hn => hn _ (getD_mem h1) h2,fun _ => by omega⟩
  suffices h:WCall Tryd.prog S (.fn 47) [v,.func (.func g) #[] ⟨cs⟩] H (fun v' H1 => v' = .bool (decide (¬ ∀ x ∈ w,¬ p x)) ∧ H1 = H') by
    obtain ⟨_,_,hr,rfl,rfl⟩:=h; exact hr
  refine call_of Tryd.func47 rfl (Nat.le_of_ble_eq_true rfl) (hS.no rfl _ _) ?_
  rw [Tryd.ntmps47,Tryd.results47];have hb:=hR.bx;clear hR hp
  repeat' (first | (with_reducible refine Zacf (fun h => ?_) (fun h => ?_)) | (with_reducible refine Zace (fun h => ?_) (fun h => ?_)) | (with_reducible refine sxIfB_sp (fun h => ?_) (fun h => ?_)) | simp only [↓Zabo,↓Zabq,↓Zabp,↓Zacj,↓Zaci,↓Zaco,↓Zaar,↓Zaak,↓Zaal,↓Zaau,↓bxPut,↓Zabj,↓Zabh,↓Zacm,↓Zacn,↓Zacp,↓Zaaz,↓Zaax,↓Zaay,Zack,Zaad,Zabb,Zabs,Zabe,List.map,List.nil_append,List.append_nil,↓reduceIte,Nat.reduceEqDiff,Nat.reduceLT,and_self, *,argF,List.getD_cons_zero,List.getD_cons_succ])
  all_goals first
    | exact bool_d hk'
    | skip

def chk (n:Int) (l:List Off):Int:=if n < 2 ∨ 6 < n then 2 else if 40 < l.length then 3 else if ∀ x ∈ l,IsOff n x then 0 else 2
theorem check_runs (n:Int) (v:Value) (l:List Off) (r o:Nat) (H:Heap) (hl:SlO H v l r o) :
    ∃ H',Keep H H' ∧ Runs Tryd.prog S (.fn 20) [.int .i64 n,v] H (.int .i64 (chk n l)) H':=by
  suffices h:WCall Tryd.prog S (.fn 20) [.int .i64 n,v] H (fun v H' => v = .int .i64 (chk n l) ∧ Keep H H') by
    obtain ⟨_,H',hr,rfl,hk⟩:=h; exact ⟨H',hk,hr⟩
  obtain ⟨a,cap,rfl⟩:=hl.v0;refine call_of Tryd.func20 rfl (Nat.le_of_ble_eq_true rfl) (hS.no rfl _ _) ?_
  rw [Tryd.ntmps20,Tryd.results20];have hc:(Value.int .i64 n).cells.toList = [.int .i64 n]:=rfl;obtain ⟨H1,e1,k1,s1,-,rd1⟩:=box1 H [.int .i64 n] 3;have h0:H1.read H.size 0 1 = some [.int .i64 n]:=rd1 0 1 (by show 0 + 1 ≤ 1; omega)
  clear rd1
  obtain ⟨H2,k2,R2⟩:=cfO_runs hS (fun x => ¬ IsOff n x) _ l r o H1 (hl.keep k1) (g:=48) (cs:=[.pointer (some ⟨H.size,0,none⟩)]) (fun H3 k3 x xs hx hat => by
    obtain ⟨rfl,_⟩:=offE_inv hat
    exact checkL_runs hS n x H.size H3 (Nat.lt_of_lt_of_le s1 k3.size) (k3.read s1 h0))
  have hb:=R2.bx;have hy:notYield (.func 48) = true:=rfl;have k12:=k1.trans k2;simp only [Decidable.not_not] at hb;clear R2
  repeat' (first | (with_reducible refine Zacf (fun h => ?_) (fun h => ?_)) | (with_reducible refine Zace (fun h => ?_) (fun h => ?_)) | (with_reducible refine sxIfB_sp (fun h => ?_) (fun h => ?_)) | simp only [↓Zabr,↓Zabo,↓Zabq,↓Zaah,↓Zabp,↓Zacj,↓Zaci,↓Zaco,↓Zaav,↓Zaar,↓Zaak,↓Zaas,↓bxOp_box,↓Zaaq,↓Zaal,↓bxOp_makeFunc,↓Zaau,↓Zaap,↓bxPut,↓Zabj,↓Zabk,↓Zabh,↓Zacm,↓Zacn,↓Zacp,↓Zaaz,↓Zaax,↓Zaay,↓dstAt,↓Zaba,Zack,Zaad,Zabb,Zaac,Zaab,Zabs,sxGuardB_ft,Zacd,Zach,Zabe,List.map,List.nil_append,List.append_nil,↓reduceIte,Nat.reduceEqDiff,Nat.reduceLT,dec_T,dec_F,true_and,and_true,one1,Option.bind_some, *,argF,List.getD_cons_zero,List.getD_cons_succ,lenO,ldI])
  all_goals refine congrArg (Value.int .i64) ?_
  all_goals first
    | (rw [chk,if_pos (by omega)]; done)
    | (rw [chk,if_neg (by omega),if_pos (by omega)]; done)
    | (rw [chk,if_neg (by omega),if_neg (by omega),if_neg ‹_›]; done)
    | (rw [chk,if_neg (by omega),if_neg (by omega),if_pos (Decidable.not_not.1 ‹_›)]; done)
end Go.Proofs.YtcmaipijkjillaaDoor
