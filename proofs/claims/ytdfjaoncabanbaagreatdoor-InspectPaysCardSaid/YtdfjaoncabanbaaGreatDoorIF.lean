/- A ratio in lowest terms, by the program. -/
import Derived.Test.YtdfjaoncabanbaaGreatDoorIE
import Derived.Test.YtdfjaoncabanbaaGreatDoorIC
set_option linter.unusedVariables false
set_option linter.unusedSimpArgs false
set_option linter.unusedSectionVars false

namespace Go.Proofs.YtdfjaoncabanbaaGreatDoor
set_option maxRecDepth 10000

def rat (n d:Int):Int × Int:=(n / ((Nat.gcd d.natAbs n.natAbs:Nat):Int),d / ((Nat.gcd d.natAbs n.natAbs:Nat):Int))
theorem rat_facts {n d:Int} (hd:0 < d):0 < (rat n d).2 ∧ Nat.gcd (rat n d).1.natAbs (rat n d).2.natAbs = 1 ∧ (rat n d).1 * d = n * (rat n d).2 ∧ (rat n d).2 ≤ d ∧ (rat n d).1.natAbs ≤ n.natAbs ∧ (0 ≤ n → 0 ≤ (rat n d).1):=by
  unfold rat;have hgp:0 < Nat.gcd d.natAbs n.natAbs:=Nat.gcd_pos_of_pos_left _ (by omega)
  have hdx:((Nat.gcd d.natAbs n.natAbs:Nat):Int) ∣ n:=Int.ofNat_dvd_left.2 (Nat.gcd_dvd_right _ _);have hdy:((Nat.gcd d.natAbs n.natAbs:Nat):Int) ∣ d:=Int.ofNat_dvd_left.2 (Nat.gcd_dvd_left _ _);have h1:Nat.gcd (n / ((Nat.gcd d.natAbs n.natAbs:Nat):Int)).natAbs (d / ((Nat.gcd d.natAbs n.natAbs:Nat):Int)).natAbs = 1:=by
    rw [Int.natAbs_ediv_of_dvd hdx,Int.natAbs_ediv_of_dvd hdy,Int.natAbs_natCast,Nat.gcd_comm d.natAbs];rw [Nat.gcd_comm] at hgp;exact Nat.coprime_div_gcd_div_gcd hgp
  have h2:0 < d / ((Nat.gcd d.natAbs n.natAbs:Nat):Int):=Int.ediv_pos_of_pos_of_dvd hd (by omega) hdy
  refine ⟨h2,h1,?_,?_,?_,fun h => Int.ediv_nonneg h (by omega)⟩
  · generalize ((Nat.gcd d.natAbs n.natAbs:Nat):Int) = G at *;obtain ⟨p,rfl⟩:=hdx;obtain ⟨q,rfl⟩:=hdy;have hG:G ≠ 0:=fun h0 => by subst h0; omega
    rw [Int.mul_ediv_cancel_left _ hG,Int.mul_ediv_cancel_left _ hG,← Int.mul_assoc,Int.mul_comm p G]
  · exact Int.ediv_le_self _ (by omega)
  · rw [Int.natAbs_ediv_of_dvd hdx];exact Nat.div_le_self _ _
end Go.Proofs.YtdfjaoncabanbaaGreatDoor
namespace Go.Proofs.YtdfjaoncabanbaaGreatDoor
open Go Go.AM
set_option maxRecDepth 10000

theorem ldRt (H:Heap) (r o:Nat):aLoad Tryz.prog H 29 (.pointer (some ⟨r,o,none⟩)) = (H.read r o 2).map fun l => .agg ⟨l⟩:=by kernel_rfl
theorem alR (H:Heap):aAlloc Tryz.prog H 29 = some (.pointer (some ⟨H.size,0,none⟩),H.newExact [.int .i64 0,.int .i64 0] 29):=by kernel_rfl
theorem bdR (a b:Int):aBuild Tryz.prog 29 [(0,.int .i64 a),(1,.int .i64 b)] = some (.agg ⟨[.int .i64 a,.int .i64 b]⟩):=by kernel_rfl
theorem box2 (H:Heap) (a b:Int) (t:TypeId):∃ H1,H.newExact [.int .i64 a,.int .i64 b] t = H1 ∧ Keep H H1 ∧ H.size < H1.size ∧ Own H1 H.size t [.int .i64 a,.int .i64 b] ∧ H1.read H.size 0 2 = some [.int .i64 a,.int .i64 b] ∧ H1.read H.size 0 1 = some [.int .i64 a] ∧ H1.read H.size 1 1 = some [.int .i64 b]:=by
  obtain ⟨H1,e1,hK1,hz1,_,hr1⟩:=box1 H [.int .i64 a,.int .i64 b] t;exact ⟨H1,e1,hK1,hz1,e1 ▸ Own.new H _ _,hr1 0 2 (by show 0 + 2 ≤ 2; omega),hr1 0 1 (by show 0 + 1 ≤ 2; omega),hr1 1 1 (by show 1 + 1 ≤ 2; omega)⟩
theorem splice_whole {l new:List Value} (h:l.length = new.length):splice l 0 new = new:=by
  unfold splice;rw [List.take_zero,List.nil_append,Nat.zero_add,List.drop_of_length_le (by omega),List.append_nil]
theorem stG {t:TypeId} {inf:TypeInfo} (hi:Tryz.prog.info? t = some inf) {H0 H:Heap} {r:Nat} {cells:List Value} (hk:Keep H0 H) (hr:H0.size ≤ r) (hL:H.low ≤ H.size) (ow:Own H r t cells) {v:Value} {new:List Value} (hv:v.cells.toList = new) (hs:inf.size = new.length) (hp:ones new = true) (hl:cells.length = new.length) :
    ∃ Ha Hb,aStore Tryz.prog (H.relow H.size) t (.pointer (some ⟨r,0,none⟩)) v = some Ha ∧ Ha.relow (Nat.min H.low Ha.low) = Hb ∧ Keep H0 Hb ∧ Hb.size = H.size ∧ Hb.low ≤ Hb.size ∧ Own Ha r t new ∧ Own Hb r t new ∧ (∀ r' e' c',r' ≠ r → Own H r' e' c' → Own Hb r' e' c'):=by
  obtain ⟨Ha,h1,h2,h3,h4,h5⟩:=(ow.addr (l:=H.size)).store (t:=t) hi (v:=v) (new:=new) hv hs hp (o:=0) (by omega)
  rw [splice_whole hl] at h2;refine ⟨Ha,_,h1,rfl,Keep.lower hk (h5 H0 (hk.trans (Keep.relowS _)) hr),h3,?_,h2,h2.addr,fun r' e' c' hne ho => (h4 r' e' c' hne ho.addr).addr⟩
  show Nat.min H.low Ha.low ≤ Ha.size;rw [h3];exact Nat.le_trans (Nat.min_le_left _ _) hL
theorem own2 {H:Heap} {r:Nat} {t:TypeId} {x y:Value} (h:Own H r t [x,y]):H.read r 0 2 = some [x,y] ∧ H.read r 0 1 = some [x] ∧ H.read r 1 1 = some [y]:=
  ⟨h.read (o:=0) (n:=2) (Nat.le_refl 2),h.read (o:=0) (n:=1) (show 0 + 1 ≤ 2 by omega),h.read (o:=1) (n:=1) (show 1 + 1 ≤ 2 by omega)⟩
theorem infR:Tryz.prog.info? 29 = some Tryz.t29 ∧ Tryz.t29.size = 2:=⟨by kernel_rfl,by kernel_rfl⟩
theorem cells2 (l:List Value):(Value.agg ⟨l⟩).cells.toList = l:=rfl

variable {S:AM.Sys} (hS:Only S 5)
include hS

theorem pratio_runs (n d:Int) (H:Heap) (hL:H.low ≤ H.size) (hn:-4611686018427387904 ≤ n ∧ n ≤ 4611686018427387904) (hd:0 < d) (hd2:d ≤ 4611686018427387904):∃ H',Keep H H' ∧ Runs Tryz.prog S (.fn 16) [.int .i64 n,.int .i64 d] H (.agg ⟨[.int .i64 (rat n d).1,.int .i64 (rat n d).2]⟩) H':=by
  suffices h:WCall Tryz.prog S (.fn 16) [.int .i64 n,.int .i64 d] H (fun v H' => v = .agg ⟨[.int .i64 (rat n d).1,.int .i64 (rat n d).2]⟩ ∧ Keep H H') by
    obtain ⟨_,H',hr,rfl,hk⟩:=h; exact ⟨H',hk,hr⟩
  obtain ⟨Ha,e1,ka,za,owa,-,-,-⟩:=box2 H 0 0 29;obtain ⟨H1,k1,R1⟩:=gdv_runs hS d n Ha (by omega) hn
  have f1:=R1.bx;obtain ⟨H2',H2,p2,q2',k2,z2,l2,ow2',ow2,-⟩:=stG infR.1 (ka.trans k1) (Nat.le_refl _) ((ka.trans k1).low hL) (owa.keep k1) (v:=.agg ⟨[.int .i64 (rat n d).1,.int .i64 (rat n d).2]⟩) rfl infR.2 rfl rfl;obtain ⟨m2,-,-⟩:=own2 ow2;have l1:=(ka.trans k1).low hL;have hgp:0 < Nat.gcd d.natAbs n.natAbs:=Nat.gcd_pos_of_pos_left _ (by omega)
  have hdx:((Nat.gcd d.natAbs n.natAbs:Nat):Int) ∣ n:=Int.ofNat_dvd_left.2 (Nat.gcd_dvd_right _ _);have hdy:((Nat.gcd d.natAbs n.natAbs:Nat):Int) ∣ d:=Int.ofNat_dvd_left.2 (Nat.gcd_dvd_left _ _);have t1:n.tdiv ((Nat.gcd d.natAbs n.natAbs:Nat):Int) = (rat n d).1:=Int.tdiv_eq_ediv_of_dvd hdx;have t2:d.tdiv ((Nat.gcd d.natAbs n.natAbs:Nat):Int) = (rat n d).2:=Int.tdiv_eq_ediv_of_dvd hdy;obtain ⟨q1,-,-,q2,q3,-⟩:=rat_facts (n:=n) hd;have w1:IntKind.i64.wrap (rat n d).1 = (rat n d).1:=IntWalk.i64_in _ (by omega)
  have w2:IntKind.i64.wrap (rat n d).2 = (rat n d).2:=IntWalk.i64_in _ (by omega)
  have hg0:¬ ((Nat.gcd d.natAbs n.natAbs:Nat):Int) = 0:=by omega
  clear R1 hdx hdy q1 q2 q3 owa ow2 ow2';generalize ((Nat.gcd d.natAbs n.natAbs:Nat):Int) = G at *;generalize rat n d = x at *;refine call_of Tryz.func16 rfl (Nat.le_of_ble_eq_true rfl) (hS.no rfl _ _) ?_
  rw [Tryz.ntmps16,Tryz.results16]
  repeat' (first | simp only [↓Zabm,↓Zabo,↓Zabq,↓Zabp,↓Zaci,↓Zach,↓Zacb,↓Zaah,↓Zabz,↓sxDL_build,↓sxDL_binOp,↓sxD_same,↓Zacn,↓Zaar,↓Zaaj,↓Zaai,↓bxOp_build,↓Zaat,↓Zaak,↓Zaau,↓Zack,↓bxPut,↓Zabj,↓Zabh,↓Zacl,↓Zaav,↓Zaco,↓Zaba,↓Zaaz,Zacj,Zaac,Zabc,Zabs,Zabf,List.map,List.nil_append,List.append_nil,↓reduceIte,Nat.reduceEqDiff,Nat.reduceLT,and_self,ne_eq,not_false_eq_true,Option.map_some, *,argF,List.getD_cons_zero,List.getD_cons_succ,bdR,alR,ldRt] | (with_reducible first | refine Zabu (by assumption) (by decide +kernel) ?_ | refine Zabt (by decide +kernel) ?_ | refine Zaca (by decide +kernel) ?_ | refine Zabv ?_))
end Go.Proofs.YtdfjaoncabanbaaGreatDoor
