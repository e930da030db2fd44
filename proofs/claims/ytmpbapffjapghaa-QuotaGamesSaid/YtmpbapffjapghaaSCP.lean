/- Sorting: what a round has, and what is done in the end. -/
import Derived.Test.YtmpbapffjapghaaS4P
import Derived.Test.YtmpbapffjapghaaS5P
import Derived.Test.YtmpbapffjapghaaS7P
import Derived.Test.YtmpbapffjapghaaS8P
import Derived.Test.YtmpbapffjapghaaSAP
import Derived.Test.YtmpbapffjapghaaSBP
import Derived.Sort.AssemblyPlain
set_option linter.unusedVariables false
set_option linter.unusedSimpArgs false
set_option linter.unusedSectionVars false

namespace Go.Proofs.Ytmpbapffjapghaa
open Go Go.AM
set_option maxRecDepth 10000
def ContP (lt:(Int × Int) → (Int × Int) → Bool) (lo hi:Nat) (d:Array (Int × Int)) (a e:Nat) (d1:Array (Int × Int)):Prop:=∀ R,Sort.PermIn a e d1 R → Sort.SortedIn lt a e R → Sort.PermIn lo hi d R ∧ Sort.SortedIn lt lo hi R
structure PSP (HB:Base) (b r:Nat) (k:Bool) (V:(Int × Int) → Prop) (lt:(Int × Int) → (Int × Int) → Bool) (lo hi:Nat) (d:Array (Int × Int)) (H0:Heap) (a e:Nat) (d1:Array (Int × Int)) (H1:Heap):Prop where
  ae:a ≤ e
  es:e ≤ d.size
  below:Sort.Below lt a e d1
  all:AllP V d1
  sz:d1.size = d.size
  arr:SaP HB H1 b r k d1
  hs:H0.size ≤ H1.size
  cont:ContP lt lo hi d a e d1
def DoneP (HB:Base) (b r:Nat) (k:Bool) (V:(Int × Int) → Prop) (lt:(Int × Int) → (Int × Int) → Bool) (lo hi:Nat) (d:Array (Int × Int)) (H0 H1:Heap):Prop:=
  ∃ R,Sort.PermIn lo hi d R ∧ Sort.SortedIn lt lo hi R ∧ AllP V R ∧ R.size = d.size ∧ SaP HB H1 b r k R ∧ H0.size ≤ H1.size
theorem all_permP {V:(Int × Int) → Prop} {a e:Nat} {d d':Array (Int × Int)} (h:AllP V d) (he:e ≤ d.size) (hp:Sort.PermIn a e d d'):AllP V d':=fun i hi => by
  have hi':i < d.size:=by rw [← hp.1]; exact hi
  by_cases h1:a ≤ i ∧ i < e
  · exact Sort.permIn_all d d' a e V he hp (fun j _ hj => h j (by omega)) i h1.1 h1.2
  · rw [hp.2.1 i (by omega)]; exact h i hi'
section
variable {HB:Base} {b r:Nat} {k:Bool} {V:(Int × Int) → Prop} {lt:(Int × Int) → (Int × Int) → Bool} {lo hi:Nat} {d:Array (Int × Int)} {H0:Heap} {a e:Nat} {d1 d2:Array (Int × Int)} {H1 H2:Heap}
theorem PSP.e1 (h:PSP HB b r k V lt lo hi d H0 a e d1 H1):e ≤ d1.size:=by rw [h.sz]; exact h.es
theorem PSP.perm (h:PSP HB b r k V lt lo hi d H0 a e d1 H1) (hp:Sort.PermIn a e d1 d2) (ha:SaP HB H2 b r k d2) (hs:H1.size ≤ H2.size):PSP HB b r k V lt lo hi d H0 a e d2 H2 where
  ae:=h.ae
  es:=h.es
  below:=h.below.perm h.e1 hp
  all:=all_permP h.all h.e1 hp
  sz:=hp.1.trans h.sz
  arr:=ha
  hs:=Nat.le_trans h.hs hs
  cont:=fun R h1 h2 => h.cont R (Sort.permIn_trans _ _ _ _ _ hp h1) h2
theorem PSP.done (h:PSP HB b r k V lt lo hi d H0 a e d1 H1) (hp:Sort.PermIn a e d1 d2) (hsrt:Sort.SortedIn lt a e d2) (ha:SaP HB H2 b r k d2) (hs:H1.size ≤ H2.size):DoneP HB b r k V lt lo hi d H0 H2:=by
  obtain ⟨h1,h2⟩:=h.cont d2 hp hsrt;exact ⟨d2,h1,h2,all_permP h.all h.e1 hp,hp.1.trans h.sz,ha,Nat.le_trans h.hs hs⟩
theorem PSP.ins (hw:Sort.SWO lt) (h:PSP HB b r k V lt lo hi d H0 a e d1 H1) (hp:PostIP HB b r k lt d1 a e H1 H2):DoneP HB b r k V lt lo hi d H0 H2:=by
  obtain ⟨g1,g2⟩:=Sort.insertionSort_holds hw d1 a e h.ae h.e1;exact h.done g1 g2 hp.1 hp.2
theorem PSP.heap (hw:Sort.SWO lt) (h:PSP HB b r k V lt lo hi d H0 a e d1 H1) (hp:PostAP HB b r k (Sort.heapSort lt d1 a e) H1 H2):DoneP HB b r k V lt lo hi d H0 H2:=by
  obtain ⟨g1,g2⟩:=Sort.heapSort_holds hw d1 a e h.ae h.e1;exact h.done g1 g2 hp.1 hp.2
theorem PSP.brk (h:PSP HB b r k V lt lo hi d H0 a e d1 H1) (hp:PostBP HB b r k V a e d1 H1 H2):∃ d2,PSP HB b r k V lt lo hi d H0 a e d2 H2:=by
  obtain ⟨d2,h1,_,_,h4,h5⟩:=hp;exact ⟨d2,h.perm h1 h4 h5⟩
theorem PSP.rev (h:PSP HB b r k V lt lo hi d H0 a e d1 H1) (hp:PostRP HB b r k (Sort.reverseRange d1 a e) H1 H2):∃ d2,PSP HB b r k V lt lo hi d H0 a e d2 H2:=
  ⟨_,h.perm (Sort.reverseRange_holds d1 a e h.ae h.e1) hp.1 hp.2⟩
theorem PSP.pins (hw:Sort.SWO lt) (hlt:a < e) (h:PSP HB b r k V lt lo hi d H0 a e d1 H1) {u:Value} (hp:PostNP HB b r k (Sort.partialInsertionSort lt d1 a e) H1 u H2) :
    (u = .bool true ∧ DoneP HB b r k V lt lo hi d H0 H2) ∨ (u = .bool false ∧ ∃ d2,PSP HB b r k V lt lo hi d H0 a e d2 H2):=by
  obtain ⟨g1,g2⟩:=Sort.partialInsertionSort_holds hw d1 a e hlt h.e1 h.below;obtain ⟨p1,p2,p3⟩:=hp;cases hb:(Sort.partialInsertionSort lt d1 a e).2 with
  | true => rw [hb] at p1; exact .inl ⟨p1,h.done g1 (g2 hb) p2 p3⟩
  | false => rw [hb] at p1; exact .inr ⟨p1,_,h.perm g1 p2 p3⟩
theorem PSP.peq (hw:Sort.SWO lt) (h:PSP HB b r k V lt lo hi d H0 a e d1 H1) {p:Nat} (h0:0 < a) (hp1:a ≤ p) (hp2:p < e) (hn:lt d1[a - 1]! d1[p]! = false) {u:Value} (hp:PostEP HB b r k (Sort.partitionEqual lt d1 a e p) H1 u H2) :
    ∃ (mid:Nat) (d2:Array (Int × Int)),u = .int .i64 (mid:Int) ∧ a < mid ∧ mid ≤ e ∧ PSP HB b r k V lt lo hi d H0 mid e d2 H2:=by
  obtain ⟨p1,p2,p3⟩:=hp
  have hsp:=(Sort.partitionEqual_holds lt) hw d1 a e p hp1 hp2 h.e1 (fun i hi hi' => by
    rcases h.below with hz | hB
    · omega
    · exact hw.ntrans _ _ _ (hB i hi hi') hn)
  obtain ⟨g1,g2,g3,g4,g5⟩:=Sort.round_eq hw (Sort.partitionEqual_holds lt) h0 hp1 hp2 h.e1 h.below hn (mid:=(Sort.partitionEqual lt d1 a e p).1) (d4:=(Sort.partitionEqual lt d1 a e p).2) rfl;refine ⟨_,_,p1,g1,g2,⟨g2,h.es,g4,all_permP h.all h.e1 hsp.2.2.1,g3.trans h.sz,p2,Nat.le_trans h.hs p3,fun R h1 h2 => ?_⟩⟩
  obtain ⟨q1,q2⟩:=g5 R h1 h2;exact h.cont R q1 q2
theorem PSP.part (hw:Sort.SWO lt) (h:PSP HB b r k V lt lo hi d H0 a e d1 H1) {p:Nat} (hp1:a ≤ p) (hp2:p < e) {u:Value} (hp:PostPP HB b r k (Sort.partition lt d1 a e p).1 (Sort.partition lt d1 a e p).2.2 H1 u H2) :
    ∃ (mid:Nat) (bb:Bool) (d2:Array (Int × Int)),u = .tuple ⟨[.int .i64 (mid:Int),.bool bb]⟩ ∧ a ≤ mid ∧ mid < e ∧ d2.size = d.size ∧ AllP V d2 ∧ SaP HB H2 b r k d2 ∧ H0.size ≤ H2.size ∧ Sort.Below lt a mid d2 ∧ Sort.Below lt (mid + 1) e d2 ∧
      (∀ H3,DoneP HB b r k V lt a mid d2 H2 H3 → ∃ d3,PSP HB b r k V lt lo hi d H0 (mid + 1) e d3 H3) ∧ (∀ H3,DoneP HB b r k V lt (mid + 1) e d2 H2 H3 → ∃ d3,PSP HB b r k V lt lo hi d H0 a mid d3 H3):=by
  obtain ⟨⟨bb,hu⟩,p2,p3⟩:=hp;have hsp:=(Sort.partition_holds lt) hw d1 a e p hp1 hp2 h.e1;obtain ⟨g1,g2,g3,g4,g5,g6,g7⟩:=Sort.round_part hw (Sort.partition_holds lt) hp1 hp2 h.e1 h.below (mid:=(Sort.partition lt d1 a e p).1) (ap:=(Sort.partition lt d1 a e p).2.1) (d4:=(Sort.partition lt d1 a e p).2.2) rfl;have hes:=h.es;have hsz:=g3.trans h.sz;refine ⟨_,bb,_,hu,g1,g2,hsz,all_permP h.all h.e1 hsp.2.2.1,p2,Nat.le_trans h.hs p3,g4,g5,fun H3 hd => ?_,fun H3 hd => ?_⟩
  · obtain ⟨R,r1,r2,r3,r4,r5,r6⟩:=hd;obtain ⟨q1,q2⟩:=g6 R r1 r2
    exact ⟨R,by omega,h.es,q1,r3,r4.trans hsz,r5,Nat.le_trans h.hs (Nat.le_trans p3 r6),fun R' h1 h2 => by
      obtain ⟨q3,q4⟩:=q2 R' h1 h2
      exact h.cont R' q3 q4⟩
  · obtain ⟨R,r1,r2,r3,r4,r5,r6⟩:=hd;obtain ⟨q1,q2⟩:=g7 R r1 r2
    exact ⟨R,g1,by omega,q1,r3,r4.trans hsz,r5,Nat.le_trans h.hs (Nat.le_trans p3 r6),fun R' h1 h2 => by
      obtain ⟨q3,q4⟩:=q2 R' h1 h2
      exact h.cont R' q3 q4⟩
end
end Go.Proofs.Ytmpbapffjapghaa
