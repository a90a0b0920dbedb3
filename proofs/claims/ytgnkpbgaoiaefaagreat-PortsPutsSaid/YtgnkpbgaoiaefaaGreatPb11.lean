import Derived.Test.YtgnkpbgaoiaefaaGreatPb10
import Derived.Test.YtgnkpbgaoiaefaaGreatPb04
import Derived.Test.YtgnkpbgaoiaefaaGreatPb08
import Derived.StillTail
import Derived.Deep.DeepCutAuto
import Derived.RegionTactic
set_option maxRecDepth 100000
set_option maxHeartbeats 40000000
namespace Go.Proofs.YtgnkpbgaoiaefaaGreat
open Go.Lib (hid)
open Go.RowKit
theorem app1 (a b:Value):#[a]++#[b]=#[a,b]:=rfl
theorem app12 (a b c:Value):#[a]++#[b,c]=#[a,b,c]:=rfl
theorem app21 (a b c:Value):#[a,b]++#[c]=#[a,b,c]:=rfl
theorem app22 (a b c d:Value):#[a,b]++#[c,d]=#[a,b,c,d]:=rfl
theorem app23 (a b c d e:Value):#[a,b]++#[c,d,e]=#[a,b,c,d,e]:=rfl
theorem app20 (a b:Value):#[a,b]++(#[]:Array Value)=#[a,b]:=rfl
theorem cont_of (A:Option Addr) (n c:Nat) (xs:List Int) (x:Int) (w:World) (h:ISl w .i64 A n c xs):Calls Tryz.prog 115 #[.slice A n c,.int .i64 x] w fun e w'=>e=.returned (.bool (memB xs x))∧w=w':=by
 have:=vDk ⟨A,n,c⟩ xs x w h
 rwa [show xs.contains x=memB xs x by unfold memB;simp] at this
theorem rises_any (A:Option Addr) (n c:Nat) (xs:List Int) (hi:Int) (w:World) (h:ISl w .i64 A n c xs):Calls Tryz.prog 56 #[.slice A n c,.int .i64 hi] w fun e w'=>e=.returned (.bool (rsB xs hi))∧Drew w w':=by
 have hl:=h.len
 by_cases hn:n=0
 · subst hn
   obtain rfl:xs=[]:=List.eq_nil_of_length_eq_zero hl;rw [show rsB [] hi=true by unfold rsB;simp];clear h hl
   go_enter Tryz.func56,Tryz.ntmps56
   go_wp2;go_ret;exact ⟨rfl,Drew.refl _⟩
 · have ne:((n:Int) == 0)=false:=by simp;omega
   rw [show rsB xs hi=vBw xs 1 hi by unfold rsB;rw [decide_eq_false (fun e=>by rw [e] at hl;exact hn hl.symm)];rfl];have R:=hid (ris_any A n c xs 1 hi w h);clear h hl hn
   go_enter Tryz.func56,Tryz.ntmps56
   go_wp2_with (go_at_call 113;(with_reducible refine R.out.mono ?_);rintro e w1 ⟨rfl,hd⟩);go_ret;exact ⟨rfl,hd⟩
theorem member_any2 (P:PortV) (s:Sl3) (v:Int) (w:World) (F:Nat→Prop) (hF:∀b,F b→b<w.heap.size) (h:RSl (Rdr.int .i64) w F s.A s.n s.c P.tagged):Calls Tryz.prog 164 #[.agg #[.int .i64 P.row,.int .i64 P.dev,.int .i64 P.native,.int .i64 P.cost,.int .i64 P.link,.string (str P.name),.slice s.A s.n s.c],.int .i64 v] w fun e w'=>e=.returned (.bool (mbrB P v))∧Below w.heap.size w w':=by
 have IN:=hid (fun (w':World) (hb:Below w.heap.size w w')=>cont_of s.A s.n s.c P.tagged v w' (vBg (h.below hF hb)));unfold mbrB
 by_cases h0:v=0
 · have e:(decide (v≠0) && (decide (P.native=v) || memB P.tagged v))=false:=by rw [decide_eq_false (by simpa using h0)];rfl
   rw [e]
   have ne:(v != 0)=false:=by simpa using h0
   clear h h0 e
   go_enter Tryz.func164,Tryz.ntmps164
   go_wp2;go_ret;exact ⟨rfl,(Below.refl _ _).alloc (Nat.le_refl _) _⟩
 · have ne:(v != 0)=true:=by simpa using h0
   by_cases h1:P.native=v
   · have e:(decide (v≠0) && (decide (P.native=v) || memB P.tagged v))=true:=by rw [decide_eq_true h0,decide_eq_true h1];rfl
     rw [e]
     have ne2:(P.native == v)=true:=by simpa using h1
     clear h h0 e h1
     go_enter Tryz.func164,Tryz.ntmps164
     go_wp2;go_ret;exact ⟨rfl,(Below.refl _ _).alloc (Nat.le_refl _) _⟩
   · have e:(decide (v≠0) && (decide (P.native=v) || memB P.tagged v))=memB P.tagged v:=by rw [decide_eq_true h0,decide_eq_false h1];rfl
     rw [e]
     have ne2:(P.native == v)=false:=by simpa using h1
     generalize memB P.tagged v=V at *;clear h h0 e h1
     go_enter Tryz.func164,Tryz.ntmps164
     go_wp2_with (go_at_call 115;(with_reducible refine (IN.out _ ((Below.refl _ _).alloc (Nat.le_refl _) _)).mono ?_);rintro e w1 ⟨rfl,rfl⟩);go_ret;exact ⟨rfl,(Below.refl _ _).alloc (Nat.le_refl _) _⟩
theorem joins_any (L:LinkV) (p:Int) (w:World):Calls Tryz.prog 124 #[.agg #[.int .i64 L.row,.int .i64 L.a,.int .i64 L.b],.int .i64 p] w fun e w'=>e=.returned (.bool (decide (L.a=p) || decide (L.b=p)))∧Below w.heap.size w w':=by
 by_cases h0:L.a=p
 · have e:(L.a == p)=true:=by simpa using h0
   rw [decide_eq_true h0];clear h0
   go_enter Tryz.func124,Tryz.ntmps124
   go_wp2;go_ret;exact ⟨rfl,(Below.refl _ _).alloc (Nat.le_refl _) _⟩
 · have e:(L.a == p)=false:=by simpa using h0
   rw [decide_eq_false h0]
   by_cases h1:L.b=p
   all_goals
    first|rw [decide_eq_true h1]|rw [decide_eq_false h1]
    have e2:(L.b == p)=decide (L.b=p):=by by_cases g:L.b=p<;>simp [g]
    first|rw [decide_eq_true h1] at e2|rw [decide_eq_false h1] at e2
    clear h0 h1
    go_enter Tryz.func124,Tryz.ntmps124
    go_wp2;go_ret;exact ⟨rfl,(Below.refl _ _).alloc (Nat.le_refl _) _⟩
theorem find1_any (D:DomV) (s:Sl3) (dev v:Int) (q1 q2:Nat) (w:World) (c1:w.cell? ⟨q1,0,none⟩=some (.int .i64 dev)) (c2:w.cell? ⟨q2,0,none⟩=some (.int .i64 v)):
 Calls Tryz.prog 163 #[.agg #[.int .i64 D.dev,.int .i64 D.vlan,.int .i64 D.vni,.int .i64 D.irb,.int .i64 D.row,.slice s.A s.n s.c],.pointer (some ⟨q1,0,none⟩),.pointer (some ⟨q2,0,none⟩)] w fun e w'=>e=.returned (.bool (decide (D.dev=dev∧D.vlan=v)))∧Below w.heap.size w w':=by
 have l1:=World.block_lt_of_cell? w _ c1;have l2:=World.block_lt_of_cell? w _ c2;dsimp only at l1 l2
 by_cases h0:D.dev=dev
 · have e:(D.dev == dev)=true:=by simpa using h0
   by_cases h1:D.vlan=v
   · have e2:(D.vlan == v)=true:=by simpa using h1
     rw [decide_eq_true ⟨h0,h1⟩];clear h0 h1
     go_enter Tryz.func163,Tryz.ntmps163
     go_wp2;go_ret;exact ⟨rfl,(Below.refl _ _).alloc (Nat.le_refl _) _⟩
   · have e2:(D.vlan == v)=false:=by simpa using h1
     rw [decide_eq_false (fun g=>h1 g.2)];clear h0 h1
     go_enter Tryz.func163,Tryz.ntmps163
     go_wp2;go_ret;exact ⟨rfl,(Below.refl _ _).alloc (Nat.le_refl _) _⟩
 · have e:(D.dev == dev)=false:=by simpa using h0
   rw [decide_eq_false (fun g=>h0 g.1)];clear h0
   go_enter Tryz.func163,Tryz.ntmps163
   go_wp2;go_ret;exact ⟨rfl,(Below.refl _ _).alloc (Nat.le_refl _) _⟩
theorem atK_fst (dev v:Int):∀(xs:List DomV) (k n:Nat),n=xs.length→(∃j,j<n∧atK xs dev v k=((k+j:Nat):Int)∧((xs.getD j DomV.zero).dev=dev∧(xs.getD j DomV.zero).vlan=v)∧∀i,i<j→¬((xs.getD i DomV.zero).dev=dev∧(xs.getD i DomV.zero).vlan=v))∨(atK xs dev v k= -1∧∀i,i<n→¬((xs.getD i DomV.zero).dev=dev∧(xs.getD i DomV.zero).vlan=v))
 | [],k,n,h=>.inr ⟨rfl,fun i hi=>absurd hi (by simp at h;omega)⟩
 |d :: r,k,n,h=>by
  by_cases hd:d.dev=dev∧d.vlan=v
  · exact .inl ⟨0,by simp at h;omega,by rw [atK,if_pos hd];simp,hd,fun i hi=>absurd hi (by omega)⟩
  · rcases atK_fst dev v r (k+1) r.length rfl with ⟨j,h1,h2,h3,h4⟩|⟨h1,h2⟩
    · refine .inl ⟨j+1,by simp at h;omega,by rw [atK,if_neg hd,h2];congr 1;omega,by simpa using h3,fun i hi=>?_⟩
      match i with
      |0=>simpa using hd
      |i+1=>simpa using h4 i (by omega)
    · refine .inr ⟨by rw [atK,if_neg hd,h1],fun i hi=>?_⟩
      match i with
      |0=>simpa using hd
      |i+1=>simpa using h2 i (by simp at h;omega)
theorem atF_fst (N:NV) (dev v:Int) (n:Nat) (hn:N.domains.length=n):IsFst (fun k=>decide ((N.domains.getD k DomV.zero).dev=dev∧(N.domains.getD k DomV.zero).vlan=v)) n (atF N dev v):=by
 rcases atK_fst dev v N.domains 0 n hn.symm with ⟨j,h1,h2,h3,h4⟩|⟨h1,h2⟩
 · exact .inl ⟨j,h1,by unfold atF;rw [h2];congr 1;omega,decide_eq_true h3,fun i hi=>decide_eq_false (h4 i hi)⟩
 · exact .inr ⟨h1,fun i hi=>decide_eq_false (h2 i hi)⟩
theorem enters_find1:vBk Tryz.prog 163:=vBd Tryz.func163 (by kernel_rfl) rfl
theorem find_any (N:NV) (S:NSl3) (dev v:Int) (w:World) (h:NRead w (vAs w) N S):Calls Tryz.prog 126 #[vBb S,.int .i64 dev,.int .i64 v] w fun e w'=>e=.returned (.int .i64 (atF N dev v))∧Below w.heap.size w w':=by
 have IX:=hid (fun (w':World) (hb:Below w.heap.size w w') (q1 q2:Nat) (c1:w'.cell? ⟨q1,0,none⟩=some (.int .i64 dev)) (c2:w'.cell? ⟨q2,0,none⟩=some (.int .i64 v))=>
  idx_dom 163 #[.pointer (some ⟨q1,0,none⟩),.pointer (some ⟨q2,0,none⟩)] enters_find1 S.dm.A S.dm.n S.dm.c N.domains w' (vAr h.dm hb) _ (fun k s w2 hk hb2 hl=>by
   rw [app12]
   exact find1_any _ s dev v q1 q2 w2 ((hb2.cell (p:=⟨q1,0,none⟩) (World.block_lt_of_cell? w' _ c1)).trans c1) ((hb2.cell (p:=⟨q2,0,none⟩) (World.block_lt_of_cell? w' _ c2)).trans c2)) (atF N dev v) (atF_fst N dev v S.dm.n h.dm.len))
 clear h;unfold vBb;generalize atF N dev v=V at *;obtain ⟨W3,hW3⟩:∃W3,((w.alloc (.cells (nA S) 31)).alloc (.cells #[.int .i64 dev] 3)).alloc (.cells #[.int .i64 v] 3)=W3:=⟨_,rfl⟩;have k1:Below w.heap.size w (w.alloc (.cells (nA S) 31)):=(Below.refl _ _).alloc (Nat.le_refl _) _;have k2:Below w.heap.size w ((w.alloc (.cells (nA S) 31)).alloc (.cells #[.int .i64 dev] 3)):=k1.alloc (by simp) _;have B3:=hid (show Below w.heap.size w W3 by rw [←hW3];exact k2.alloc (by simp;omega) _)
 clear k1 k2;have R:=hid (IX.out W3 B3.out (w.heap.size+1) (w.heap.size+2) (by rw [←hW3];simp [go_sem]) (by rw [←hW3];simp [go_sem]));subst hW3;clear IX
 go_enter Tryz.func126,Tryz.ntmps126
 go_wp2_with (go_at_call 162;(with_reducible refine R.out.mono ?_);rintro e w1 ⟨rfl,hb⟩;have B:=hid (vAa B3.out hb);clear hb);go_ret;exact ⟨rfl,B.out⟩
theorem has_any (P:PortV) (s:Sl3) (D:DomV) (t:Sl3) (w:World) (h:RSl (Rdr.int .i64) w (vAs w) s.A s.n s.c P.tagged):Calls Tryz.prog 133 #[.agg #[.int .i64 P.row,.int .i64 P.dev,.int .i64 P.native,.int .i64 P.cost,.int .i64 P.link,.string (str P.name),.slice s.A s.n s.c],.agg #[.int .i64 D.dev,.int .i64 D.vlan,.int .i64 D.vni,.int .i64 D.irb,.int .i64 D.row,.slice t.A t.n t.c]] w fun e w'=>e=.returned (.bool (decide (P.dev=D.dev) && mbrB P D.vlan))∧Below w.heap.size w w':=by
 have MB:=hid (fun (w':World) (hb:Below w.heap.size w w')=>member_any2 P s D.vlan w' (vAs w') (fun _ hb=>hb) (vAr h hb));clear h;generalize mbrB P D.vlan=V at *;have B2:=hid (show Below w.heap.size w ((w.alloc (.cells #[.int .i64 P.row,.int .i64 P.dev,.int .i64 P.native,.int .i64 P.cost,.int .i64 P.link,.string (str P.name),.slice s.A s.n s.c] 62)).alloc (.cells #[.int .i64 D.dev,.int .i64 D.vlan,.int .i64 D.vni,.int .i64 D.irb,.int .i64 D.row,.slice t.A t.n t.c] 50)) from ((Below.refl _ _).alloc (Nat.le_refl _) _).alloc (by simp) _)
 by_cases h0:P.dev=D.dev
 · have e:(P.dev == D.dev)=true:=by simpa using h0
   rw [decide_eq_true h0];clear h0
   go_enter Tryz.func133,Tryz.ntmps133
   go_wp2_with (go_at_call 164;(with_reducible refine (MB.out _ B2.out).mono ?_);rintro e w1 ⟨rfl,hb⟩;have B:=hid (vAa B2.out hb);clear hb);go_ret;exact ⟨by simp,B.out⟩
 · have e:(P.dev == D.dev)=false:=by simpa using h0
   rw [decide_eq_false h0];clear h0
   go_enter Tryz.func133,Tryz.ntmps133
   go_wp2;go_ret;exact ⟨rfl,B2.out⟩
open Go
section
variable {P:Program} {ops:Array Oper} {Q:Exit→Act→World→Prop} {md:Region.Mode} {S:World→Prop} {n:Nat} {L:Array Bool→Act→Prop}
def DerT (P:Program) (md:Region.Mode) (ops:Array Oper) (S:World→Prop) (n:Nat) (L:Array Bool→Act→Prop):Nat→Array Bool→Act→Prop
 |0,listed,a=>L listed a
 |f+1,listed,a=>∃i oi v,ops[i]?=some oi∧i<n∧Region.free md ops listed i=true∧i∈Region.ready md ops listed∧StepS P ops S oi v a∧DerT P md ops S n L f (listed.setIfInBounds i true) (a.put oi.dst v)
theorem DerT.swap (hsel:∀(j:Nat) (o:Oper) cs b,ops[j]?=some o→o.op≠.select cs b) (hdone:∀listed a,L listed a→∀j∈Region.ready md ops listed,n≤j):∀(fuel:Nat) (listed:Array Bool) (a:Act),DerT P md ops S n L (fuel+1) listed a→
 ∀(j:Nat) (oj:Oper),ops[j]?=some oj→j<n→j∈Region.ready md ops listed→∃v,StepS P ops S oj v a∧DerT P md ops S n L fuel (listed.setIfInBounds j true) (a.put oj.dst v):=by
 intro fuel
 induction fuel with
 |zero=>
  intro listed a D j oj hoj hjn hj;obtain ⟨i,oi,v,hi,hin,hf,hr,hy,D'⟩:=D
  by_cases hij:j=i
  · subst hij
    rw [hi] at hoj
    cases hoj
    exact ⟨v,hy,D'⟩
  · have:=hdone _ _ D' j (ready_mono hj hij)
    omega
 |succ fuel ih=>
  intro listed a D j oj hoj hjn hj;obtain ⟨i,oi,v,hi,hin,hf,hr,hy,D'⟩:=D
  by_cases hij:j=i
  · subst hij
    rw [hi] at hoj
    cases hoj
    exact ⟨v,hy,D'⟩
  · obtain ⟨u,hyj,D2⟩:=ih _ _ D' j oj hoj hjn (ready_mono hj hij)
    obtain ⟨hjun,oj2,hoj2,hall⟩:=mem_ready.1 hj;rw [hoj] at hoj2
    cases hoj2
    have hnot:∀e∈oj.after,Region.binds md e=true→e.on≠i:=fun e he hb heq=>by
     have h1:=hall e he hb;have h0:=(mem_ready.1 hr).1;rw [heq] at h1
     rcases Nat.lt_or_ge i listed.size with h'|h'
     · simp [h'] at h0 h1;rw [h0] at h1;cases h1
     · simp [Array.getElem?_eq_none h'] at h1
    obtain ⟨h1,h2,h3⟩:=Oper.apart_spec (Region.free_spec hi hf j oj hoj hij hjun hnot)
    refine ⟨u,(StepS.of_put (hsel j oj · · hoj) h1).1 hyj,i,oi,v,hi,hin,vHf hf,ready_mono hr (Ne.symm hij),(StepS.of_put (hsel i oi · · hi) h3).2 hy,?_⟩
    rw [Array.setIfInBounds_comm _ _ hij,←Act.put_comm a v u h2];exact D2
theorem DerT.any {g:Nat} (hsel:∀(j:Nat) (o:Oper) cs b,ops[j]?=some o→o.op≠.select cs b) (hs:Region.sinkB md ops n=true) (hc:Region.chainB md ops n=true) (hn:n<ops.size) (hdone:∀listed a,L listed a→∀j∈Region.ready md ops listed,n≤j) (hL:∀listed a,L listed a→∀w,S w→wpAny P md ops Q g listed a w):
 ∀(f:Nat) (listed:Array Bool) (a:Act),HeadInv md ops n listed→DerT P md ops S n L f listed a→∀w,S w→wpAny P md ops Q (f+g) listed a w:=by
 intro f
 induction f with
 |zero=>intro listed a _ D w hS;rw [Nat.zero_add];exact hL _ _ D w hS
 |succ f ih=>
  intro listed a inv D w hS;rw [show f+1+g=(f+g)+1 by omega];have D0:=D;obtain ⟨i,oi,v,hi,hin,hf,hr,hy,D'⟩:=D0;refine ⟨fun h=>(by rw [h] at hr;cases hr),fun j hj=>?_⟩
  have hjn:j<n:=by
   rcases Nat.lt_or_ge j n with h|h
   · exact h
   · exact absurd hj (tail_waits hs hc hn inv _ i rfl hin (mem_ready.1 hr).1 j h)
  obtain ⟨_,oj,hoj,_⟩:=mem_ready.1 hj;obtain ⟨u,hyj,D2⟩:=DerT.swap hsel hdone f listed a D j oj hoj hjn hj;exact hyj.wpOp hoj hS (fun w' hS'=>ih _ _ (inv.set hj hjn) D2 w' hS')
def SeqT (P:Program) (ops:Array Oper) (Q:Exit→Act→World→Prop) (S:World→Prop) (tail:List Oper):List Oper→Act→Prop
 | [],a=>∀w,S w→wpList P ops Q tail a w
 |o :: rest,a=>∃v,StepS P ops S o v a∧SeqT P ops Q S tail rest (a.put o.dst v)
section
variable {tail:List Oper}
theorem SeqT.run {o:Oper} {rest:List Oper} {a:Act} (v:Value) (hw:Region.wanted o (yielded ops a.tmps)=true) (hr:∀w,S w→StepRun P S v ((execOp a.eval o).run P w)) (h:SeqT P ops Q S tail rest (a.put o.dst v)):
 SeqT P ops Q S tail (o :: rest) a:=⟨v,.inl ⟨hw,hr⟩,h⟩
theorem SeqT.last {a:Act} (h:∀w,S w→wpList P ops Q tail a w):SeqT P ops Q S tail [] a:=h
theorem SeqT.der {g:Nat}:∀(l:List Oper) (k:Nat) (listed:Array Bool) (a:Act),(∀j,j<l.length→l[j]?=ops[k+j]?)→k+l.length=n→
 Region.lexHead md ops g l.length k listed=true→SeqT P ops Q S tail l a→
 DerT P md ops S n (fun listed' a'=>Region.seqB md ops g n listed'=true∧∀w,S w→wpList P ops Q tail a' w) l.length listed a
 | [],k,listed,a,_,hk,hB,h=>by
   have:k=n:=by simpa using hk
   subst this;exact ⟨by simpa [Region.lexHead] using hB,h⟩
 |o :: l,k,listed,a,hl,hk,hB,h=>by
  have h0:ops[k]?=some o:=by simpa using (hl 0 (by simp)).symm
  simp only [List.length_cons,Region.lexHead,Bool.and_eq_true] at hB;obtain ⟨⟨hr,hf⟩,hB'⟩:=hB;obtain ⟨v,hy,hK⟩:=h
  exact ⟨k,o,v,h0,by simp only [List.length_cons] at hk;omega,hf,by simpa using hr,hy,
   SeqT.der l (k+1) _ _ (fun j hj=>by have:=hl (j+1) (by simp;omega);simpa [Nat.add_assoc,Nat.add_comm 1 j] using this) (by simp only [List.length_cons] at hk;omega) hB' hK⟩
end
theorem vGn {l:List Oper} {id:Nat} {a:Act} {w:World} (S:World→Prop) (n:Nat) (hm:P.follows .mixedOrders=true) (hB:Region.lexTailB .any l.toArray n=true) (hS:S w.drew) (h:SeqT P l.toArray Q S (l.drop n) (l.take n) a):(Code.region id l.toArray true).wp P Q a w:=by
 simp only [Region.lexTailB,Bool.and_eq_true,decide_eq_true_eq] at hB;obtain ⟨⟨⟨⟨hsel,hn⟩,hs⟩,hc⟩,hlex⟩:=hB
 have hn':n<l.length:=by simpa using hn
 have htl:(l.take n).length=n:=by simp;omega
 have hdl:(l.drop n).length=l.toArray.size - n:=by simp
 have inv0:HeadInv .any l.toArray n (Array.replicate l.toArray.size false):=
  ⟨by simp,fun j oj _ hl=>(by rw [getD_replicate_false] at hl;cases hl),fun t _ ht=>getD_in (by simpa using ht) (getD_replicate_false _ _)⟩
 have D:=SeqT.der (md:=.any) (g:=l.toArray.size - n) (n:=n) (l.take n) 0 _ a (fun j hj=>by
  have hj':j<n:=by rw [htl] at hj;exact hj
  simp [hj']) (by simpa using htl) (by rw [htl];exact hlex) h
 refine wp_region_any hm ?_
 have:=DerT.any (Q:=Q) (g:=l.toArray.size - n) (Region.noSelect_spec hsel) hs hc hn (fun listed' a' hL=>seqB_ready hL.1) (fun listed a' hL w' hS'=>by
  have:=wpAny_of_seq (md:=.any) (Q':=Q) (l.drop n) n listed a' w' (fun j=>by simp [List.getElem?_drop]) (by rw [hdl];exact hL.1) (hL.2 w' hS')
  rwa [hdl] at this) _ _ _ inv0 D w.drew hS
 rw [htl,show n+(l.toArray.size - n)=l.toArray.size by omega] at this;exact this
end
def vFk (N:NV) (i:Nat) (k:Int):Bool:=
 plB k (N.domains.length:Int) && (!decide (k=(i:Int)) && (decide ((N.domains.getD i DomV.zero).dev≠(N.domains.getD k.toNat DomV.zero).dev) && (decide ((N.domains.getD i DomV.zero).vni=(N.domains.getD k.toNat DomV.zero).vni) && (decide ((N.domains.getD i DomV.zero).vni≠0) &&
  (decide ((N.devices.getD (N.domains.getD i DomV.zero).dev.toNat DevV.zero).vtep≠0) && (decide ((N.devices.getD (N.domains.getD k.toNat DomV.zero).dev.toNat DevV.zero).vtep≠0) && memB (N.domains.getD k.toNat DomV.zero).peers (i:Int)))))))
structure DBox (w:World) (q:Nat) (D:DomV) (s:Sl3):Prop where
 c0:w.cell? ⟨q,0,none⟩=some (.int .i64 D.dev)
 c1:w.cell? ⟨q,1,none⟩=some (.int .i64 D.vlan)
 c2:w.cell? ⟨q,2,none⟩=some (.int .i64 D.vni)
 c3:w.cell? ⟨q,3,none⟩=some (.int .i64 D.irb)
 c4:w.cell? ⟨q,4,none⟩=some (.int .i64 D.row)
 c5:w.cell? ⟨q,5,none⟩=some (.slice s.A s.n s.c)
 lt:q<w.heap.size
theorem peerB_no1 {N:NV} {i:Nat} {k:Int} (h:plB k (N.domains.length:Int)=false):vFk N i k=false:=by unfold vFk;rw [h];rfl
theorem peerB_no2 {N:NV} {i:Nat} {k:Int} (h:k=(i:Int)):vFk N i k=false:=by unfold vFk;rw [decide_eq_true h,Bool.not_true,Bool.false_and,Bool.and_false]
theorem peerB_at {N:NV} {i x:Nat} (h:plB (x:Int) (N.domains.length:Int)=true) (hn:¬(x:Int)=(i:Int)):vFk N i (x:Int)=
 (decide ((N.domains.getD i DomV.zero).dev≠(N.domains.getD x DomV.zero).dev) && (decide ((N.domains.getD i DomV.zero).vni=(N.domains.getD x DomV.zero).vni) && (decide ((N.domains.getD i DomV.zero).vni≠0) &&
 (decide ((N.devices.getD (N.domains.getD i DomV.zero).dev.toNat DevV.zero).vtep≠0) && (decide ((N.devices.getD (N.domains.getD x DomV.zero).dev.toNat DevV.zero).vtep≠0) && memB (N.domains.getD x DomV.zero).peers (i:Int)))))):=by
 unfold vFk;rw [h,decide_eq_false hn]
 rfl
theorem peer_any (N:NV) (S:NSl3) (i:Nat) (k:Int) (w:World) (h:NRead w (vAs w) N S) (hi:i<N.domains.length) (hd:∀j,j<N.domains.length→plB (N.domains.getD j DomV.zero).dev (N.devices.length:Int)=true):
 Calls Tryz.prog 148 #[vBb S,.int .i64 (i:Int),.int .i64 k] w fun e w'=>e=.returned (.bool (vFk N i k))∧Below w.heap.size w w':=by
 have HD:=hid h.dm;have HV:=hid h.dv;have hle:=h.dm.le;have hcap:=h.dm.cap;have hle2:=h.dv.le;have hcap2:=h.dv.cap;have dml:=h.dm.len;have dvl:=h.dv.len;rw [dml] at hi hd;rw [dvl] at hd;have N1:=hid (@peerB_no1 N i k);have N2:=hid (@peerB_no2 N i k);have N3:=hid (fun x=>@peerB_at N i x);rw [dml] at N1 N3;have NB:=hid (NBox.new w S 31);have HDD:=hid hd;obtain ⟨V,hV⟩:∃V,vFk N i k=V:=⟨_,rfl⟩
 rw [hV] at N1 N2 ⊢;clear h hd dml dvl
 have PK:=fun w'=>vBo k (S.dm.n:Int) w'
 unfold vBb
 go_enter Tryz.func148,Tryz.ntmps148
 go_upto_region 1 with fail
 obtain ⟨w1,hw1⟩:∃w1,w.alloc (.cells (nA S) 31)=w1:=⟨_,rfl⟩;have B1:=hid (show Below w.heap.size w w1 by rw [←hw1];exact (Below.refl _ _).alloc (Nat.le_refl _) _);rw [hw1] at NB ⊢;clear hw1;have n0:=NB.out.c0;have n3:=NB.out.c3;have nl:=NB.out.lt
 cases hp:plB k (S.dm.n:Int) with
 |false=>
  rw [hp] at PK;have PK:=hid PK;have E:=hid (N1.out hp);clear hp;go_wp2_with (go_at_call 147;(with_reducible refine (PK.out _).mono ?_);rintro e wp ⟨rfl,hwp⟩;subst hwp);go_ret;exact ⟨by rw [E.out];rfl,B1.out⟩
 |true=>
 rw [hp] at PK;obtain ⟨a1,a2⟩:=(vBm _ _).1 hp;obtain ⟨x,hx⟩:=Int.eq_ofNat_of_zero_le a1
 have hxl:x<S.dm.n:=by omega
 subst hx;have E1:=hid (fun hn=>N3.out x hp hn);clear hp a1 a2 N3 N1;have PK:=hid PK;have E1:=hid (fun hn=>hV.symm.trans (E1.out hn));clear hV
 by_cases hki:x=i
 · have z:((x:Int) == (i:Int))=true:=by simp;omega
   have EV:=hid (N2.out (by omega));clear hki;go_wp2_with (go_at_call 147;(with_reducible refine (PK.out _).mono ?_);rintro e wp ⟨rfl,hwp⟩;subst hwp);go_ret;exact ⟨by rw [EV.out];rfl,B1.out⟩
 have z:((x:Int) == (i:Int))=false:=by simp;omega
 have E2:=E1.out (by omega);clear N2 E1;have HDI:=HDD.out i hi;have HDX:=HDD.out x hxl;obtain ⟨bp,op,vp,ep,_,hbp,⟨s,rfl,rs⟩,rp⟩:=vAj HD.out i hi DomV.zero;obtain ⟨bq,oq,vq,eq_,_,_,⟨t,rfl,rt⟩,rq⟩:=vAj HD.out x hxl DomV.zero;rw [ep] at eq_
 injection eq_ with eq_
 injection eq_ with h1 h2
 subst h1 h2;have RP:=vAb rp (B1.out.block bp hbp);have RQ:=vAb rq (B1.out.block bp hbp);generalize N.domains.getD i DomV.zero=D at *;generalize N.domains.getD x DomV.zero=E at *;obtain ⟨c1,c2⟩:=(vBm _ _).1 HDI;obtain ⟨c3,c4⟩:=(vBm _ _).1 HDX;obtain ⟨y,hy⟩:=Int.eq_ofNat_of_zero_le c1;obtain ⟨z2,hz⟩:=Int.eq_ofNat_of_zero_le c3
 have hyl:y<S.dv.n:=by omega
 have hzl:z2<S.dv.n:=by omega
 obtain ⟨bd,od,vd,ed,_,hbd,hvd,rd⟩:=vAj HV.out y hyl DevV.zero;obtain ⟨be,oe,ve,ee,_,_,hve,re⟩:=vAj HV.out z2 hzl DevV.zero;rw [ed] at ee
 injection ee with ee
 injection ee with h1 h2
 subst h1 h2;have hvd:vd=vId (N.devices.getD y DevV.zero):=hvd;have hve:ve=vId (N.devices.getD z2 DevV.zero):=hve;subst hvd hve;have RD:=vAb rd (B1.out.block bd hbd);have RE:=vAb re (B1.out.block bd hbd);rw [show D.dev.toNat=y by rw [hy];rfl,show E.dev.toNat=z2 by rw [hz];rfl] at E2;generalize N.devices.getD y DevV.zero=X at *;generalize N.devices.getD z2 DevV.zero=Y at *;have E3:=hid E2
 have v4:=RD 4 _ rfl;have u4:=RE 4 _ rfl;rw [show od+y * devR.n=od+y * 5 from rfl] at v4;rw [show od+z2 * devR.n=od+z2 * 5 from rfl] at u4;have a0:=RP 0 _ rfl;have b0:=RQ 0 _ rfl;have a1:=RP 1 _ rfl;have b1:=RQ 1 _ rfl;have a2:=RP 2 _ rfl;have b2:=RQ 2 _ rfl;have a3:=RP 3 _ rfl;have b3:=RQ 3 _ rfl;have a4:=RP 4 _ rfl;have b4:=RQ 4 _ rfl;have a5:=RP 5 _ rfl;have b5:=RQ 5 _ rfl;simp only [Nat.add_zero] at a0 b0
 rw [show op+i * domR.n=op+i * 6 from rfl] at a0 a1 a2 a3 a4 a5;rw [show op+x * domR.n=op+x * 6 from rfl] at b0 b1 b2 b3 b4 b5
 have li:(i:Int)<(S.dm.n:Int):=by omega
 have lx:(x:Int)<(S.dm.n:Int):=by omega
 have ly:(y:Int)<(S.dv.n:Int):=by omega
 have lz:(z2:Int)<(S.dv.n:Int):=by omega
 have LD:=hid hbd;have IN:=hid (fun (w':World) (hb:Below w.heap.size w w')=>rin_any t.A t.n t.c E.peers (i:Int) w' (vBg (rt.below (fun _ h=>h) hb)));have hbp1:bp<w1.heap.size:=Nat.lt_of_lt_of_le hbp B1.out.size;have hbd1:bd<w1.heap.size:=Nat.lt_of_lt_of_le hbd B1.out.size;have NL:=hid nl;rw [ep] at n3;rw [ed] at n0;rw [hy] at a0;rw [hz] at b0;have HY:=hid hy;have HZ:=hid hz
 have KW:=hid (show ∀wx,Below w1.heap.size w1 wx→wx.cell? ⟨w.heap.size,0,none⟩=some (.slice (some ⟨bd,od,none⟩) S.dv.n S.dv.c)∧wx.cell? ⟨bd,od+y * 5+4,none⟩=some (.int .u32 X.vtep)∧wx.cell? ⟨bd,od+z2 * 5+4,none⟩=some (.int .u32 Y.vtep)∧Below w.heap.size w wx from fun wx hx=>⟨(hx.cell (p:=⟨_,0,none⟩) NL.out).trans n0,(hx.cell (p:=⟨bd,_,none⟩) hbd1).trans v4,(hx.cell (p:=⟨bd,_,none⟩) hbd1).trans u4,B1.out.trans (hx.mono B1.out.size)⟩)
 clear rp rq RP RQ rd re RD RE c1 c2 c3 c4 hy hz HDI HDX HDD ep ed rs rt E2
 go_upto_region 3 with (go_at_call 147;(with_reducible refine (PK.out _).mono ?_);rintro e wp ⟨rfl,hwp⟩;subst hwp)
 go_cut [7,8] (fun p q wx=>∃b7 b8,p=.pointer (some ⟨b7,0,none⟩)∧q=.pointer (some ⟨b8,0,none⟩)∧DBox wx b7 D s∧DBox wx b8 E t∧Below w1.heap.size w1 wx)
 case first=>
  go_region
  all_goals (try go_wp2)
  all_goals go_meet
  all_goals (refine ⟨_,_,rfl,rfl,?_,?_,?_⟩)
  all_goals first
   |exact (((Below.refl _ _).alloc (Nat.le_refl _) _).alloc (by simp) _).drew
   |exact ((Below.refl _ _).alloc (Nat.le_refl _) _).alloc (by simp) _
   |(constructor<;>(try rw [HY.out])<;>(try rw [HZ.out])<;>first|(simp;done)|(simp;omega))
 case rest=>
 obtain ⟨b7,b8,rfl,rfl,D7,E7,hbw⟩:=hcut;obtain ⟨k1,k2,k3,k4⟩:=KW.out wc hbw;have X7:=hid k4;have m0:=D7.c0;have m2:=D7.c2;have o0_:=E7.c0;have o2_:=E7.c2;have o5_:=E7.c5;rw [HY.out] at m0;rw [HZ.out] at o0_;clear n3 a0 a1 a2 a3 a4 a5 b0 b1 b2 b3 b4 b5 v4 u4 n0 nl k4 hbw D7 E7 PK;have E4:=E3.out
 by_cases t1:y=z2
 · have w1_:((y:Int) != (z2:Int))=false:=by simp;omega
   have EV:=hid (show V=false by rw [E4,decide_eq_false (show ¬D.dev≠E.dev from fun g=>g (by rw [HY.out,HZ.out,t1]))];rfl);clear t1 E4;go_wp2;go_ret;exact ⟨by rw [EV.out];rfl,X7.out⟩
 have w1_:((y:Int) != (z2:Int))=true:=by simp;omega
 rw [decide_eq_true (show D.dev≠E.dev by rw [HY.out,HZ.out];omega),Bool.true_and] at E4
 by_cases t2:D.vni=E.vni
 rotate_left
 · have w2_:(D.vni == E.vni)=false:=by simpa using t2
   have EV:=hid (show V=false by rw [E4,decide_eq_false t2];rfl);clear t1 t2 E4;go_wp2;go_ret;exact ⟨by rw [EV.out];rfl,X7.out⟩
 have w2_:(D.vni == E.vni)=true:=by simpa using t2
 rw [decide_eq_true t2,Bool.true_and] at E4
 by_cases t3:D.vni=0
 · have w3_:(D.vni != 0)=false:=by simpa using t3
   have EV:=hid (show V=false by rw [E4,decide_eq_false (show ¬D.vni≠0 from fun g=>g t3)];rfl);clear t1 t2 t3 E4;go_wp2;go_ret;exact ⟨by rw [EV.out];rfl,X7.out⟩
 have w3_:(D.vni != 0)=true:=by simpa using t3
 rw [decide_eq_true (show D.vni≠0 from t3),Bool.true_and] at E4
 by_cases t4:X.vtep=0
 · have w4_:(X.vtep != 0)=false:=by simpa using t4
   have EV:=hid (show V=false by rw [E4,decide_eq_false (show ¬X.vtep≠0 from fun g=>g t4)];rfl);clear t1 t2 t3 t4 E4;go_wp2;go_ret;exact ⟨by rw [EV.out];rfl,X7.out⟩
 have w4_:(X.vtep != 0)=true:=by simpa using t4
 rw [decide_eq_true (show X.vtep≠0 from t4),Bool.true_and] at E4
 by_cases t5:Y.vtep=0
 · have w5_:(Y.vtep != 0)=false:=by simpa using t5
   have EV:=hid (show V=false by rw [E4,decide_eq_false (show ¬Y.vtep≠0 from fun g=>g t5)];rfl);clear t1 t2 t3 t4 t5 E4;go_wp2;go_ret;exact ⟨by rw [EV.out];rfl,X7.out⟩
 have w5_:(Y.vtep != 0)=true:=by simpa using t5
 rw [decide_eq_true (show Y.vtep≠0 from t5),Bool.true_and] at E4;have EV:=hid E4;generalize memB E.peers (i:Int)=M at *;clear t1 t2 t3 t4 t5 E4;go_wp2_with (go_at_call 149;(with_reducible refine (IN.out _ X7.out).mono ?_);rintro e wi ⟨rfl,hwi⟩;subst hwi);go_ret;exact ⟨by rw [EV.out];rfl,X7.out⟩
end Go.Proofs.YtgnkpbgaoiaefaaGreat
