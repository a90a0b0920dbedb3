import Derived.Deep.RegionHeld
import Derived.KernelRfl
set_option maxRecDepth 100000
set_option maxHeartbeats 40000000
namespace Go.Proofs.YtgmflecelnefcaaGreat
open Go
section
variable {P:Program} {ops:Array Oper} {Q:Exit→Act→World→Prop} {md:Region.Mode} {S:World→Prop}
def StepRun (P:Program) (S:World→Prop) (v:Value):Result Next→Prop
 | .ok (.value u) w'=>u=v∧S w'
 | .ok .skip w'=>undef=v∧S w'
 | .ok (.enter f args) w'=>Calls P f args w' fun e w''=>e=.returned v∧S w''
 |_=>False
def StepS (P:Program) (ops:Array Oper) (S:World→Prop) (o:Oper) (v:Value) (a:Act):Prop:=
 (Region.wanted o (yielded ops a.tmps)=true∧∀w,S w→StepRun P S v ((execOp a.eval o).run P w))∨
 (Region.wanted o (yielded ops a.tmps)=false∧v=undef)
theorem StepS.of_put {o:Oper} {v u:Value} {a:Act} {dst:Option Tmp} (hs:∀cs b,o.op≠.select cs b) (h:∀d,dst=some d→d∉o.looksAt ops):
 StepS P ops S o v (a.put dst u)↔StepS P ops S o v a:=by
 unfold StepS;rw [execOp_put o hs a dst u h,wanted_put o a dst u h]
theorem StepS.wpOp {i:Nat} {o:Oper} {v:Value} {a:Act} (hi:ops[i]?=some o) (hy:StepS P ops S o v a) {K:Act→World→Prop} {w:World} (hS:S w) (h:∀w',S w'→K (a.put o.dst v) w'):
 wpOp P ops Q i K a w:=by
 unfold Go.wpOp;simp only [hi]
 rcases hy with ⟨hw,hv⟩|⟨hw,rfl⟩
 · simp only [hw,if_true]
   left
   have hr:=hv w hS;unfold Oper.wp;generalize (execOp a.eval o).run P w=r at hr ⊢
   cases r with
   |ok n w'=>
    cases n with
    |value u=>
     obtain ⟨rfl,h2⟩:=hr;exact h _ h2
    |skip=>
     obtain ⟨rfl,h2⟩:=hr;exact h _ h2
    |enter f args=>exact Calls.mono (show Calls P f args w' _ from hr) fun e w'' ⟨he,hs⟩=>by subst he;exact h _ hs
    |_=>exact (show False from hr).elim
   |halt x w'=>exact (show False from hr).elim
 · simp only [hw,Bool.false_eq_true,if_false]
   exact h w hS
def Der (P:Program) (md:Region.Mode) (ops:Array Oper) (Q:Exit→Act→World→Prop) (S:World→Prop):Nat→Array Bool→Act→Prop
 |0,listed,a=>Region.ready md ops listed=[]∧∀w,S w→Q .normal a w
 |fuel+1,listed,a=>(Region.ready md ops listed=[]∧∀w,S w→Q .normal a w)∨
  ∃i oi v,ops[i]?=some oi∧Region.free md ops listed i=true∧i∈Region.ready md ops listed∧StepS P ops S oi v a∧Der P md ops Q S fuel (listed.setIfInBounds i true) (a.put oi.dst v)
theorem vHd {listed:Array Bool} {i j:Nat} (h:Region.free md ops listed i=true):Region.free md ops (listed.setIfInBounds j true) i=true:=by
 unfold Region.free at h ⊢
 cases ho:ops[i]? with
 |none=>rw [ho] at h;exact h
 |some oi=>
  rw [ho] at h;simp only [List.all_eq_true,List.mem_range] at h ⊢;intro k hk;have h1:=h k hk;simp only [Bool.or_eq_true] at h1 ⊢
  rcases h1 with (h1|h1)|h1
  · exact .inl (.inl h1)
  · refine .inl (.inr ?_)
    by_cases hjk:j=k
    · subst hjk
      rcases Nat.lt_or_ge j listed.size with h'|h'
      · simp [h']
      · simp
    · rw [getD_set_ne true hjk];exact h1
  · exact .inr h1
theorem Der.swap (hsel:∀(j:Nat) (o:Oper) cs b,ops[j]?=some o→o.op≠.select cs b):∀(fuel:Nat) (listed:Array Bool) (a:Act),Der P md ops Q S (fuel+1) listed a→
 ∀(j:Nat) (oj:Oper),ops[j]?=some oj→j∈Region.ready md ops listed→∃v,StepS P ops S oj v a∧Der P md ops Q S fuel (listed.setIfInBounds j true) (a.put oj.dst v):=by
 intro fuel
 induction fuel with
 |zero=>
  intro listed a D j oj hoj hj
  rcases D with ⟨hr,_⟩|⟨i,oi,v,hi,hf,hr,hy,D'⟩
  · rw [hr] at hj;cases hj
  · by_cases hij:j=i
    · subst hij
      rw [hi] at hoj
      cases hoj
      exact ⟨v,hy,D'⟩
    · have:=ready_mono hj hij
      rw [D'.1] at this
      cases this
 |succ fuel ih=>
  intro listed a D j oj hoj hj
  rcases D with ⟨hr,_⟩|⟨i,oi,v,hi,hf,hr,hy,D'⟩
  · rw [hr] at hj;cases hj
  · by_cases hij:j=i
    · subst hij
      rw [hi] at hoj
      cases hoj
      exact ⟨v,hy,D'⟩
    · obtain ⟨u,hyj,D2⟩:=ih _ _ D' j oj hoj (ready_mono hj hij)
      obtain ⟨hjun,oj2,hoj2,hall⟩:=mem_ready.1 hj;rw [hoj] at hoj2
      cases hoj2
      have hnot:∀e∈oj.after,Region.binds md e=true→e.on≠i:=fun e he hb heq=>by
       have h1:=hall e he hb;have h0:=(mem_ready.1 hr).1;rw [heq] at h1
       rcases Nat.lt_or_ge i listed.size with h'|h'
       · simp [h'] at h0 h1;rw [h0] at h1;cases h1
       · simp [Array.getElem?_eq_none h'] at h1
      obtain ⟨h1,h2,h3⟩:=Oper.apart_spec (Region.free_spec hi hf j oj hoj hij hjun hnot)
      refine ⟨u,(StepS.of_put (hsel j oj · · hoj) h1).1 hyj,.inr ⟨i,oi,v,hi,vHd hf,ready_mono hr (Ne.symm hij),(StepS.of_put (hsel i oi · · hi) h3).2 hy,?_⟩⟩
      rw [Array.setIfInBounds_comm _ _ hij,←Act.put_comm a v u h2];exact D2
theorem Der.any (hsel:∀(j:Nat) (o:Oper) cs b,ops[j]?=some o→o.op≠.select cs b):∀(fuel:Nat) (listed:Array Bool) (a:Act),Der P md ops Q S fuel listed a→∀w,S w→wpAny P md ops Q fuel listed a w:=by
 intro fuel
 induction fuel with
 |zero=>intro listed a D w hS;exact ⟨D.1,D.2 w hS⟩
 |succ fuel ih=>
  intro listed a D w hS;refine ⟨fun hr=>?_,fun j hj=>?_⟩
  · rcases D with ⟨_,h⟩|⟨i,oi,v,hi,hf,hr2,hy,D'⟩
    · exact h w hS
    · rw [hr] at hr2;cases hr2
  · obtain ⟨_,oj,hoj,_⟩:=mem_ready.1 hj
    obtain ⟨v,hy,D'⟩:=Der.swap hsel fuel listed a D j oj hoj hj;exact hy.wpOp hoj hS (fun w' hS'=>ih _ _ D' w' hS')
def upto (n k:Nat):Array Bool:=((List.range n).map fun i=>decide (i<k)).toArray
theorem upto_zero (n:Nat):upto n 0=Array.replicate n false:=by
 unfold upto
 apply Array.ext'
 simp only [Array.toList_replicate]
 apply List.ext_getElem
 · simp
 · intro i h1 h2;simp
theorem upto_set (n k:Nat):(upto n k).setIfInBounds k true=upto n (k+1):=by
 unfold upto
 apply Array.ext'
 rw [List.setIfInBounds_toArray]
 apply List.ext_getElem
 · simp
 · intro i h1 h2
   simp only [List.getElem_set,List.getElem_map,List.getElem_range]
   by_cases h:k=i
   · subst h;simp
   · simp [h];omega
theorem vHv (k:Nat) (h:ops.size≤k):Region.ready md ops (upto ops.size k)=[]:=by
 rw [List.eq_nil_iff_forall_not_mem];intro j hj;obtain ⟨h0,o,ho,_⟩:=mem_ready.1 hj;have hlt:=(Array.getElem?_eq_some_iff.1 ho).1;simp [upto,hlt] at h0;omega
def vDb (md:Region.Mode) (ops:Array Oper):Bool:=
 Region.noSelect ops && (List.range ops.size).all fun k=>Region.free md ops (upto ops.size k) k && (Region.ready md ops (upto ops.size k)).contains k
def Seq (P:Program) (ops:Array Oper) (Q:Exit→Act→World→Prop) (S:World→Prop):List Oper→Act→Prop
 | [],a=>∀w,S w→Q .normal a w
 |o :: rest,a=>∃v,StepS P ops S o v a∧Seq P ops Q S rest (a.put o.dst v)
theorem Seq.run {o:Oper} {rest:List Oper} {a:Act} (v:Value) (hw:Region.wanted o (yielded ops a.tmps)=true) (hr:∀w,S w→StepRun P S v ((execOp a.eval o).run P w)) (h:Seq P ops Q S rest (a.put o.dst v)):
 Seq P ops Q S (o :: rest) a:=⟨v,.inl ⟨hw,hr⟩,h⟩
theorem Seq.pass {o:Oper} {rest:List Oper} {a:Act} (hw:Region.wanted o (yielded ops a.tmps)=false) (h:Seq P ops Q S rest (a.put o.dst undef)):
 Seq P ops Q S (o :: rest) a:=⟨undef,.inr ⟨hw,rfl⟩,h⟩
theorem Seq.der (hck:vDb md ops=true):∀(n k:Nat) (a:Act),k+n=ops.size→Seq P ops Q S (ops.toList.drop k) a→Der P md ops Q S n (upto ops.size k) a:=by
 unfold vDb at hck;simp only [Bool.and_eq_true,List.all_eq_true,List.mem_range] at hck;intro n
 induction n with
 |zero=>
  intro k a hk h;rw [List.drop_eq_nil_of_le (by simp;omega)] at h;exact ⟨vHv k (by omega),h⟩
 |succ n ih=>
  intro k a hk h
  have hlt:k<ops.size:=by omega
  rw [List.drop_eq_getElem_cons (by simpa using hlt)] at h;obtain ⟨v,hs,h⟩:=h;obtain ⟨h1,h2⟩:=hck.2 k hlt;refine .inr ⟨k,ops[k],v,Array.getElem?_eq_getElem hlt,h1,by simpa using h2,by simpa using hs,?_⟩;rw [upto_set];exact ih (k+1) _ (by omega) (by simpa using h)
theorem wp_region_seq {id:Nat} {a:Act} {w:World} (hm:P.follows .mixedOrders=true) (hck:vDb .any ops=true) (hS:S w.drew) (h:Seq P ops Q S ops.toList a):(Code.region id ops true).wp P Q a w:=by
 have hsel:=Region.noSelect_spec (ops:=ops) (by unfold vDb at hck;rw [Bool.and_eq_true] at hck;exact hck.1);have hd:=Seq.der (md:=.any) hck ops.size 0 a (by omega) (by simpa using h);rw [upto_zero] at hd;exact wp_region_any hm (Der.any hsel _ _ _ hd _ hS)
theorem StepRun.val {v:Value} {w:World} (h:S w):StepRun P S v (.ok (.value v) w):=⟨rfl,h⟩
theorem StepRun.call {v:Value} {w:World} {f:FuncId} {args:Array Value} (h:Calls P f args w fun e w'=>e=.returned v∧S w'):StepRun P S v (.ok (.enter f args) w):=h
theorem Seq.last {a:Act} (h:∀w,S w→Q .normal a w):Seq P ops Q S [] a:=h
theorem vAe {l:List Oper} {id:Nat} {a:Act} {w:World} (S:World→Prop) (hm:P.follows .mixedOrders=true) (hck:vDb .any l.toArray=true) (hS:S w.drew) (h:Seq P l.toArray Q S l a):(Code.region id l.toArray true).wp P Q a w:=
 wp_region_seq hm hck hS h
end
end Go.Proofs.YtgmflecelnefcaaGreat
