import Derived.Test.YtgmflecelnefcaaGreatOp04
import Derived.StillTail
set_option maxRecDepth 100000
set_option maxHeartbeats 40000000
namespace Go.Proofs.YtgmflecelnefcaaGreat
open Go
section
variable {P:Program} {ops:Array Oper} {Q:Exit→Act→World→Prop} {md:Region.Mode} {S:Nat→World→Prop} {J:List Nat}
def vCz (J:List Nat) (listed:Array Bool):Nat:=(J.takeWhile fun j=>listed.getD j false).length
def limJ (md:Region.Mode) (ops:Array Oper) (J:List Nat) (i:Nat):Nat:=(J.takeWhile fun j=>!Region.waitsFor md ops j i).length
theorem vEk (md:Region.Mode) (ops:Array Oper) (J:List Nat) (i:Nat):limJ md ops J i≤J.length:=(List.takeWhile_sublist _).length_le
def chainJ (md:Region.Mode) (ops:Array Oper):List Nat→Bool
 |i :: j :: r=>Region.waitsFor md ops j i && decide (i<j) && chainJ md ops (j :: r)
 |_=>true
structure InvJ (md:Region.Mode) (ops:Array Oper) (listed:Array Bool):Prop where
 size:listed.size=ops.size
 closed:∀j oj,ops[j]?=some oj→listed.getD j false=true→∀e∈oj.after,Region.binds md e=true→listed.getD e.on false=true
theorem InvJ.set {i:Nat} {listed:Array Bool} (inv:InvJ md ops listed) (hi:i∈Region.ready md ops listed):InvJ md ops (listed.setIfInBounds i true):=by
 obtain ⟨_,oi,hoi,hall⟩:=mem_ready.1 hi;refine ⟨by simp [inv.size],fun j oj hj hl e he hb=>?_⟩
 by_cases hij:i=j
 · subst hij
   have:oj=oi:=Option.some.inj (hj.symm.trans hoi)
   subst this;exact getD_set_true (hall e he hb)
 · rw [getD_set_ne false hij] at hl
   exact getD_set_true (inv.closed j oj hj hl e he hb)
theorem InvJ.waits {i j:Nat} {listed:Array Bool} (inv:InvJ md ops listed) (h:Region.waitsFor md ops j i=true) (hj:listed.getD j false=true):listed.getD i false=true:=by
 obtain ⟨oj,hoj,e,he,hb,hon⟩:=Region.waitsFor_spec h;rw [←hon];exact inv.closed j oj hoj hj e he hb
theorem take_at {α:Type} (p:α→Bool):∀(l:List α) (k:Nat) (x:α),k<(l.takeWhile p).length→l[k]?=some x→p x=true
 | [],k,x,h,_=>by simp at h
 |a :: r,k,x,h,hx=>by
  rw [List.takeWhile_cons] at h
  by_cases e:p a=true
  · rw [if_pos e] at h
    cases k with
    |zero=>simp at hx;subst hx;exact e
    |succ k=>exact take_at p r k x (by simpa using h) (by simpa using hx)
  · rw [if_neg e] at h
    simp at h
theorem take_stop {α:Type} (p:α→Bool):∀(l:List α) (x:α),l[(l.takeWhile p).length]?=some x→p x=false
 | [],x,h=>by simp at h
 |a :: r,x,h=>by
  rw [List.takeWhile_cons] at h
  by_cases e:p a=true
  · rw [if_pos e] at h
    exact take_stop p r x (by simpa using h)
  · rw [if_neg e] at h
    simp at h;subst h;simpa using e
theorem take_is {α:Type} (p:α→Bool):∀(l:List α) (k:Nat),(∀q x,q<k→l[q]?=some x→p x=true)→k≤l.length→(∀x,l[k]?=some x→p x=false)→(l.takeWhile p).length=k
 | [],k,_,hk,_=>by simp at hk;subst hk;rfl
 |a :: r,k,h1,hk,h2=>by
  cases k with
  |zero=>
   have:=h2 a rfl
   rw [List.takeWhile_cons,if_neg (by rw [this];decide)]
   rfl
  |succ k=>
   have:=h1 0 a (by omega) rfl
   rw [List.takeWhile_cons,if_pos this,List.length_cons,take_is p r k (fun q x hq hx=>h1 (q+1) x (by omega) (by simpa using hx)) (by simpa using hk) (fun x hx=>h2 x (by simpa using hx))]
theorem phase_lim {i:Nat} {listed:Array Bool} (inv:InvJ md ops listed) (hun:listed.getD i false=false):vCz J listed≤limJ md ops J i:=by
 unfold vCz limJ
 rcases Nat.lt_or_ge (J.takeWhile fun j=>!Region.waitsFor md ops j i).length (J.takeWhile fun j=>listed.getD j false).length with h|h
 · exfalso
   have hl:(J.takeWhile fun j=>listed.getD j false).length≤J.length:=(List.takeWhile_sublist _).length_le;obtain ⟨x,hx⟩:∃x,J[(J.takeWhile fun j=>!Region.waitsFor md ops j i).length]?=some x:=⟨_,List.getElem?_eq_getElem (by omega)⟩;have h1:=take_at _ J _ x h hx;have h2:=take_stop _ J x hx;have h3:=inv.waits (i:=i) (j:=x) (by simpa using h2) h1;rw [hun] at h3
   cases h3
 · exact h
theorem chain_at:∀(J:List Nat),chainJ md ops J=true→∀(p i j:Nat),J[p]?=some i→J[p+1]?=some j→Region.waitsFor md ops j i=true∧i<j
 | [],_,p,i,j,h,_=>by simp at h
 | [a],_,p,i,j,_,h=>by simp at h
 |a :: b :: r,hc,p,i,j,h1,h2=>by
  rw [chainJ,Bool.and_eq_true,Bool.and_eq_true,decide_eq_true_eq] at hc
  cases p with
  |zero=>simp at h1 h2;subst h1 h2;exact ⟨hc.1.1,hc.1.2⟩
  |succ p=>exact chain_at (b :: r) hc.2 p i j (by simpa using h1) (by simpa using h2)
theorem vFf {listed:Array Bool} (inv:InvJ md ops listed) (hc:chainJ md ops J=true) {p i:Nat} (hp:J[p]?=some i) (hr:i∈Region.ready md ops listed):∀(d q x:Nat),q+d+1=p→J[q]?=some x→listed.getD x false=true
 |0,q,x,e,hx=>by
  subst e;obtain ⟨oj,hoj,ed,he,hb,hon⟩:=Region.waitsFor_spec (chain_at J hc q x i hx (by simpa using hp)).1;obtain ⟨_,oi,hoi,hall⟩:=mem_ready.1 hr
  have:oj=oi:=Option.some.inj (hoj.symm.trans hoi)
  subst this;rw [←hon];exact hall ed he hb
 |d+1,q,x,e,hx=>by
  obtain ⟨y,hy⟩:∃y,J[q+1]?=some y:=⟨_,List.getElem?_eq_getElem (by have:=(List.getElem?_eq_some_iff.1 hp).1;omega)⟩
  have:=vFf inv hc hp hr d (q+1) y (by omega) hy
  exact inv.waits (chain_at J hc q x y hx hy).1 this
def StepP (P:Program) (md:Region.Mode) (ops:Array Oper) (S:Nat→World→Prop) (J:List Nat) (i:Nat) (o:Oper) (v:Value) (a:Act):Prop:=
 (Region.wanted o (yielded ops a.tmps)=true∧((∃p,J[p]?=some i∧∀w,S p w→StepRun P (S (p+1)) v ((execOp a.eval o).run P w))∨(i∉J∧∀p,p≤limJ md ops J i→∀w,S p w→StepRun P (S p) v ((execOp a.eval o).run P w))))∨
 (Region.wanted o (yielded ops a.tmps)=false∧v=undef∧i∉J)
theorem StepP.of_put {i:Nat} {o:Oper} {v u:Value} {a:Act} {dst:Option Tmp} (hs:∀cs b,o.op≠.select cs b) (h:∀d,dst=some d→d∉o.looksAt ops):
 StepP P md ops S J i o v (a.put dst u)↔StepP P md ops S J i o v a:=by
 unfold StepP;rw [execOp_put o hs a dst u h,wanted_put o a dst u h]
theorem stepRun_wpP {i:Nat} {o:Oper} {v:Value} {a:Act} {T:World→Prop} (hi:ops[i]?=some o) (hw:Region.wanted o (yielded ops a.tmps)=true) {K:Act→World→Prop} {w:World} (hr:StepRun P T v ((execOp a.eval o).run P w)) (h:∀w',T w'→K (a.put o.dst v) w'):
 wpOp P ops Q i K a w:=by
 unfold Go.wpOp;simp only [hi,hw,if_true]
 left
 unfold Oper.wp;generalize (execOp a.eval o).run P w=r at hr ⊢
 cases r with
 |ok n w'=>
  cases n with
  |value u=>
   obtain ⟨rfl,h2⟩:=hr;exact h _ h2
  |skip=>
   obtain ⟨rfl,h2⟩:=hr;exact h _ h2
  |enter f args=>exact Calls.mono (show Calls P f args w' _ from hr) fun e w'' ⟨he,hs⟩=>by subst he;exact h _ hs
  |_=>exact (show False from hr).elim
 |halt x w'=>exact (show False from hr).elim
theorem getD_setP (listed:Array Bool) {i j:Nat} (h:i≠j):(listed.setIfInBounds i true).getD j false=listed.getD j false:=getD_set_ne false h
theorem StepP.wpOp {i:Nat} {o:Oper} {v:Value} {a:Act} {listed:Array Bool} (hi:ops[i]?=some o) (inv:InvJ md ops listed) (hc:chainJ md ops J=true) (hr:i∈Region.ready md ops listed) (hy:StepP P md ops S J i o v a) {K:Act→World→Prop} {w:World} (hS:S (vCz J listed) w)
 (h:∀w',S (vCz J (listed.setIfInBounds i true)) w'→K (a.put o.dst v) w'):wpOp P ops Q i K a w:=by
 have hlt:i<listed.size:=by rw [inv.size];exact (Array.getElem?_eq_some_iff.1 hi).1
 have hun:listed.getD i false=false:=getD_both (mem_ready.1 hr).1
 have keep:i∉J→vCz J (listed.setIfInBounds i true)=vCz J listed:=fun hJ=>by
  unfold vCz
  have:∀l:List Nat,(∀x∈l,x≠i)→(l.takeWhile fun j=>(listed.setIfInBounds i true).getD j false)=l.takeWhile fun j=>listed.getD j false:=by
   intro l
   induction l with
   |nil=>intro _;rfl
   |cons x r ih=>
    intro hx;rw [List.takeWhile_cons,List.takeWhile_cons,getD_setP listed (Ne.symm (hx x (by simp))),ih (fun y hy=>hx y (by simp [hy]))]
  rw [this J (fun x hx e=>hJ (e▸hx))]
 rcases hy with ⟨hw,⟨p,hp,hrun⟩|⟨hJ,hrun⟩⟩|⟨hw,rfl,hJ⟩
 · have hpl:p<J.length:=(List.getElem?_eq_some_iff.1 hp).1
   have e0:vCz J listed=p:=take_is _ J p (fun q x hq hx=>vFf inv hc hp hr (p - q - 1) q x (by omega) hx) (by omega) (fun x hx=>by
    rw [hp] at hx
    injection hx with hx
    subst hx
    exact hun)
   have e1:vCz J (listed.setIfInBounds i true)=p+1:=take_is _ J (p+1) (fun q x hq hx=>by
    by_cases hqp:q=p
    · subst hqp
      rw [hp] at hx
      injection hx with hx
      subst hx;simp [Array.getD,hlt]
    · exact getD_set_true (vFf inv hc hp hr (p - q - 1) q x (by omega) hx)) (by omega) (fun x hx=>by
    obtain ⟨h1,h2⟩:=chain_at J hc p i x hp hx
    show (listed.setIfInBounds i true).getD x false=false
    rw [getD_setP listed (by omega)]
    cases hl:listed.getD x false with
    |false=>rfl
    |true=>
     have:=inv.waits h1 hl
     rw [hun] at this
     cases this)
   rw [e0] at hS;rw [e1] at h;exact stepRun_wpP hi hw (hrun w hS) h
 · rw [keep hJ] at h
   exact stepRun_wpP hi hw (hrun _ (phase_lim inv hun) w hS) h
 · rw [keep hJ] at h
   unfold Go.wpOp;simp only [hi,hw,Bool.false_eq_true,if_false];exact h w hS
def DerP (P:Program) (md:Region.Mode) (ops:Array Oper) (Q:Exit→Act→World→Prop) (S:Nat→World→Prop) (J:List Nat):Nat→Array Bool→Act→Prop
 |0,listed,a=>Region.ready md ops listed=[]∧∀w,S (vCz J listed) w→Q .normal a w
 |fuel+1,listed,a=>(Region.ready md ops listed=[]∧∀w,S (vCz J listed) w→Q .normal a w)∨
  ∃i oi v,ops[i]?=some oi∧Region.free md ops listed i=true∧i∈Region.ready md ops listed∧StepP P md ops S J i oi v a∧DerP P md ops Q S J fuel (listed.setIfInBounds i true) (a.put oi.dst v)
theorem DerP.swap (hsel:∀(j:Nat) (o:Oper) cs b,ops[j]?=some o→o.op≠.select cs b):∀(fuel:Nat) (listed:Array Bool) (a:Act),DerP P md ops Q S J (fuel+1) listed a→
 ∀(j:Nat) (oj:Oper),ops[j]?=some oj→j∈Region.ready md ops listed→∃v,StepP P md ops S J j oj v a∧DerP P md ops Q S J fuel (listed.setIfInBounds j true) (a.put oj.dst v):=by
 intro fuel
 induction fuel with
 |zero=>
  intro listed a D j oj hoj hj
  rcases D with ⟨hr,_⟩|⟨i,oi,v,hi,hf,hr,hy,D'⟩
  · rw [hr] at hj;cases hj
  · by_cases hij:j=i
    · subst hij
      rw [hi] at hoj
      cases hoj
      exact ⟨v,hy,D'⟩
    · have:=ready_mono hj hij
      rw [D'.1] at this
      cases this
 |succ fuel ih=>
  intro listed a D j oj hoj hj
  rcases D with ⟨hr,_⟩|⟨i,oi,v,hi,hf,hr,hy,D'⟩
  · rw [hr] at hj;cases hj
  · by_cases hij:j=i
    · subst hij
      rw [hi] at hoj
      cases hoj
      exact ⟨v,hy,D'⟩
    · obtain ⟨u,hyj,D2⟩:=ih _ _ D' j oj hoj (ready_mono hj hij)
      obtain ⟨hjun,oj2,hoj2,hall⟩:=mem_ready.1 hj;rw [hoj] at hoj2
      cases hoj2
      have hnot:∀e∈oj.after,Region.binds md e=true→e.on≠i:=fun e he hb heq=>by
       have h1:=hall e he hb;have h0:=(mem_ready.1 hr).1;rw [heq] at h1
       rcases Nat.lt_or_ge i listed.size with h'|h'
       · simp [h'] at h0 h1;rw [h0] at h1;cases h1
       · simp [Array.getElem?_eq_none h'] at h1
      obtain ⟨h1,h2,h3⟩:=Oper.apart_spec (Region.free_spec hi hf j oj hoj hij hjun hnot)
      refine ⟨u,(StepP.of_put (hsel j oj · · hoj) h1).1 hyj,.inr ⟨i,oi,v,hi,vHd hf,ready_mono hr (Ne.symm hij),(StepP.of_put (hsel i oi · · hi) h3).2 hy,?_⟩⟩
      rw [Array.setIfInBounds_comm _ _ hij,←Act.put_comm a v u h2];exact D2
theorem DerP.any (hsel:∀(j:Nat) (o:Oper) cs b,ops[j]?=some o→o.op≠.select cs b) (hc:chainJ md ops J=true):∀(fuel:Nat) (listed:Array Bool) (a:Act),InvJ md ops listed→DerP P md ops Q S J fuel listed a→∀w,S (vCz J listed) w→wpAny P md ops Q fuel listed a w:=by
 intro fuel
 induction fuel with
 |zero=>intro listed a _ D w hS;exact ⟨D.1,D.2 w hS⟩
 |succ fuel ih=>
  intro listed a inv D w hS;refine ⟨fun hr=>?_,fun j hj=>?_⟩
  · rcases D with ⟨_,h⟩|⟨i,oi,v,hi,hf,hr2,hy,D'⟩
    · exact h w hS
    · rw [hr] at hr2;cases hr2
  · obtain ⟨hun,oj,hoj,_⟩:=mem_ready.1 hj
    obtain ⟨v,hy,D'⟩:=DerP.swap hsel fuel listed a D j oj hoj hj;exact hy.wpOp hoj inv hc hj hS (fun w' hS'=>ih _ _ (inv.set hj) D' w' hS')
def SeqP (P:Program) (md:Region.Mode) (ops:Array Oper) (Q:Exit→Act→World→Prop) (S:Nat→World→Prop) (J:List Nat):Nat→List Oper→Act→Prop
 |k,[],a=>∀w,S (vCz J (upto ops.size k)) w→Q .normal a w
 |k,o :: rest,a=>∃v,StepP P md ops S J k o v a∧SeqP P md ops Q S J (k+1) rest (a.put o.dst v)
theorem SeqP.run {k:Nat} {o:Oper} {rest:List Oper} {a:Act} (v:Value) (m:Nat) (hm:limJ md ops J k≤m) (hw:Region.wanted o (yielded ops a.tmps)=true) (hk:k∉J) (hr:∀p,p≤m→∀w,S p w→StepRun P (S p) v ((execOp a.eval o).run P w)) (h:SeqP P md ops Q S J (k+1) rest (a.put o.dst v)):
 SeqP P md ops Q S J k (o :: rest) a:=⟨v,.inl ⟨hw,.inr ⟨hk,fun p hp=>hr p (Nat.le_trans hp hm)⟩⟩,h⟩
theorem SeqP.make {k:Nat} {o:Oper} {rest:List Oper} {a:Act} (v:Value) (p:Nat) (hp:J[p]?=some k) (hw:Region.wanted o (yielded ops a.tmps)=true) (hr:∀w,S p w→StepRun P (S (p+1)) v ((execOp a.eval o).run P w)) (h:SeqP P md ops Q S J (k+1) rest (a.put o.dst v)):
 SeqP P md ops Q S J k (o :: rest) a:=⟨v,.inl ⟨hw,.inl ⟨p,hp,hr⟩⟩,h⟩
theorem SeqP.last {k m:Nat} {a:Act} (hm:vCz J (upto ops.size k)=m) (h:∀w,S m w→Q .normal a w):SeqP P md ops Q S J k [] a:=by subst hm;exact h
theorem SeqP.der (hck:vDb md ops=true):∀(n k:Nat) (a:Act),k+n=ops.size→SeqP P md ops Q S J k (ops.toList.drop k) a→DerP P md ops Q S J n (upto ops.size k) a:=by
 unfold vDb at hck;simp only [Bool.and_eq_true,List.all_eq_true,List.mem_range] at hck;intro n
 induction n with
 |zero=>
  intro k a hk h;rw [List.drop_eq_nil_of_le (by simp;omega)] at h;exact ⟨vHv k (by omega),h⟩
 |succ n ih=>
  intro k a hk h
  have hlt:k<ops.size:=by omega
  rw [List.drop_eq_getElem_cons (by simpa using hlt)] at h;obtain ⟨v,hs,h⟩:=h;obtain ⟨h1,h2⟩:=hck.2 k hlt;refine .inr ⟨k,ops[k],v,Array.getElem?_eq_getElem hlt,h1,by simpa using h2,by simpa using hs,?_⟩;rw [upto_set];exact ih (k+1) _ (by omega) (by simpa using h)
theorem vAs {l:List Oper} {id:Nat} {a:Act} {w:World} (S:Nat→World→Prop) (J:List Nat) (hm:P.follows .mixedOrders=true) (hck:vDb .any l.toArray=true) (hc:chainJ .any l.toArray J=true) (hS:S 0 w.drew) (h:SeqP P .any l.toArray Q S J 0 l a):(Code.region id l.toArray true).wp P Q a w:=by
 have hsel:=Region.noSelect_spec (ops:=l.toArray) (by unfold vDb at hck;rw [Bool.and_eq_true] at hck;exact hck.1);have hd:=SeqP.der (md:=.any) hck l.toArray.size 0 a (by omega) (by simpa using h);rw [upto_zero] at hd
 have h0:vCz J (Array.replicate l.toArray.size false)=0:=by
  unfold vCz
  cases J with
  |nil=>rfl
  |cons x r=>rw [List.takeWhile_cons,getD_replicate_false];rfl
 have hs0:S (vCz J (Array.replicate l.toArray.size false)) w.drew:=by rw [h0];exact hS
 exact wp_region_any hm (DerP.any hsel hc _ _ _ ⟨by simp,fun j oj _ hl=>(by rw [getD_replicate_false] at hl;cases hl)⟩ hd _ hs0)
end
open Go
def PhL (ws:List World) (m:Nat) (wx:World):Prop:=ws[min m (ws.length - 1)]?=some wx
theorem PhL.all {ws:List World} {m:Nat} {wx:World} (h:PhL ws m wx) {P:World→Prop} (hp:∀x∈ws,P x):P wx:=hp _ (List.mem_of_getElem? h)
theorem PhL.upto {ws:List World} {m j:Nat} {wx:World} (h:PhL ws m wx) (hm:m≤j) {P:World→Prop} (hp:∀x∈ws.take (j+1),P x):P wx:=by
 refine hp _ (List.mem_of_getElem? (i:=min m (ws.length - 1)) ?_);rw [List.getElem?_take,if_pos (by omega)];exact h
end Go.Proofs.YtgmflecelnefcaaGreat
