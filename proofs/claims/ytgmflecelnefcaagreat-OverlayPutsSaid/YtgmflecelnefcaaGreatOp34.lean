import Derived.Test.YtgmflecelnefcaaGreatOp33
import Derived.Test.YtgmflecelnefcaaGreatOp11
import Derived.Test.YtgmflecelnefcaaGreatOp07
import Derived.Test.YtgmflecelnefcaaGreatOp21
import Derived.Test.YtgmflecelnefcaaGreatOp25
import Derived.Test.YtgmflecelnefcaaGreatOp31
import Derived.Test.YtgmflecelnefcaaGreatOp15
import Derived.Deep.CutBlock
import Derived.Deep.DeepCutAuto
set_option maxRecDepth 100000
set_option maxHeartbeats 40000000
namespace Go.Proofs.YtgmflecelnefcaaGreat
open Go.Lib (hid)
open Go.RowKit
def InB (w:World) (B:Nat) (F:Nat→Prop) (b:Nat):Prop:=b<w.heap.size∧(F b∨B≤b∧TyI w b)
def RI {α:Type} (R:Rdr α) (w:World) (B:Nat) (F:Nat→Prop) (T:TypeId) (s:Sl3) (xs:List α):Prop:=
 ∃vs,w.ownsRow B T R.n (.slice s.A s.n s.c) xs.length vs∧RdAll R w (InB w B F) vs xs
def ChgT (B:Nat) (T:TypeId) (w w':World):Prop:=w.heap.size≤w'.heap.size∧∀b,b<w.heap.size→(∀cur,w.heap[b]?=some (.cells cur T)→b<B)→w'.heap[b]?=w.heap[b]?
def IsO (T:TypeId):Prop:=T≠3∧T≠33
theorem ChgT.refl (B:Nat) (T:TypeId) (w:World):ChgT B T w w:=⟨Nat.le_refl _,fun _ _ _=>rfl⟩
theorem ChgT.ty {B:Nat} {T:TypeId} {w w':World} (h:ChgT B T w w') (hT:IsO T) {b:Nat} (hb:TyI w b):w'.heap[b]?=w.heap[b]?:=
 h.2 b hb.lt (fun cur hc=>by
   obtain ⟨cur2,T2,h2,h3⟩:=hb;rw [hc] at h2
   injection h2 with h2
   injection h2 with _ h2
   subst h2
   rcases h3 with h3|h3
   · exact absurd h3 hT.1
   · exact absurd h3 hT.2)
theorem ChgT.far {B:Nat} {T:TypeId} {w w':World} (h:ChgT B T w w') {b:Nat} (hb:b<w.heap.size) (hB:b<B):w'.heap[b]?=w.heap[b]?:=h.2 b hb (fun _ _=>hB)
theorem ChgT.other {B:Nat} {T T2:TypeId} {w w':World} (h:ChgT B T w w') (hn:T2≠T) {b:Nat} {cur:Array Value} (hb:w.heap[b]?=some (.cells cur T2)):w'.heap[b]?=w.heap[b]?:=by
 have hl:b<w.heap.size:=by
  rcases Nat.lt_or_ge b w.heap.size with h'|h'
  · exact h'
  · rw [Array.getElem?_eq_none h'] at hb;cases hb
 refine h.2 b hl (fun c2 h2=>?_);rw [hb] at h2
 injection h2 with h2
 injection h2 with _ h2
 exact absurd h2 hn
section
variable {α:Type} {R:Rdr α} {w w':World} {B:Nat} {F:Nat→Prop} {T:TypeId} {s:Sl3} {xs:List α}
theorem RI.len (h:RI R w B F T s xs):s.n=xs.length:=by
 obtain ⟨vs,h1,_⟩:=h
 rcases h1.2 with ⟨hv,hn⟩|⟨g,cap,cur,hv,_⟩
 · injection hv with _ e;omega
 · injection hv with _ e
theorem RI.le (h:RI R w B F T s xs):s.n≤s.c∧s.c≤maxLen:=by
 obtain ⟨vs,h1,_⟩:=h
 rcases h1.2 with ⟨hv,hn⟩|⟨g,cap,cur,hv,hB,hh,hnc,hm,_⟩
 · injection hv with _ e1 e2;exact ⟨by omega,by omega⟩
 · injection hv with _ e1 e2;exact ⟨by omega,by omega⟩
theorem RI.read (h:RI R w B F T s xs):RSl R w (vAp w) s.A s.n s.c xs:=by
 obtain ⟨vs,h1,h2⟩:=h;obtain ⟨A,n,c⟩:=s
 rcases h1.2 with ⟨hv,hn⟩|⟨g,cap,cur,hv,hB,hh,hnc,hm,hs,ht⟩
 · injection hv with e1 e2 e3
   subst e1 e2 e3;exact ⟨hn,Nat.le_refl _,Nat.zero_le _,fun _=>rfl,fun h=>absurd h (Nat.lt_irrefl 0)⟩
 · injection hv with e1 e2 e3
   subst e1 e2 e3
   have hg:g<w.heap.size:=by
    rcases Nat.lt_or_ge g w.heap.size with h'|h'
    · exact h'
    · rw [Array.getElem?_eq_none h'] at hh;cases hh
   refine ⟨rfl,hnc,hm,fun e=>(by cases e),fun hn=>⟨g,0,rfl,hg,hg,fun j x hx=>?_⟩⟩;obtain ⟨us,g1,g2⟩:=h2.at_ j x hx;refine ⟨us,R.keep g1 (fun _ _=>rfl) (fun b hb=>hb.1),fun i v hv=>?_⟩;have hi:=g2 i v hv;rw [←ht] at hi
   have hlt:j * R.n+i<xs.length * R.n:=by
    have:=(List.getElem?_eq_some_iff.1 hi).1
    rw [List.length_take] at this;omega
   rw [List.getElem?_take,if_pos hlt] at hi;rw [Nat.zero_add];simp only [World.cell?,hh];simpa using hi
theorem RI.keep (h:RI R w B F T s xs) (hs:w.heap.size≤w'.heap.size) (h1:∀b cur,B≤b→w.heap[b]?=some (.cells cur T)→w'.heap[b]?=w.heap[b]?)
 (h2:∀b,InB w B F b→w'.heap[b]?=w.heap[b]?):RI R w' B F T s xs:=by
 obtain ⟨vs,g1,g2⟩:=h;refine ⟨vs,⟨g1.1,?_⟩,g2.keep h2 (fun b hb=>⟨Nat.lt_of_lt_of_le hb.1 hs,hb.2.imp id fun g=>⟨g.1,g.2.same (h2 b hb)⟩⟩)⟩
 rcases g1.2 with h3|⟨g,cap,cur,hv,hB,hh,r⟩
 · exact .inl h3
 · exact .inr ⟨g,cap,cur,hv,hB,(h1 g cur hB hh).trans hh,r⟩
theorem RI.up (h:RI R w B F T s xs) (hb:Below w.heap.size w w'):RI R w' B F T s xs:=
 h.keep hb.size (fun b cur _ hc=>hb.block b (by
   rcases Nat.lt_or_ge b w.heap.size with h'|h'
   · exact h'
   · rw [Array.getElem?_eq_none h'] at hc;cases hc)) (fun b hb2=>hb.block b hb2.1)
theorem RI.chg {T2:TypeId} (h:RI R w B F T s xs) (hc:ChgT B T2 w w') (hn:T≠T2) (hO:IsO T2) (hF:∀b,F b→b<B):RI R w' B F T s xs:=
 h.keep hc.1 (fun _ _ _ g=>hc.other hn g) (fun b hb=>by
   rcases hb.2 with g|g
   · exact hc.far hb.1 (hF b g)
   · exact hc.ty hO g.2)
theorem RdAll.ofN {G:Nat→Prop} (hG:∀b,G b→b<w.heap.size):∀{xs:List α} {vs:List Value},RdAll (R.nf B) w G vs xs→RdAll R w (InB w B F) vs xs
 | [],_,h=>h
 |_ :: _,_,⟨us,ws,e,h1,h2⟩=>⟨us,ws,e,R.keep h1 (fun _ _=>rfl) (fun b g=>⟨hG b g.1,.inr ⟨g.2.1,g.2.2.2⟩⟩),RdAll.ofN hG h2⟩
theorem ROwn.ri (h:ROwn (R.nf B) w B T (.slice s.A s.n s.c) xs):RI R w B F T s xs:=by
 obtain ⟨vs,h1,h2⟩:=h;exact ⟨vs,h1,h2.ofN (fun b hb=>hb.1)⟩
theorem RI.nil (w:World) (B:Nat) (F:Nat→Prop) (T:TypeId):RI R w B F T Sl3.nil []:=⟨[],World.ownsRow_nil _ _ _ _,rfl⟩
theorem RI.lit0 (w:World) (B:Nat) (F:Nat→Prop) (T:TypeId) (hB:B≤w.heap.size):RI R (w.alloc (.cells #[] T)) B F T ⟨some ⟨w.heap.size,0,none⟩,0,0⟩ []:=by
 obtain ⟨vs,h1,h2⟩:=ROwn.lit0 (R:=R) w B T hB;have e:vs=[]:=h2;subst e;exact ⟨[],h1,rfl⟩
theorem run_ri {P:Program} (t ty:TypeId) (ht:P.underlying t=some (.slice T)) (hd:Desc P T R.n) (hR:0<R.n) (h:RI R w B F T s xs) (hO:IsO T) (hF:∀b,F b→b<B)
 (ad:Addr) (m c:Nat) (us:List Value) (ys:List α) (hu:∀j u,us[j]?=some u→w.cell? (ad.add j)=some u) (hy:RdAll R w (InB w B F) us ys) (hm:ys.length=m) (hn:xs.length+m≤100000) (hB:B≤w.heap.size):
 ∃s' w',(Builtin.append_ #[t,t] ty #[.slice s.A s.n s.c,.slice (some ad) m c]).run P w=.ok (.slice s'.A s'.n s'.c) w'∧RI R w' B F T s' (xs++ys)∧ChgT B T w w'∧Below B w w':=by
 obtain ⟨vs,h1,h2⟩:=h;obtain ⟨i,z,hi,hz,hsize,hb,hzs⟩:=hd;have hlen:=hy.len;obtain ⟨v',w',hr,k1,k2,_,k4⟩:=run_append_own_at (P:=P) w B t ty T i z R.n i.bytes ht hi hz hsize rfl hzs hR (.slice s.A s.n s.c) xs.length vs h1 ad m c us (by rw [hlen,hm]) hu hy.cells (by unfold maxLen;omega) (Nat.le_trans (Nat.mul_le_mul hn hb) (by decide)) hB
 have hown:∀b,(Value.slice s.A s.n s.c).ownBlock=some b→B≤b∧∃cur,w.heap[b]?=some (.cells cur T):=fun b e=>by
  rcases h1.2 with ⟨hv,_⟩|⟨g,cap,cur,hv,hg,hh,_⟩
  · rw [hv] at e;simp [Value.ownBlock] at e
  · rw [hv] at e
    simp [Value.ownBlock] at e;subst e;exact ⟨hg,cur,hh⟩
 have hc:ChgT B T w w':=⟨k2.size,fun b hb hnot=>k2.block b hb (fun e=>by
  obtain ⟨g1,cur,g2⟩:=hown b e.symm
  have:=hnot cur g2
  omega)⟩
 have same:∀b,InB w B F b→w'.heap[b]?=w.heap[b]?:=fun b hb=>by
  rcases hb.2 with g|g
  · exact hc.far hb.1 (hF b g)
  · exact hc.ty hO g.2
 have keepF:∀b,InB w B F b→InB w' B F b:=fun b hb=>⟨Nat.lt_of_lt_of_le hb.1 hc.1,hb.2.imp id fun g=>⟨g.1,g.2.same (same b hb)⟩⟩
 have hbel:Below B w w':=(Below.refl B w).grown k2 hB (fun k hk=>(hown k hk).1)
 obtain ⟨A',n',c',hs'⟩:∃A n c,v'=.slice A n c:=by
  rcases k1.2 with ⟨hv,_⟩|⟨g,cap,cur,hv,_⟩
  · exact ⟨_,_,_,hv⟩
  · exact ⟨_,_,_,hv⟩
 subst hs';exact ⟨⟨A',n',c'⟩,w',hr,⟨vs++us,by rw [List.length_append,hm];exact k1,(h2.keep same keepF).app (hy.keep same keepF)⟩,hc,hbel⟩
theorem run_ri1 {P:Program} (t ty:TypeId) (ht:P.underlying t=some (.slice T)) (hd:Desc P T R.n) (hR:0<R.n) (h:RI R w B F T s xs) (hO:IsO T) (hF:∀b,F b→b<B)
 (q:Nat) (us:List Value) (y:α) (hu:w.rangeAt q 0 us) (hy:R.rd w (InB w B F) us y) (hn:xs.length+1≤100000) (hB:B≤w.heap.size):
 ∃s' w',(Builtin.append_ #[t,t] ty #[.slice s.A s.n s.c,.slice (some ⟨q,0,none⟩) 1 1]).run P w=.ok (.slice s'.A s'.n s'.c) w'∧RI R w' B F T s' (xs++[y])∧ChgT B T w w'∧Below B w w':=
 run_ri t ty ht hd hR h hO hF ⟨q,0,none⟩ 1 1 us [y] (fun j u hj=>by rw [Addr.add_mid];exact hu j u hj) (RdAll.one_ hy) rfl hn hB
end
theorem vCg {P:Program} {α:Type} (R:Rdr α) {w:World} {B:Nat} {F G:Nat→Prop} {T:TypeId} {xs:List α} {ops:Array Oper} {rest:List Oper} {o:Oper} {a:Act} {Q:Exit→Act→World→Prop} (hgd:o.guard=none) (x y:Operand) (t:TypeId)
 (ht:P.underlying t=some (.slice T)) (hd:Desc P T R.n) (hR:0<R.n) (ho:o.op=.call {callee:=.builtin .append,args:=#[x,y],argTypes:=#[t,t]})
 (s:Sl3) (h:RI R w B F T s xs) (hO:IsO T) (hF:∀b,F b→b<B) (u:Sl3) (ys:List α) (hy:RSl R w G u.A u.n u.c ys) (hG:∀b,G b→InB w B F b) (hn:xs.length+ys.length≤100000) (hB:B≤w.heap.size)
 (hx:a.eval x=.slice s.A s.n s.c) (hyv:a.eval y=.slice u.A u.n u.c)
 (hq:∀(s':Sl3) w',RI R w' B F T s' (xs++ys)→ChgT B T w w'→Below B w w'→wpList P ops Q rest (a.put o.dst (.slice s'.A s'.n s'.c)) w'):wpList P ops Q (o :: rest) a w:=by
 obtain ⟨A,m,c⟩:=u;dsimp only at hy hyv;have hl:=hy.len
 rcases A with _|ad
 · have hc:=hy.2.2.2.1 rfl
   have hm:m=0:=by have:=hy.le;omega
   subst hm hc;have hnil:ys=[]:=List.eq_nil_of_length_eq_zero hl;subst hnil;obtain ⟨i,z,hi,hz,hsize,hb,hzs⟩:=hd;obtain ⟨vs,h1,h2⟩:=h;exact wpList_append_own_none hgd x y t ho B T i R.n ht hi (.slice s.A s.n s.c) xs.length vs hx h1 hyv (hq s w (by rw [List.append_nil];exact ⟨vs,h1,h2⟩) (ChgT.refl _ _ _) (Below.refl _ _))
 · have flat:∃us,RdAll R w (InB w B F) us ys∧∀(j:Nat) u,us[j]?=some u→w.cell? (ad.add j)=some u:=by
    rcases Nat.eq_zero_or_pos m with h0|h0
    · have hnil:ys=[]:=List.eq_nil_of_length_eq_zero (by rw [hl];exact h0)
      subst hnil;exact ⟨[],rfl,fun j u hu=>by simp at hu⟩
    · obtain ⟨b,off,e2,_,_,hc⟩:=hy.at_ h0
      injection e2 with e2
      subst e2;obtain ⟨us,g1,g2⟩:=flat_aux ys off hc;exact ⟨us,g1.keep (fun _ _=>rfl) hG,fun j u hu=>by rw [Addr.add_mid];exact g2 j u hu⟩
   obtain ⟨us,g1,g2⟩:=flat;obtain ⟨s',w',hr,k1,k2,k3⟩:=run_ri t o.type ht hd hR h hO hF ad m c us ys g2 g1 hl (by omega) hB
   refine wpList_plain hgd fun K hK=>?_
   unfold Oper.wp execOp;simp only [ho,resolve,invoke,builtin,Sem.run_bind,Sem.run_pure,Result.andThen_ok,List.map_toArray,List.map_cons,List.map_nil,hx,hyv,hr];exact hK _ _ (hq s' w' k1 k2 k3)
theorem RdAll.anyI {k:IntKind} {w w':World} {F F':Nat→Prop}:∀{xs:List Int} {vs:List Value},RdAll (Rdr.int k) w F vs xs→RdAll (Rdr.int k) w' F' vs xs
 | [],_,h=>h
 |_ :: _,_,⟨us,ws,e,h1,h2⟩=>⟨us,ws,e,h1,h2.anyI⟩
theorem run_il {P:Program} {w:World} {F:Nat→Prop} {k:IntKind} (t ty T:TypeId) (ht:P.underlying t=some (.slice T)) (hd:Desc P T 1) (hT:T=3∨T=33)
 (u:Sl3) (xs:List Int) (hy:RSl (Rdr.int k) w F u.A u.n u.c xs) (hFb:∀b,F b→b<w.heap.size) (hn:xs.length≤100000):
 ∃(s':Sl3) (w':World),(Builtin.append_ #[t,t] ty #[.slice (some ⟨w.heap.size,0,none⟩) 0 0,.slice u.A u.n u.c]).run P (w.alloc (.cells #[] T))=.ok (.slice s'.A s'.n s'.c) w'∧RSl (Rdr.int k) w' (fun b=>w.heap.size≤b∧TyI w' b) s'.A s'.n s'.c xs∧Below w.heap.size w w':=by
 obtain ⟨A,m,c⟩:=u;dsimp only at hy ⊢;have hl:=hy.len;obtain ⟨vs0,o1,o2⟩:=ROwn.lit0 (R:=Rdr.int k) w w.heap.size T (Nat.le_refl _);have e0:vs0=[]:=o2;subst e0;obtain ⟨i,z,hi,hz,hsize,hb,hzs⟩:=hd;have B0:Below w.heap.size w (w.alloc (.cells #[] T)):=(Below.refl _ _).alloc (Nat.le_refl _) _
 have fin:∀(v':Value) (w':World) (vs:List Value),w'.ownsRow w.heap.size T 1 v' xs.length vs→RdAll (Rdr.int k) w' (fun _=>False) vs xs→∃s':Sl3,v'=.slice s'.A s'.n s'.c∧RSl (Rdr.int k) w' (fun b=>w.heap.size≤b∧TyI w' b) s'.A s'.n s'.c xs:=by
  intro v' w' vs g1 g2
  rcases g1.2 with ⟨hv,hn0⟩|⟨g,cap,cur,hv,hB,hh,hnc,hm,hs,htk⟩
  · have hx:xs=[]:=List.eq_nil_of_length_eq_zero hn0
    subst hx;exact ⟨Sl3.nil,hv,RSl.nil⟩
  · refine ⟨⟨some ⟨g,0,none⟩,xs.length,cap⟩,hv,rfl,hnc,hm,(fun e=>by cases e),fun hn0=>?_⟩
    have hg:g<w'.heap.size:=by
     rcases Nat.lt_or_ge g w'.heap.size with h'|h'
     · exact h'
     · rw [Array.getElem?_eq_none h'] at hh;cases hh
    refine ⟨g,0,rfl,⟨hB,cur,T,hh,hT⟩,hg,fun j x hx=>?_⟩;obtain ⟨us,k1,k2⟩:=g2.at_ j x hx;refine ⟨us,k1,fun i v hv=>?_⟩;have hi:=k2 i v hv;rw [←htk] at hi
    have hlt:j * (Rdr.int k).n+i<xs.length * 1:=by
     have:=(List.getElem?_eq_some_iff.1 hi).1
     have h1:=g1.1;rw [List.length_take] at this;omega
    rw [List.getElem?_take,if_pos (by have h1:=g1.1;omega)] at hi;rw [Nat.zero_add];simp only [World.cell?,hh];simpa using hi
 rcases A with _|ad
 · have hc:=hy.2.2.2.1 rfl
   have hm:m=0:=by have:=hy.le;omega
   subst hm hc;have hnil:xs=[]:=List.eq_nil_of_length_eq_zero hl;subst hnil;obtain ⟨s',e1,e2⟩:=fin _ _ _ o1 rfl;refine ⟨s',_,?_,e2,B0⟩;rw [←e1];exact run_append_owned_none (P:=P) (w:=w.alloc (.cells #[] T)) w.heap.size t ty T i 1 ht hi _ 0 [] o1
 · have flat:∃us,RdAll (Rdr.int k) (w.alloc (.cells #[] T)) (fun _=>False) us xs∧∀(j:Nat) u,us[j]?=some u→(w.alloc (.cells #[] T)).cell? (ad.add j)=some u:=by
    rcases Nat.eq_zero_or_pos m with h0|h0
    · have hnil:xs=[]:=List.eq_nil_of_length_eq_zero (by rw [hl];exact h0)
      subst hnil;exact ⟨[],rfl,fun j u hu=>by simp at hu⟩
    · have hy2:=hy.keep (w':=w.alloc (.cells #[] T)) (F':=F) (fun b hb=>Below.heap_alloc w _ b (hFb b hb)) (fun _ h=>h)
      obtain ⟨b,off,e2,_,_,hc⟩:=hy2.at_ h0
      injection e2 with e2
      subst e2;obtain ⟨us,g1,g2⟩:=flat_aux xs off hc;exact ⟨us,g1.anyI,fun j u hu=>by rw [Addr.add_mid];exact g2 j u hu⟩
   obtain ⟨us,g1,g2⟩:=flat
   have hlen:us.length=m * 1:=by rw [g1.len,hl];rfl
   obtain ⟨v',w',hr,k1,k2,_,_⟩:=run_append_own_at (P:=P) (w.alloc (.cells #[] T)) w.heap.size t ty T i z 1 i.bytes ht hi hz hsize rfl hzs (by decide) _ 0 [] o1 ad m c us hlen g2 g1.cells (by unfold maxLen;omega) (Nat.le_trans (Nat.mul_le_mul (show 0+m≤100000 by omega) hb) (by decide)) (by simp);rw [Nat.zero_add,List.nil_append,←hl] at k1;obtain ⟨s',e1,e2⟩:=fin v' w' us k1 g1.anyI;refine ⟨s',w',by rw [←e1];exact hr,e2,B0.trans ((Below.refl w.heap.size _).grown k2 (by simp) (fun b hb=>?_))⟩
   simp [Value.ownBlock] at hb;omega
section
variable {α:Type} {R:Rdr α} {w w':World} {B:Nat} {F:Nat→Prop} {T:TypeId} {s:Sl3} {xs:List α}
theorem RdAll.set {G:Nat→Prop} {i:Nat} (hi:i<R.n) (v:Value) (y d:α):∀{xs:List α} {vs:List Value} (k:Nat),k<xs.length→RdAll R w G vs xs→(∀us,R.rd w G us (xs.getD k d)→R.rd w G (us.set i v) y)→RdAll R w G (vs.set (k * R.n+i) v) (xs.set k y)
 | [],_,k,hk,_,_=>absurd hk (Nat.not_lt_zero _)
 |x :: r,vs,0,_,⟨us,ws,e,h1,h2⟩,hp=>by
  subst e;have hl:=R.len h1;refine ⟨us.set i v,ws,?_,hp us (by simpa using h1),h2⟩;rw [Nat.zero_mul,Nat.zero_add,List.set_append_left _ _ (by omega)]
 |x :: r,vs,k+1,hk,⟨us,ws,e,h1,h2⟩,hp=>by
  subst e;have hl:=R.len h1;refine ⟨us,ws.set (k * R.n+i) v,?_,h1,RdAll.set hi v y d k (by simpa using hk) h2 (fun us h=>hp us (by simpa using h))⟩
  have e1:(k+1) * R.n+i=R.n+(k * R.n+i):=by rw [Nat.add_mul];omega
  rw [e1,List.set_append_right _ _ (by omega)];congr 2;omega
theorem RI.row (h:RI R w B F T s xs) (hn:0<xs.length):∃g cur,s.A=some ⟨g,0,none⟩∧B≤g∧w.heap[g]?=some (.cells cur T):=by
 obtain ⟨vs,g1,_⟩:=h
 rcases g1.2 with ⟨hv,h0⟩|⟨g,cap,cur,hv,hB,hh,_⟩
 · omega
 · injection hv with e1
   exact ⟨g,cur,e1,hB,hh⟩
theorem RI.at_ (h:RI R w B F T s xs) (g:Nat) (hg:s.A=some ⟨g,0,none⟩) (k:Nat) (hk:k<xs.length) (d:α):∃us,R.rd w (InB w B F) us (xs.getD k d)∧w.rangeAt g (k * R.n) us:=by
 obtain ⟨vs,g1,g2⟩:=h
 rcases g1.2 with ⟨hv,h0⟩|⟨g',cap,cur,hv,hB,hh,hnc,hm,hs,ht⟩
 · omega
 · injection hv with e1 e2 e3
   rw [hg] at e1
   injection e1 with e1
   injection e1 with e1 _
   subst e1
   have e:xs.getD k d=xs[k]:=by simp [List.getD,hk]
   obtain ⟨us,k1,k2⟩:=g2.at_ k xs[k] (List.getElem?_eq_getElem hk);rw [e];refine ⟨us,k1,fun i v hv=>?_⟩;have hi:=k2 i v hv;rw [←ht] at hi;have hlt:=(List.getElem?_eq_some_iff.1 hi).1;rw [List.length_take] at hlt;rw [List.getElem?_take,if_pos (by omega)] at hi;simp only [World.cell?,hh];simpa using hi
theorem RI.put (h:RI R w B F T s xs) (hO:IsO T) (hF:∀b,F b→b<B) (k:Nat) (hk:k<xs.length) (i:Nat) (hi:i<R.n) (v:Value) (y d:α) (g:Nat) (hg:s.A=some ⟨g,0,none⟩)
 (hp:∀us,R.rd w (InB w B F) us (xs.getD k d)→R.rd w (InB w B F) (us.set i v) y):RI R (w.setCell ⟨g,k * R.n+i,none⟩ v) B F T s (xs.set k y)∧ChgT B T w (w.setCell ⟨g,k * R.n+i,none⟩ v):=by
 obtain ⟨vs,g1,g2⟩:=h
 rcases g1.2 with ⟨hv,h0⟩|⟨g',cap,cur,hv,hB,hh,hnc,hm,hs,ht⟩
 · omega
 · have hv2:=hv
   injection hv with e1 e2 e3
   rw [hg] at e1
   injection e1 with e1
   injection e1 with e1 _
   subst e1
   have hc:ChgT B T w (w.setCell ⟨g,k * R.n+i,none⟩ v):=⟨by simp,fun b hb hn=>Below.heap_setCell _ _ _ _ (fun e=>by
    have e2:b=g:=e;rw [e2] at hn
    have:=hn _ hh
    omega)⟩
   have same:∀b,InB w B F b→(w.setCell ⟨g,k * R.n+i,none⟩ v).heap[b]?=w.heap[b]?:=fun b hb=>by
    rcases hb.2 with g|g
    · exact hc.far hb.1 (hF b g)
    · exact hc.ty hO g.2
   refine ⟨⟨vs.set (k * R.n+i) v,⟨by rw [List.length_set,List.length_set];exact g1.1,.inr ⟨g,cap,cur.setIfInBounds (k * R.n+i) v,by rw [List.length_set];exact hv2,hB,?_,by rw [List.length_set];exact hnc,hm,by rw [Array.size_setIfInBounds];exact hs,?_⟩⟩,
    (RdAll.set hi v y d k hk g2 hp).keep same (fun b hb=>⟨by simpa using hb.1,hb.2.imp id fun g=>⟨g.1,g.2.same (same b hb)⟩⟩)⟩,hc⟩
   · unfold World.setCell
     rw [Array.getElem?_modify,if_pos rfl,hh];simp
   · rw [List.length_set,Array.toList_setIfInBounds,List.take_set,ht]
end
theorem vEr:IsO 58:=by unfold IsO;decide
theorem vDn:IsO 68:=by unfold IsO;decide
theorem vEa:IsO 84:=by unfold IsO;decide
theorem vDh:IsO 54:=by unfold IsO;decide
theorem vEh:IsO 89:=by unfold IsO;decide
theorem vBx:IsO 71:=by unfold IsO;decide
theorem vEq:IsO 74:=by unfold IsO;decide
theorem vFi:IsO 98:=by unfold IsO;decide
structure NOwn (w:World) (B:Nat) (F:Nat→Prop) (N:NV) (S:NSl3):Prop where
 dv:RI devR w B F 58 S.dv N.devices
 pt:RI portR w B F 68 S.pt N.ports
 lk:RI linkR w B F 84 S.lk N.links
 dm:RI domR w B F 54 S.dm N.domains
 st:RI statR w B F 89 S.st N.statics
 fl:RI floodR w B F 71 S.fl N.floods
 vr:RI vrfR w B F 74 S.vr N.vrfs
 ir:RI irbR w B F 98 S.ir N.irbs
section
variable {w w':World} {B:Nat} {F:Nat→Prop} {N:NV} {S:NSl3}
theorem NOwn.read (h:NOwn w B F N S):NRead w (vAp w) N S:=⟨h.dv.read,h.pt.read,h.lk.read,h.dm.read,h.st.read,h.fl.read,h.vr.read,h.ir.read⟩
theorem NOwn.up (h:NOwn w B F N S) (hb:Below w.heap.size w w'):NOwn w' B F N S:=⟨h.dv.up hb,h.pt.up hb,h.lk.up hb,h.dm.up hb,h.st.up hb,h.fl.up hb,h.vr.up hb,h.ir.up hb⟩
def IsB (T:TypeId):Prop:=IsO T∧58≠T∧68≠T∧84≠T∧54≠T∧89≠T∧71≠T∧74≠T∧98≠T
theorem vEi:IsB 31:=by unfold IsB IsO;decide
theorem NOwn.box {T:TypeId} (h:NOwn w B F N S) (hc:ChgT B T w w') (hT:IsB T) (hF:∀b,F b→b<B):NOwn w' B F N S:=
 ⟨h.dv.chg hc hT.2.1 hT.1 hF,h.pt.chg hc hT.2.2.1 hT.1 hF,h.lk.chg hc hT.2.2.2.1 hT.1 hF,h.dm.chg hc hT.2.2.2.2.1 hT.1 hF,h.st.chg hc hT.2.2.2.2.2.1 hT.1 hF,h.fl.chg hc hT.2.2.2.2.2.2.1 hT.1 hF,h.vr.chg hc hT.2.2.2.2.2.2.2.1 hT.1 hF,h.ir.chg hc hT.2.2.2.2.2.2.2.2 hT.1 hF⟩
theorem NOwn.setDv {s:Sl3} {xs:List DevV} (h:NOwn w B F N S) (hc:ChgT B 58 w w') (hF:∀b,F b→b<B) (hr:RI devR w' B F 58 s xs):NOwn w' B F {N with devices:=xs} {S with dv:=s}:=
 ⟨hr,h.pt.chg hc (by decide) vEr hF,h.lk.chg hc (by decide) vEr hF,h.dm.chg hc (by decide) vEr hF,h.st.chg hc (by decide) vEr hF,h.fl.chg hc (by decide) vEr hF,h.vr.chg hc (by decide) vEr hF,h.ir.chg hc (by decide) vEr hF⟩
theorem NOwn.setPt {s:Sl3} {xs:List PortV} (h:NOwn w B F N S) (hc:ChgT B 68 w w') (hF:∀b,F b→b<B) (hr:RI portR w' B F 68 s xs):NOwn w' B F {N with ports:=xs} {S with pt:=s}:=
 ⟨h.dv.chg hc (by decide) vDn hF,hr,h.lk.chg hc (by decide) vDn hF,h.dm.chg hc (by decide) vDn hF,h.st.chg hc (by decide) vDn hF,h.fl.chg hc (by decide) vDn hF,h.vr.chg hc (by decide) vDn hF,h.ir.chg hc (by decide) vDn hF⟩
theorem NOwn.setLk {s:Sl3} {xs:List LinkV} (h:NOwn w B F N S) (hc:ChgT B 84 w w') (hF:∀b,F b→b<B) (hr:RI linkR w' B F 84 s xs):NOwn w' B F {N with links:=xs} {S with lk:=s}:=
 ⟨h.dv.chg hc (by decide) vEa hF,h.pt.chg hc (by decide) vEa hF,hr,h.dm.chg hc (by decide) vEa hF,h.st.chg hc (by decide) vEa hF,h.fl.chg hc (by decide) vEa hF,h.vr.chg hc (by decide) vEa hF,h.ir.chg hc (by decide) vEa hF⟩
theorem NOwn.setDm {s:Sl3} {xs:List DomV} (h:NOwn w B F N S) (hc:ChgT B 54 w w') (hF:∀b,F b→b<B) (hr:RI domR w' B F 54 s xs):NOwn w' B F {N with domains:=xs} {S with dm:=s}:=
 ⟨h.dv.chg hc (by decide) vDh hF,h.pt.chg hc (by decide) vDh hF,h.lk.chg hc (by decide) vDh hF,hr,h.st.chg hc (by decide) vDh hF,h.fl.chg hc (by decide) vDh hF,h.vr.chg hc (by decide) vDh hF,h.ir.chg hc (by decide) vDh hF⟩
theorem NOwn.setSt {s:Sl3} {xs:List StatV} (h:NOwn w B F N S) (hc:ChgT B 89 w w') (hF:∀b,F b→b<B) (hr:RI statR w' B F 89 s xs):NOwn w' B F {N with statics:=xs} {S with st:=s}:=
 ⟨h.dv.chg hc (by decide) vEh hF,h.pt.chg hc (by decide) vEh hF,h.lk.chg hc (by decide) vEh hF,h.dm.chg hc (by decide) vEh hF,hr,h.fl.chg hc (by decide) vEh hF,h.vr.chg hc (by decide) vEh hF,h.ir.chg hc (by decide) vEh hF⟩
theorem NOwn.setFl {s:Sl3} {xs:List FloodV} (h:NOwn w B F N S) (hc:ChgT B 71 w w') (hF:∀b,F b→b<B) (hr:RI floodR w' B F 71 s xs):NOwn w' B F {N with floods:=xs} {S with fl:=s}:=
 ⟨h.dv.chg hc (by decide) vBx hF,h.pt.chg hc (by decide) vBx hF,h.lk.chg hc (by decide) vBx hF,h.dm.chg hc (by decide) vBx hF,h.st.chg hc (by decide) vBx hF,hr,h.vr.chg hc (by decide) vBx hF,h.ir.chg hc (by decide) vBx hF⟩
theorem NOwn.setVr {s:Sl3} {xs:List VrfV} (h:NOwn w B F N S) (hc:ChgT B 74 w w') (hF:∀b,F b→b<B) (hr:RI vrfR w' B F 74 s xs):NOwn w' B F {N with vrfs:=xs} {S with vr:=s}:=
 ⟨h.dv.chg hc (by decide) vEq hF,h.pt.chg hc (by decide) vEq hF,h.lk.chg hc (by decide) vEq hF,h.dm.chg hc (by decide) vEq hF,h.st.chg hc (by decide) vEq hF,h.fl.chg hc (by decide) vEq hF,hr,h.ir.chg hc (by decide) vEq hF⟩
theorem NOwn.setIr {s:Sl3} {xs:List IrbV} (h:NOwn w B F N S) (hc:ChgT B 98 w w') (hF:∀b,F b→b<B) (hr:RI irbR w' B F 98 s xs):NOwn w' B F {N with irbs:=xs} {S with ir:=s}:=
 ⟨h.dv.chg hc (by decide) vFi hF,h.pt.chg hc (by decide) vFi hF,h.lk.chg hc (by decide) vFi hF,h.dm.chg hc (by decide) vFi hF,h.st.chg hc (by decide) vFi hF,h.fl.chg hc (by decide) vFi hF,h.vr.chg hc (by decide) vFi hF,hr⟩
end
def TBx (w:World) (q:Nat) (T:TypeId) (vs:List Value):Prop:=w.heap[q]?=some (.cells vs.toArray T)
section
variable {w w':World} {q B:Nat} {T:TypeId} {vs:List Value}
theorem TBx.new (w:World) (vs:Array Value) (T:TypeId):TBx (w.alloc (.cells vs T)) w.heap.size T vs.toList:=by unfold TBx;rw [heap_alloc_new]
theorem TBx.lt (h:TBx w q T vs):q<w.heap.size:=by
 unfold TBx at h
 rcases Nat.lt_or_ge q w.heap.size with h'|h'
 · exact h'
 · rw [Array.getElem?_eq_none h'] at h;cases h
theorem TBx.same (h:TBx w q T vs) (e:w'.heap[q]?=w.heap[q]?):TBx w' q T vs:=e.trans h
theorem TBx.below (h:TBx w q T vs) (hb:Below w.heap.size w w'):TBx w' q T vs:=h.same (hb.block q h.lt)
theorem TBx.chg {T2:TypeId} (h:TBx w q T vs) (hc:ChgT B T2 w w') (hn:T≠T2):TBx w' q T vs:=h.same (hc.other hn h)
theorem TBx.cell (h:TBx w q T vs) (j:Nat) (v:Value) (hj:vs[j]?=some v):w.cell? ⟨q,j,none⟩=some v:=by
 unfold TBx at h;simp only [World.cell?,h];simpa using hj
theorem TBx.range (h:TBx w q T vs):w.rangeAt q 0 vs:=fun j v hj=>by rw [Nat.zero_add];exact h.cell j v hj
theorem TBx.live (h:TBx w q T vs) (o:Nat):w.frozen? ⟨q,o,none⟩=false:=by
 unfold TBx at h;simp [World.frozen?,h]
theorem TBx.set (h:TBx w q T vs) (j:Nat) (v:Value):TBx (w.setCell ⟨q,j,none⟩ v) q T (vs.set j v):=by
 unfold TBx at h ⊢;unfold World.setCell;rw [Array.getElem?_modify,if_pos rfl,h];simp
theorem TBx.chgT (h:TBx w q T vs) (hB:B≤q) (j:Nat) (v:Value):ChgT B T w (w.setCell ⟨q,j,none⟩ v):=
 ⟨by simp,fun b hb hn=>Below.heap_setCell _ _ _ _ (fun e=>by
   have e2:b=q:=e;rw [e2] at hn
   have:=hn _ h
   omega)⟩
end
def st8 (w:World) (q:Nat) (S:NSl3):World:=((((((((w.setCell ⟨q,0,none⟩ (.slice S.dv.A S.dv.n S.dv.c)).setCell ⟨q,1,none⟩ (.slice S.pt.A S.pt.n S.pt.c)).setCell ⟨q,2,none⟩ (.slice S.lk.A S.lk.n S.lk.c)).setCell ⟨q,3,none⟩ (.slice S.dm.A S.dm.n S.dm.c)).setCell ⟨q,4,none⟩ (.slice S.st.A S.st.n S.st.c)).setCell ⟨q,5,none⟩ (.slice S.fl.A S.fl.n S.fl.c)).setCell ⟨q,6,none⟩ (.slice S.vr.A S.vr.n S.vr.c)).setCell ⟨q,7,none⟩ (.slice S.ir.A S.ir.n S.ir.c))
theorem vAx (w:World) (q:Nat) (S:NSl3) {b:Nat} (h:b≠q):(st8 w q S).heap[b]?=w.heap[b]?:=by
 unfold st8;rw [Below.heap_setCell _ _ _ _ h,Below.heap_setCell _ _ _ _ h,Below.heap_setCell _ _ _ _ h,Below.heap_setCell _ _ _ _ h,Below.heap_setCell _ _ _ _ h,Below.heap_setCell _ _ _ _ h,Below.heap_setCell _ _ _ _ h,Below.heap_setCell _ _ _ _ h]
theorem vBh (w:World) (q:Nat) (S:NSl3):(st8 w q S).heap.size=w.heap.size:=by simp [st8]
theorem TBx.st8 {w:World} {q:Nat} {T:TypeId} {A:NSl3} (h:TBx w q T (vBk A)) (S:NSl3):TBx (st8 w q S) q T (vBk S):=((((((((h.set 0 (.slice S.dv.A S.dv.n S.dv.c)).set 1 (.slice S.pt.A S.pt.n S.pt.c)).set 2 (.slice S.lk.A S.lk.n S.lk.c)).set 3 (.slice S.dm.A S.dm.n S.dm.c)).set 4 (.slice S.st.A S.st.n S.st.c)).set 5 (.slice S.fl.A S.fl.n S.fl.c)).set 6 (.slice S.vr.A S.vr.n S.vr.c)).set 7 (.slice S.ir.A S.ir.n S.ir.c))
theorem TBx.chg8 {w:World} {q B:Nat} {T:TypeId} {A:NSl3} (h:TBx w q T (vBk A)) (hB:B≤q) (S:NSl3):ChgT B T w (Go.Proofs.YtgmflecelnefcaaGreat.st8 w q S):=
 ⟨by rw [vBh];exact Nat.le_refl _,fun b _ hn=>vAx _ _ _ (fun e=>by
   rw [e] at hn
   have:=hn _ h
   omega)⟩
theorem Below.st8 {w w0:World} {q B:Nat} (h:Below B w0 w) (hB:B≤q) (S:NSl3):Below B w0 (Go.Proofs.YtgmflecelnefcaaGreat.st8 w q S):=((((((((h.setCell (p:=⟨q,0,none⟩) hB (.slice S.dv.A S.dv.n S.dv.c)).setCell (p:=⟨q,1,none⟩) hB (.slice S.pt.A S.pt.n S.pt.c)).setCell (p:=⟨q,2,none⟩) hB (.slice S.lk.A S.lk.n S.lk.c)).setCell (p:=⟨q,3,none⟩) hB (.slice S.dm.A S.dm.n S.dm.c)).setCell (p:=⟨q,4,none⟩) hB (.slice S.st.A S.st.n S.st.c)).setCell (p:=⟨q,5,none⟩) hB (.slice S.fl.A S.fl.n S.fl.c)).setCell (p:=⟨q,6,none⟩) hB (.slice S.vr.A S.vr.n S.vr.c)).setCell (p:=⟨q,7,none⟩) hB (.slice S.ir.A S.ir.n S.ir.c))
theorem run_none {P:Program} {w:World} {base:Nat} (t ty e:TypeId) (i:TypeInfo) (size:Nat) (ht:P.underlying t=some (.slice e)) (hi:P.info? e=some i)
 (v:Value) (n c:Nat) (xs:List Value) (hown:w.ownsRow base e size v n xs):(Builtin.append_ #[t,t] ty #[v,.slice none 0 c]).run P w=.ok v w:=by
 rcases hown.2 with ⟨rfl,rfl⟩|⟨g,cap,cur,rfl,_,_,hnc,_⟩
 · simp [Builtin.append_,run_underlying ht,sizeOf,typeInfo,hi,Builtin.lenOf,Builtin.firstCells]
 · simp [Builtin.append_,run_underlying ht,sizeOf,typeInfo,hi,Builtin.lenOf,Builtin.firstCells,hnc,storeCells]
def OwnI (k:IntKind) (T:TypeId) (w:World) (B:Nat) (s:Sl3) (xs:List Int):Prop:=w.ownsRow B T 1 (.slice s.A s.n s.c) xs.length (xs.map (Value.int k))
theorem OwnI.len {k:IntKind} {T:TypeId} {w:World} {B:Nat} {s:Sl3} {xs:List Int} (h:OwnI k T w B s xs):s.n=xs.length:=by
 rcases h.2 with ⟨hv,hn⟩|⟨g,cap,cur,hv,_⟩
 · injection hv with _ e;omega
 · injection hv with _ e
theorem OwnI.read {k:IntKind} {T:TypeId} {w:World} {B:Nat} {s:Sl3} {xs:List Int} (h:OwnI k T w B s xs) (hT:T=3∨T=33):RSl (Rdr.int k) w (fun b=>B≤b∧TyI w b) s.A s.n s.c xs:=by
 obtain ⟨A,n,c⟩:=s
 rcases h.2 with ⟨hv,hn0⟩|⟨g,cap,cur,hv,hB,hh,hnc,hm,hs,htk⟩
 · injection hv with e1 e2 e3
   subst e1 e2 e3;have hx:xs=[]:=List.eq_nil_of_length_eq_zero hn0;subst hx;exact RSl.nil
 · injection hv with e1 e2 e3
   subst e1 e2 e3;refine ⟨rfl,hnc,hm,(fun e=>by cases e),fun hn0=>?_⟩
   have hg:g<w.heap.size:=by
    rcases Nat.lt_or_ge g w.heap.size with h'|h'
    · exact h'
    · rw [Array.getElem?_eq_none h'] at hh;cases hh
   refine ⟨g,0,rfl,⟨hB,cur,T,hh,hT⟩,hg,fun j x hx=>⟨[.int k x],rfl,fun i v hv=>?_⟩⟩;have hj:j<xs.length:=(List.getElem?_eq_some_iff.1 hx).1
   have hi0:i=0:=by have:=(List.getElem?_eq_some_iff.1 hv).1;simp at this;omega
   subst hi0
   have hv2:v=.int k x:=by simpa using hv.symm
   subst hv2
   have ht2:(cur.toList.take xs.length)[j]?=some (.int k x):=by
    have e:cur.toList.take xs.length=xs.map (Value.int k):=by
     have:=htk
     simpa using this
    rw [e,List.getElem?_map,hx]
    rfl
   rw [List.getElem?_take,if_pos hj] at ht2;simp only [World.cell?,hh]
   show cur[0+j * 1+0]?=_
   rw [Nat.zero_add,Nat.mul_one,Nat.add_zero];simpa using ht2
theorem OwnI.lit (k:IntKind) (T:TypeId) (w:World) (B:Nat) (xs:List Int) (hB:B≤w.heap.size) (hm:xs.length≤1000000):OwnI k T (w.alloc (.cells (xs.map (Value.int k)).toArray T)) B ⟨some ⟨w.heap.size,0,none⟩,xs.length,xs.length⟩ xs:=by
 have:=World.ownsRow_lit (base:=B) (e:=T) (size:=1) w (xs.map (Value.int k)).toArray xs.length hB (by unfold maxLen;omega) (by simp)
 rw [List.toList_toArray] at this;exact this
theorem run_ints {P:Program} {w:World} {B:Nat} {k:IntKind} (t ty T:TypeId) (ht:P.underlying t=some (.slice T)) (hd:Desc P T 1) (s:Sl3) (xs:List Int) (h:OwnI k T w B s xs)
 (A:Option Addr) (m c:Nat) (ys:List Int) (hy:ISl w k A m c ys) (hn:xs.length+m≤100000) (hB:B≤w.heap.size):
 ∃(s':Sl3) (w':World),(Builtin.append_ #[t,t] ty #[.slice s.A s.n s.c,.slice A m c]).run P w=.ok (.slice s'.A s'.n s'.c) w'∧OwnI k T w' B s' (xs++ys)∧w.grownBy w' (Value.slice s.A s.n s.c).ownBlock∧Below B w w':=by
 obtain ⟨i,z,hi,hz,hsize,hb,hzs⟩:=hd;have hl:=hy.len
 rcases A with _|ad
 · have hm:m=0:=by
    rcases Nat.eq_zero_or_pos m with e|e
    · exact e
    · obtain ⟨b,off,e2,_⟩:=hy.2.2.2 e;cases e2
   subst hm;have hnil:ys=[]:=List.eq_nil_of_length_eq_zero hl;subst hnil;exact ⟨s,w,run_none t ty T i 1 ht hi _ _ c _ h,by rw [List.append_nil];exact h,⟨rfl,rfl,rfl,Nat.le_refl _,fun _ _ _=>rfl⟩,Below.refl _ _⟩
 · have hu:∀j u,(ys.map (Value.int k))[j]?=some u→w.cell? (ad.add j)=some u:=hy.cells_
   obtain ⟨v',w',hr,k1,k2,_,_⟩:=run_append_own_at (P:=P) w B t ty T i z 1 i.bytes ht hi hz hsize rfl hzs (by decide) _ xs.length _ h ad m c (ys.map (Value.int k)) (by rw [List.length_map,hl,Nat.mul_one]) hu (by intro u hu;obtain ⟨z,_,rfl⟩:=List.mem_map.1 hu;rfl) (by unfold maxLen;omega) (Nat.le_trans (Nat.mul_le_mul hn hb) (by decide)) hB
   obtain ⟨A',n',c',hs'⟩:∃A n c,v'=.slice A n c:=by
    rcases k1.2 with ⟨hv,_⟩|⟨g,cap,cur,hv,_⟩
    · exact ⟨_,_,_,hv⟩
    · exact ⟨_,_,_,hv⟩
   subst hs';exact ⟨⟨A',n',c'⟩,w',hr,by unfold OwnI;rw [List.length_append,List.map_append,hl];exact k1,k2,(Below.refl B w).grown k2 hB (fun b hb=>h.lt b hb |>.1)⟩
theorem set_self {α:Type} (xs:List α) (k:Nat) (d:α):xs.set k (xs.getD k d)=xs:=by
 apply List.ext_getElem?
 intro i
 by_cases h:i=k
 · subst h
   by_cases hl:i<xs.length
   · simp [hl,List.getD]
   · simp [hl]
 · simp [Ne.symm h]
theorem vDo {P:Program} {ρ:Operand→Value} {o:Oper} {x y:Operand} {t:TypeId} {v u r:Value} {w w':World} (ho:o.op=.call {callee:=.builtin .append,args:=#[x,y],argTypes:=#[t,t]}) (hx:ρ x=v) (hy:ρ y=u)
 (hr:(Builtin.append_ #[t,t] o.type #[v,u]).run P w=.ok r w'):(execOp ρ o).run P w=.ok (.value r) w':=by
 unfold execOp;simp only [ho,resolve,invoke,builtin,Sem.run_bind,Sem.run_pure,Result.andThen_ok,List.map_toArray,List.map_cons,List.map_nil,hx,hy,hr]
theorem vBw (L:LV) (s1 s2 s3 s4:SlV):vAv L s1 s2 s3 s4=.agg (lA L s1 s2 s3 s4):=rfl
theorem TBx.zero8 {w:World} {q:Nat} {T:TypeId} (h:TBx w q T (vBk NSl3.nil)):w.cell? ⟨q,0,none⟩=some (.slice none 0 0)∧w.frozen? ⟨q,0,none⟩=false∧w.cell? ⟨q,1,none⟩=some (.slice none 0 0)∧w.frozen? ⟨q,1,none⟩=false∧w.cell? ⟨q,2,none⟩=some (.slice none 0 0)∧w.frozen? ⟨q,2,none⟩=false∧w.cell? ⟨q,3,none⟩=some (.slice none 0 0)∧w.frozen? ⟨q,3,none⟩=false∧w.cell? ⟨q,4,none⟩=some (.slice none 0 0)∧w.frozen? ⟨q,4,none⟩=false∧w.cell? ⟨q,5,none⟩=some (.slice none 0 0)∧w.frozen? ⟨q,5,none⟩=false∧w.cell? ⟨q,6,none⟩=some (.slice none 0 0)∧w.frozen? ⟨q,6,none⟩=false∧w.cell? ⟨q,7,none⟩=some (.slice none 0 0)∧w.frozen? ⟨q,7,none⟩=false:=
 ⟨h.cell 0 _ rfl,h.live 0,h.cell 1 _ rfl,h.live 1,h.cell 2 _ rfl,h.live 2,h.cell 3 _ rfl,h.live 3,h.cell 4 _ rfl,h.live 4,h.cell 5 _ rfl,h.live 5,h.cell 6 _ rfl,h.live 6,h.cell 7 _ rfl,h.live 7⟩
theorem pre_two {w w1:World} {S:NSl3} {L:LV} {s1 s2 s3 s4:SlV} (e:(w.alloc (.cells (nA S) 31)).alloc (.cells (lA L s1 s2 s3 s4) 37)=w1):
 Below w.heap.size w w1∧NBox w1 w.heap.size S∧BoxF w1 (w.heap.size+1) 17 (lc L s1 s2 s3 s4)∧w.heap.size+1<w1.heap.size:=by
 refine ⟨by rw [←e];exact ((Below.refl _ _).alloc (Nat.le_refl _) _).alloc (by simp) _,by rw [←e];exact (NBox.new w S 31).below ((Below.refl _ _).alloc (Nat.le_refl _) _),?_,by rw [←e];simp⟩
 have:=vCs (w.alloc (.cells (nA S) 31)) L s1 s2 s3 s4 37
 rw [show (w.alloc (.cells (nA S) 31)).heap.size=w.heap.size+1 by simp] at this;rw [←e];exact this
theorem vDs {w w1:World} {S:NSl3} {L:LV} {s1 s2 s3 s4:SlV} (e:((w.alloc (.cells (nA S) 31)).alloc (.cells (lA L s1 s2 s3 s4) 37)).alloc (.cells zA 31)=w1):
 Below w.heap.size w w1∧NBox w1 w.heap.size S∧BoxF w1 (w.heap.size+1) 17 (lc L s1 s2 s3 s4)∧w.heap.size+1<w1.heap.size∧TBx w1 (w.heap.size+2) 31 (vBk NSl3.nil):=by
 obtain ⟨h1,h2,h3,h4⟩:=pre_two (w:=w) (S:=S) (L:=L) (s1:=s1) (s2:=s2) (s3:=s3) (s4:=s4) rfl;have b:=(Below.refl ((w.alloc (.cells (nA S) 31)).alloc (.cells (lA L s1 s2 s3 s4) 37)).heap.size ((w.alloc (.cells (nA S) 31)).alloc (.cells (lA L s1 s2 s3 s4) 37))).alloc (Nat.le_refl _) (.cells zA 31);have t:=TBx.new ((w.alloc (.cells (nA S) 31)).alloc (.cells (lA L s1 s2 s3 s4) 37)) zA 31;rw [show ((w.alloc (.cells (nA S) 31)).alloc (.cells (lA L s1 s2 s3 s4) 37)).heap.size=w.heap.size+2 by simp] at t
 subst e;exact ⟨h1.trans (b.mono h1.size),h2.below b,h3.below (by omega) b,Nat.lt_of_lt_of_le h4 b.size,t⟩
theorem fits_gen (N:NV) (S:NSl3) (L:LV) (s1 s2 s3 s4:SlV) (k:Int) (w:World) (h:NRead w (vAp w) N S) (hl:LRead w L s1 s2 s3 s4) (hr:∀w',LRead w' L s1 s2 s3 s4→L.kind=k→Calls Tryz.prog 145 #[vAv L s1 s2 s3 s4] w' fun e w''=>e=.returned (.bool (rgB L))∧Below w'.heap.size w' w''):Calls Tryz.prog 90 #[vAm S,vAv L s1 s2 s3 s4,.int .i64 k] w fun e w'=>e=.returned (.bool (vCk N L k))∧Below w.heap.size w w':=by
 have UP:=hid (fun (w':World) (hb:Below w.heap.size w w')=>h.up hb);have UL:=hid (fun (w':World) (hb:Below w.heap.size w w')=>vAk hl hb)
 have RL:=fun (w':World) (hb:Below w.heap.size w w') (e:L.kind=k)=>hr w' (vAk hl hb) e
 have RN:=fun (w':World) (hb:Below w.heap.size w w')=>rnright_any N S w' (h.up hb)
 obtain ⟨V,hV⟩:∃V,vCk N L k=V:=⟨_,rfl⟩;rw [hV];have EV:=hid (show V=(decide (L.kind=k) && (rgB L && vHw N)) from hV.symm);unfold vAm at RN;obtain ⟨b1,hb1⟩:∃b,rgB L=b:=⟨_,rfl⟩;obtain ⟨b2,hb2⟩:∃b,vHw N=b:=⟨_,rfl⟩;rw [hb1] at EV;rw [hb2] at EV RN;have RL2:=hid (show ∀w',Below w.heap.size w w'→L.kind=k→Calls Tryz.prog 145 #[vAv L s1 s2 s3 s4] w' fun e w''=>e=.returned (.bool b1)∧Below w'.heap.size w' w'' from fun w' hb e=>by have:=RL w' hb e;rw [hb1] at this;exact this)
 have RN:=hid RN;clear RL hV hb1 hb2 hr;clear h hl;unfold vAm;rw [vBw]
 go_enter Tryz.func90,Tryz.ntmps90
 go_upto_region 1 with fail
 generalize hw1:World.alloc _ _=w1;obtain ⟨B1,NB,LB,ql1⟩:=pre_two (S:=S) (L:=L) (s1:=s1) (s2:=s2) (s3:=s3) (s4:=s4) hw1;clear hw1;replace B1:=hid B1;replace NB:=hid NB;replace LB:=hid LB
 have KN:=hid (show ∀wx,Below w1.heap.size w1 wx→NF wx w.heap.size S∧(wx.cell? ⟨w.heap.size+1,0,none⟩=some (.int .i64 L.row)∧wx.cell? ⟨w.heap.size+1,1,none⟩=some (.int .i64 L.kind))∧BoxF wx (w.heap.size+1) 17 (lc L s1 s2 s3 s4)∧NRead wx (vAp wx) N S∧LRead wx L s1 s2 s3 s4∧Below w.heap.size w wx from fun wx hx=>by
  have nb:=NB.out.below hx;have bx:=LB.out.below (by omega) hx;have b0:=B1.out.trans (hx.mono B1.out.size)
  exact ⟨⟨nb.c0,nb.c1,nb.c2,nb.c3,nb.c4,nb.c5,nb.c6,nb.c7⟩,⟨bx.cell 0 (by omega),bx.cell 1 (by omega)⟩,bx,UP.out _ b0,UL.out _ b0,b0⟩)
 have BS:=hid (Below.refl w1.heap.size w1);obtain ⟨⟨f0,f1,f2,f3,f4,f5,f6,f7⟩,⟨g0,g1⟩,lb_,_⟩:=KN.out w1 (Below.refl _ _)
 by_cases e:L.kind=k
 rotate_left
 · have y:(L.kind == k)=false:=by simpa using e
   have E2:=hid (show V=false by rw [EV.out,decide_eq_false e,Bool.false_and]);clear e;go_wp2;go_ret;exact ⟨by rw [E2.out];rfl,B1.out⟩
 have y:(L.kind == k)=true:=by simpa using e
 have HE:=hid e;have E2:=hid (show V=(b1 && b2) by rw [EV.out,decide_eq_true e,Bool.true_and]);clear e
 cases b1
 · go_wp2_with (first
    |((with_reducible refine vAf ?hg (.tmp 4) ?ho (w.heap.size+1) ?hx L s1 s2 s3 s4 lb_ ?_);(case hg=>rfl);(case ho=>rfl);(case hx=>rfl))
    |(go_at_call 145;(with_reducible refine (RL2.out _ B1.out HE.out).mono ?_);rintro e w2 ⟨rfl,b_⟩;have Y2:=hid b_;have X2:=hid (vAa B1.out b_);clear b_))
   go_ret;exact ⟨by rw [E2.out];rfl,X2.out⟩
 · go_wp2_with (first
    |((with_reducible refine vAf ?hg (.tmp 4) ?ho (w.heap.size+1) ?hx L s1 s2 s3 s4 lb_ ?_);(case hg=>rfl);(case ho=>rfl);(case hx=>rfl))
    |(go_at_call 145;(with_reducible refine (RL2.out _ B1.out HE.out).mono ?_);rintro e w2 ⟨rfl,b_⟩;have Y2:=hid b_;have X2:=hid (vAa B1.out b_);obtain ⟨⟨f0,f1,f2,f3,f4,f5,f6,f7⟩,⟨g0,g1⟩,lb_,_⟩:=KN.out _ Y2.out;clear b_)
    |(go_at_call 19;(with_reducible refine (RN.out _ X2.out).mono ?_);rintro e w3 ⟨rfl,b_⟩;have X3:=hid (vAa X2.out b_);clear b_))
   go_ret;exact ⟨by rw [E2.out];rfl,X3.out⟩
def GotGr (N:NV) (L:LV) (w:World) (e:Ending) (w':World):Prop:=∃g,e=.returned (.bool g)∧(g=false→NvSz N∧LvSm L)∧Below w.heap.size w w'
end Go.Proofs.YtgmflecelnefcaaGreat
