import Derived.Test.YtgmflecelnefcaaGreatOm25
import Derived.Test.YtgmflecelnefcaaGreatOm03
import Derived.Test.YtgmflecelnefcaaGreatOm09
import Derived.Test.YtgmflecelnefcaaGreatOm19
import Derived.Test.YtgmflecelnefcaaGreatOm04
import Derived.Test.YtgmflecelnefcaaGreatOm01
import Derived.Test.YtgmflecelnefcaaGreatOm05
import Derived.Test.YtgmflecelnefcaaGreatOm17
import Derived.Deep.CutBlock
import Derived.Deep.DeepCutAuto
import Derived.RegionTactic
import Derived.Deep.RegionHeldLaw
import Derived.Test.YtgmflecelnefcaaGreatShelf
import Derived.StillTail
import Derived.Great.BuildSlice
set_option maxRecDepth 100000
set_option maxHeartbeats 40000000
namespace Go.Proofs.YtgmflecelnefcaaGreat
open Go.Lib (hid)
open Go.RowKit
def VtOk (N:NV):Prop:=∀i,i<N.devices.length→0≤(N.devices.getD i DevV.zero).vtep
theorem rfind_any (N:NV) (S:NSl3) (dev v:Int) (w:World) (h:NRead w (allB w) N S):Calls Tryz.prog 20 #[netV S,.int .i64 dev,.int .i64 v] w fun e w'=>e=.returned (.int .i64 (fdF N dev v))∧Below w.heap.size w w':=by
 have H:=hid h.dm;have hle:=h.dm.le;have hcap:=h.dm.cap;have HL:=hid h.dm.len;have E:=hid (show fdF N dev v=fdK (N.domains.drop 0) dev v 0 from rfl);generalize fdF N dev v=V at *;have NB:=hid (NBox.new w S 31);clear h;unfold netV
 go_enter Tryz.func20,Tryz.ntmps20
 go_wp2;obtain ⟨w1,hw1⟩:∃w1,w.alloc (.cells (nA S) 31)=w1:=⟨_,rfl⟩;have B1:=hid (show Below w.heap.size w w1 by rw [←hw1];exact (Below.refl _ _).alloc (Nat.le_refl _) _);rw [hw1] at NB ⊢;clear hw1;have c3:=NB.out.c3
 go_loopw [7] (fun i wr=>∃k:Nat,i=.int .i64 k∧k≤S.dm.n∧wr=w1∧V=fdK (N.domains.drop k) dev v k) (fun i _=>match i with| .int _ y=>(S.dm.n - y).toNat|_=>0)
 case atStart=>exact ⟨0,rfl,by omega,rfl,E.out⟩
 case round=>
  obtain ⟨k,rfl,hk,hwr,hv⟩:=hrel;subst hwr;have HV:=hid hv;clear hv
  by_cases hlt:k<S.dm.n
  rotate_left
  · have lt2:¬(k:Int)<(S.dm.n:Int):=by omega
    have EV:=hid (show V= -1 by rw [HV.out,List.drop_of_length_le (by rw [HL.out];omega)];rfl);go_wp2;go_ret;exact ⟨by rw [EV.out];rfl,B1.out⟩
  obtain ⟨b0,o0,vs,e0,_,hb0,⟨s,rfl,_⟩,r0⟩:=rsl_at H.out k hlt DomV.zero
  have hk2:k<N.domains.length:=by rw [HL.out];exact hlt
  have AT:=hid (fdK_at hk2 dev v);generalize N.domains.getD k DomV.zero=D at *;have R1:=rangeAt_keep r0 (B1.out.block b0 hb0);have d0:=R1 0 _ rfl;have d2:=R1 2 _ rfl;simp only [Nat.add_zero] at d0;rw [show o0+k * domR.n=o0+k * 6 from rfl] at d0 d2
  have lt2:(k:Int)<(S.dm.n:Int):=by omega
  rw [e0] at c3 ⊢;clear r0 R1 hk2
  by_cases h0:D.dev=dev
  rotate_left
  · have x0:(D.dev == dev)=false:=by simpa using h0
    have EV:=hid (show V=fdK (N.domains.drop (k+1)) dev v (k+1) by rw [HV.out,AT.out,if_neg (fun g=>h0 g.1)]);clear h0;go_wp2
    go_roundw
    case rel=>exact ⟨k+1,by simp,by omega,(by first|rfl|trivial),EV.out⟩
    case measure=>simp only [];omega
  have x0:(D.dev == dev)=true:=by simpa using h0
  by_cases h1:D.vni=v
  rotate_left
  · have x1:(D.vni == v)=false:=by simpa using h1
    have EV:=hid (show V=fdK (N.domains.drop (k+1)) dev v (k+1) by rw [HV.out,AT.out,if_neg (fun g=>h1 g.2.1)]);clear h0 h1;go_wp2
    go_roundw
    case rel=>exact ⟨k+1,by simp,by omega,(by first|rfl|trivial),EV.out⟩
    case measure=>simp only [];omega
  have x1:(D.vni == v)=true:=by simpa using h1
  by_cases h2:v≠0
  rotate_left
  · have x2:(v != 0)=false:=by simpa using h2
    have EV:=hid (show V=fdK (N.domains.drop (k+1)) dev v (k+1) by rw [HV.out,AT.out,if_neg (fun g=>h2 g.2.2)]);clear h0 h1 h2;go_wp2
    go_roundw
    case rel=>exact ⟨k+1,by simp,by omega,(by first|rfl|trivial),EV.out⟩
    case measure=>simp only [];omega
  have x2:(v != 0)=true:=by simpa using h2
  have EV:=hid (show V=(k:Int) by rw [HV.out,AT.out,if_pos ⟨h0,h1,h2⟩]);clear h0 h1 h2;go_wp2;go_ret;exact ⟨by rw [EV.out];rfl,B1.out⟩
theorem rowner_any (N:NV) (S:NSl3) (a:Int) (w:World) (h:NRead w (allB w) N S):Calls Tryz.prog 32 #[netV S,.int .u32 a] w fun e w'=>e=.returned (.int .i64 (owF N a))∧Below w.heap.size w w':=by
 have H:=hid h.dv;have hle:=h.dv.le;have hcap:=h.dv.cap;have HL:=hid h.dv.len;have E:=hid (show owF N a=owK (N.devices.drop 0) a 0 from rfl);generalize owF N a=V at *;have NB:=hid (NBox.new w S 31);clear h;unfold netV
 go_enter Tryz.func32,Tryz.ntmps32
 go_wp2;obtain ⟨w1,hw1⟩:∃w1,w.alloc (.cells (nA S) 31)=w1:=⟨_,rfl⟩;have B1:=hid (show Below w.heap.size w w1 by rw [←hw1];exact (Below.refl _ _).alloc (Nat.le_refl _) _);rw [hw1] at NB ⊢;clear hw1;have c3:=NB.out.c0
 go_loopw [5] (fun i wr=>∃k:Nat,i=.int .i64 k∧k≤S.dv.n∧wr=w1∧V=owK (N.devices.drop k) a k) (fun i _=>match i with| .int _ y=>(S.dv.n - y).toNat|_=>0)
 case atStart=>exact ⟨0,rfl,by omega,rfl,E.out⟩
 case round=>
  obtain ⟨k,rfl,hk,hwr,hv⟩:=hrel;subst hwr;have HV:=hid hv;clear hv
  by_cases hlt:k<S.dv.n
  rotate_left
  · have lt2:¬(k:Int)<(S.dv.n:Int):=by omega
    have EV:=hid (show V= -1 by rw [HV.out,List.drop_of_length_le (by rw [HL.out];omega)];rfl);go_wp2;go_ret;exact ⟨by rw [EV.out];rfl,B1.out⟩
  obtain ⟨b0,o0,vs,e0,_,hb0,hvs,r0⟩:=rsl_at H.out k hlt DevV.zero;have hvs:vs=devC (N.devices.getD k DevV.zero):=hvs;subst hvs
  have hk2:k<N.devices.length:=by rw [HL.out];exact hlt
  have AT:=hid (owK_at hk2 a);generalize N.devices.getD k DevV.zero=D at *;have R1:=rangeAt_keep r0 (B1.out.block b0 hb0);have d4:=R1 4 _ rfl;rw [show o0+k * devR.n=o0+k * 5 from rfl] at d4
  have lt2:(k:Int)<(S.dv.n:Int):=by omega
  rw [e0] at c3 ⊢;clear r0 R1 hk2
  by_cases h0:D.vtep=a
  rotate_left
  · have x0:(D.vtep == a)=false:=by simpa using h0
    have EV:=hid (show V=owK (N.devices.drop (k+1)) a (k+1) by rw [HV.out,AT.out,if_neg (fun g=>h0 g)]);clear h0;go_wp2
    go_roundw
    case rel=>exact ⟨k+1,by simp,by omega,(by first|rfl|trivial),EV.out⟩
    case measure=>simp only [];omega
  have x0:(D.vtep == a)=true:=by simpa using h0
  have EV:=hid (show V=(k:Int) by rw [HV.out,AT.out,if_pos h0]);clear h0;go_wp2;go_ret;exact ⟨by rw [EV.out];rfl,B1.out⟩
theorem rlist19_any (N:NV) (S:NSl3) (dev v:Int) (w:World) (h:NRead w (allB w) N S):Calls Tryz.prog 39 #[netV S,.int .i64 dev,.int .i64 v] w fun e w'=>e=.returned (.int .i64 (lsF N dev v))∧Below w.heap.size w w':=by
 have H:=hid h.fl;have hle:=h.fl.le;have hcap:=h.fl.cap;have HL:=hid h.fl.len;have E:=hid (show lsF N dev v=lsK (N.floods.drop 0) dev v 0 from rfl);generalize lsF N dev v=V at *;have NB:=hid (NBox.new w S 31);clear h;unfold netV
 go_enter Tryz.func39,Tryz.ntmps39
 go_wp2;obtain ⟨w1,hw1⟩:∃w1,w.alloc (.cells (nA S) 31)=w1:=⟨_,rfl⟩;have B1:=hid (show Below w.heap.size w w1 by rw [←hw1];exact (Below.refl _ _).alloc (Nat.le_refl _) _);rw [hw1] at NB ⊢;clear hw1;have c3:=NB.out.c5
 go_loopw [7] (fun i wr=>∃k:Nat,i=.int .i64 k∧k≤S.fl.n∧wr=w1∧V=lsK (N.floods.drop k) dev v k) (fun i _=>match i with| .int _ y=>(S.fl.n - y).toNat|_=>0)
 case atStart=>exact ⟨0,rfl,by omega,rfl,E.out⟩
 case round=>
  obtain ⟨k,rfl,hk,hwr,hv⟩:=hrel;subst hwr;have HV:=hid hv;clear hv
  by_cases hlt:k<S.fl.n
  rotate_left
  · have lt2:¬(k:Int)<(S.fl.n:Int):=by omega
    have EV:=hid (show V= -1 by rw [HV.out,List.drop_of_length_le (by rw [HL.out];omega)];rfl);go_wp2;go_ret;exact ⟨by rw [EV.out];rfl,B1.out⟩
  obtain ⟨b0,o0,vs,e0,_,hb0,⟨s,rfl,_⟩,r0⟩:=rsl_at H.out k hlt FloodV.zero
  have hk2:k<N.floods.length:=by rw [HL.out];exact hlt
  have AT:=hid (lsK_at hk2 dev v);generalize N.floods.getD k FloodV.zero=D at *;have R1:=rangeAt_keep r0 (B1.out.block b0 hb0);have d1:=R1 1 _ rfl;have d2:=R1 2 _ rfl;rw [show o0+k * floodR.n=o0+k * 4 from rfl] at d1 d2
  have lt2:(k:Int)<(S.fl.n:Int):=by omega
  rw [e0] at c3 ⊢;clear r0 R1 hk2
  by_cases h0:D.dev=dev
  rotate_left
  · have x0:(D.dev == dev)=false:=by simpa using h0
    have EV:=hid (show V=lsK (N.floods.drop (k+1)) dev v (k+1) by rw [HV.out,AT.out,if_neg (fun g=>h0 g.1)]);clear h0;go_wp2
    go_roundw
    case rel=>exact ⟨k+1,by simp,by omega,(by first|rfl|trivial),EV.out⟩
    case measure=>simp only [];omega
  have x0:(D.dev == dev)=true:=by simpa using h0
  by_cases h1:D.vni=v
  rotate_left
  · have x1:(D.vni == v)=false:=by simpa using h1
    have EV:=hid (show V=lsK (N.floods.drop (k+1)) dev v (k+1) by rw [HV.out,AT.out,if_neg (fun g=>h1 g.2)]);clear h0 h1;go_wp2
    go_roundw
    case rel=>exact ⟨k+1,by simp,by omega,(by first|rfl|trivial),EV.out⟩
    case measure=>simp only [];omega
  have x1:(D.vni == v)=true:=by simpa using h1
  have EV:=hid (show V=(k:Int) by rw [HV.out,AT.out,if_pos ⟨h0,h1⟩]);clear h0 h1;go_wp2;go_ret;exact ⟨by rw [EV.out];rfl,B1.out⟩
theorem rhas19_any (A:Option Addr) (n c:Nat) (xs:List Int) (x:Int) (w:World) (h:ISl w .u32 A n c xs):Calls Tryz.prog 40 #[.slice A n c,.int .u32 x] w fun e w'=>e=.returned (.bool (memB xs x))∧w=w':=by
 have hle:=h.le;have hcap:=h.cap;have HL:=hid h.len;have H:=hid h;have E1:=hid (show x∈xs→memB xs x=true from fun hx=>decide_eq_true hx);have E0:=hid (show x∉xs→memB xs x=false from fun hx=>decide_eq_false hx);generalize memB xs x=V at *;clear h
 go_enter Tryz.func40,Tryz.ntmps40
 go_wp2
 go_loopw [5] (fun i wr=>∃k:Nat,i=.int .i64 k∧k≤n∧wr=w∧x∉xs.take k) (fun i _=>match i with| .int _ y=>(n - y).toNat|_=>0)
 case atStart=>exact ⟨0,rfl,by omega,rfl,by simp⟩
 case round=>
  obtain ⟨k,rfl,hk,rfl,hx⟩:=hrel;have HX:=hid hx;clear hx
  by_cases hlt:k<n
  · obtain ⟨b,off,rfl,hb,hc⟩:=H.out.2.2.2 (by omega)
    have c0:=hc k hlt
    have hk2:k<xs.length:=by rw [HL.out];exact hlt
    have NX:=hid (fun hy=>memB_take hk2 HX.out hy);have YX:=hid (show xs.getD k 0=x→x∈xs from fun e=>by rw [←e];simp [List.getD,hk2]);generalize xs.getD k 0=y at *
    have lt2:(k:Int)<(n:Int):=by omega
    clear hc hk2
    by_cases hy:y=x
    · have ev:=E1.out (YX.out hy)
      have ey:(y == x)=true:=by simpa using hy
      subst ev;go_wp2;go_ret;exact ⟨rfl,rfl⟩
    · have ey:(y == x)=false:=by simpa using hy
      have N2:=hid (NX.out hy);go_wp2
      go_roundw
      case rel=>exact ⟨k+1,by simp,by omega,(by first|rfl|trivial),N2.out⟩
      case measure=>simp only [];omega
  · have ev:=E0.out (by have:=HX.out;rwa [List.take_of_length_le (by rw [HL.out];omega)] at this)
    have lt2:¬(k:Int)<(n:Int):=by omega
    subst ev;go_wp2;go_ret;exact ⟨rfl,rfl⟩
open Go
section
variable {P:Program} {ops:Array Oper} {Q:Exit→Act→World→Prop}
def leftI (d:Nat→Bool):Nat→Nat
 |0=>0
 |n+1=>leftI d n+if d n then 0 else 1
theorem leftI_set (d:Nat→Bool) (j:Nat) (hj:d j=false):∀n,leftI (fun i=>i == j || d i) n+(if j<n then 1 else 0)=leftI d n
 |0=>by simp [leftI]
 |n+1=>by
  have ih:=leftI_set d j hj n
  change leftI (fun i=>i == j || d i) n+(if (n == j || d n)=true then 0 else 1)+(if j<n+1 then 1 else 0)=leftI d n+(if d n=true then 0 else 1)
  by_cases h:n=j
  · subst h
    rw [if_neg (Nat.lt_irrefl n)] at ih;rw [hj,if_pos (by simp),if_pos (Nat.lt_succ_self n),if_neg (by simp)];omega
  · have e:(n == j)=false:=by simpa using h
    rw [e,Bool.false_or]
    by_cases h2:j<n
    · rw [if_pos h2] at ih
      rw [if_pos (show j<n+1 by omega)];omega
    · rw [if_neg h2] at ih
      rw [if_neg (show ¬j<n+1 by omega)];omega
theorem leftI_zero (d:Nat→Bool):∀n,leftI d n=0→∀j,j<n→d j=true
 |0,_,j,hj=>absurd hj (by omega)
 |n+1,h,j,hj=>by
  unfold leftI at h
  by_cases e:j=n
  · subst e
    cases hd:d j with
    |true=>rfl
    |false=>rw [hd] at h;simp at h
  · exact leftI_zero d n (by omega) j (by omega)
def RunI (P:Program) (K:Value→World→Prop):Result Next→Prop
 | .ok (.value u) w'=>K u w'
 | .ok .skip w'=>K undef w'
 | .ok (.enter f args) w'=>Calls P f args w' fun e w''=>∃v,e=.returned v∧K v w''
 |_=>False
def StepI (P:Program) (ops:Array Oper) (o:Oper) (a:Act) (w:World) (K:Value→World→Prop):Prop:=
 (Region.wanted o (yielded ops a.tmps)=true∧RunI P K ((execOp a.eval o).run P w))∨(Region.wanted o (yielded ops a.tmps)=false∧K undef w)
theorem StepI.wpOp {i:Nat} {o:Oper} {a:Act} (hi:ops[i]?=some o) {w:World} {K:Act→World→Prop} (h:StepI P ops o a w (fun v w'=>K (a.put o.dst v) w')):wpOp P ops Q i K a w:=by
 unfold Go.wpOp;simp only [hi]
 rcases h with ⟨hw,hr⟩|⟨hw,hr⟩
 · simp only [hw,if_true]
   left
   unfold Oper.wp;generalize (execOp a.eval o).run P w=r at hr ⊢
   cases r with
   |ok n w'=>
    cases n with
    |value u=>exact hr
    |skip=>exact hr
    |enter f args=>exact Calls.mono (show Calls P f args w' _ from hr) fun e w'' ⟨v,he,hs⟩=>by subst he;exact hs
    |_=>exact (show False from hr).elim
   |halt x w'=>exact (show False from hr).elim
 · simp only [hw,Bool.false_eq_true,if_false]
   exact hr
theorem ready_nilI (hck:textOk .any ops=true) {listed:Array Bool} (hl:listed.size=ops.size) (h:Region.ready .any ops listed=[]):∀j,j<ops.size→listed.getD j false=true:=by
 unfold textOk at hck;simp only [Bool.and_eq_true,List.all_eq_true,List.mem_range] at hck;intro j
 induction j using Nat.strongRecOn with
 |ind j ih=>
  intro hj
  cases hd:listed.getD j false with
  |true=>rfl
  |false=>
   have hr:j∈Region.ready .any ops (upto ops.size j):=by simpa using (hck.2 j hj).2
   obtain ⟨_,o,ho,ha⟩:=mem_ready.1 hr
   have hin:j∈Region.ready .any ops listed:=mem_ready.2 ⟨by
    have hjl:j<listed.size:=by omega
    simp [hjl] at hd ⊢
    exact hd,o,ho,fun e he hb=>by
    have h1:=ha e he hb
    have h2:e.on<j:=by
     unfold upto at h1
     by_cases g:e.on<ops.size
     · simpa [g] using h1
     · simp [g] at h1
    exact ih e.on h2 (by omega)⟩
   rw [h] at hin
   cases hin
theorem wpAny_inv (Inv:(Nat→Bool)→Act→World→Prop) (hck:textOk .any ops=true)
 (hstep:∀d a w j o,Inv d a w→ops[j]?=some o→d j=false→(∀i,(o.after.any fun e=>e.on == i && Region.binds .any e)=true→d i=true)→StepI P ops o a w (fun v w'=>Inv (fun i=>i == j || d i) (a.put o.dst v) w'))
 (hend:∀d a w,Inv d a w→(∀j,j<ops.size→d j=true)→Q .normal a w):
 ∀(fuel:Nat) (listed:Array Bool) (a:Act) (w:World),listed.size=ops.size→leftI (fun i=>listed.getD i false) ops.size≤fuel→Inv (fun i=>listed.getD i false) a w→wpAny P .any ops Q fuel listed a w:=by
 intro fuel
 induction fuel with
 |zero=>
  intro listed a w hs hf hI;have hall:=leftI_zero _ _ (Nat.le_zero.1 hf);refine ⟨?_,hend _ _ _ hI hall⟩;rw [List.eq_nil_iff_forall_not_mem];intro j hj;obtain ⟨h0,o,ho,_⟩:=mem_ready.1 hj;have hlt:=(Array.getElem?_eq_some_iff.1 ho).1
  have:=hall j hlt
  have hjl:j<listed.size:=by omega
  simp [hjl] at this h0;rw [this] at h0
  cases h0
 |succ fuel ih=>
  intro listed a w hs hf hI;refine ⟨fun hr=>hend _ _ _ hI (ready_nilI hck hs hr),fun j hj=>?_⟩;obtain ⟨h0,o,ho,ha⟩:=mem_ready.1 hj;have hlt:=(Array.getElem?_eq_some_iff.1 ho).1
  have hjl:j<listed.size:=by omega
  have hd:(fun i=>listed.getD i false) j=false:=by
   simp [hjl] at h0 ⊢;exact h0
  have hfn:(fun i=>(listed.setIfInBounds j true).getD i false)=(fun i=>i == j || listed.getD i false):=by
   funext i
   by_cases e:i=j
   · subst e;simp [hjl]
   · rw [getD_set_ne false (fun g=>e g.symm)]
     have:(i == j)=false:=by simpa using e
     rw [this]
     rfl
  refine StepI.wpOp ho ?_
  have hst:=hstep _ a w j o hI ho hd (fun i hi=>by
   obtain ⟨e,he,hb⟩:=Array.any_eq_true'.1 hi;simp only [Bool.and_eq_true,beq_iff_eq] at hb;rw [←hb.1]
   exact ha e he hb.2)
  have hK:∀v w',Inv (fun i=>i == j || listed.getD i false) (a.put o.dst v) w'→wpAny P .any ops Q fuel (listed.setIfInBounds j true) (a.put o.dst v) w':=fun v w' h=>by
   refine ih _ _ _ (by simpa using hs) ?_ (by rw [hfn];exact h);rw [hfn]
   have:=leftI_set (fun i=>listed.getD i false) j hd ops.size
   rw [if_pos hlt] at this;omega
  rcases hst with ⟨hw,hr⟩|⟨hw,hr⟩
  · refine .inl ⟨hw,?_⟩
    generalize (execOp a.eval o).run P w=r at hr ⊢
    cases r with
    |ok n w'=>
     cases n with
     |value u=>exact hK _ _ hr
     |skip=>exact hK _ _ hr
     |enter f args=>exact Calls.mono (show Calls P f args w' _ from hr) fun e w'' ⟨v,he,hs⟩=>⟨v,he,hK _ _ hs⟩
     |_=>exact (show False from hr).elim
    |halt x w'=>exact (show False from hr).elim
  · exact .inr ⟨hw,hK _ _ hr⟩
theorem leftI_none:∀n,leftI (fun _=>false) n=n
 |0=>rfl
 |n+1=>by unfold leftI;rw [leftI_none n];simp
theorem wp_region_inv {l:List Oper} {id:Nat} {a:Act} {w:World} (Inv:(Nat→Bool)→Act→World→Prop) (hm:P.follows .mixedOrders=true) (hck:textOk .any l.toArray=true) (h0:Inv (fun _=>false) a w.drew)
 (hstep:∀d a w j o,Inv d a w→l[j]?=some o→d j=false→(∀i,(o.after.any fun e=>e.on == i && Region.binds .any e)=true→d i=true)→StepI P l.toArray o a w (fun v w'=>Inv (fun i=>i == j || d i) (a.put o.dst v) w'))
 (hend:∀d a w,Inv d a w→(∀j,j<l.length→d j=true)→Q .normal a w):(Code.region id l.toArray true).wp P Q a w:=by
 have hfn:(fun i=>(Array.replicate l.toArray.size false).getD i false)=(fun _=>false):=by
  funext i
  by_cases h:i<l.length<;>simp [h]
 refine wp_region_any hm (wpAny_inv Inv hck (fun d a w j o hI ho hd hdep=>hstep d a w j o hI (by simpa using ho) hd hdep) (fun d a w hI hall=>hend d a w hI (by simpa using hall)) _ _ _ _ (by simp) (by rw [hfn,leftI_none];exact Nat.le_refl _) (by rw [hfn];exact h0))
end
theorem lread_below {w w':World} {M:LV} {t1 t2 t3 t4:SlV} (h:LRead w M t1 t2 t3 t4) (hb:Below w.heap.size w w'):LRead w' M t1 t2 t3 t4:=⟨h.1.below hb,h.2.1.below hb,h.2.2.1.below hb,h.2.2.2.below hb⟩
open Go.Lib (decDigits)
theorem risA_in {xs:List Int} (h:risA xs=true) (hb:∀x∈xs,0≤x∧x<4294967296):risIn xs 0 4294967295=true∧0<xs.getD 0 0:=by
 unfold risA at h;rw [Bool.and_eq_true,Bool.and_eq_true,decide_eq_true_eq,decide_eq_true_eq] at h
 cases xs with
 |nil=>exact absurd h.2.1 (by simp)
 |cons x r=>
  have h1:(decide (0<x) && upA x r)=true:=h.1;rw [Bool.and_eq_true,decide_eq_true_eq,upA_upB] at h1;refine ⟨?_,h1.1⟩;unfold risIn risB;rw [decide_eq_true h.2.1,decide_eq_true h.2.2,h1.2];simp only [Bool.and_true,Bool.true_and]
  refine List.all_eq_true.2 fun y hy=>?_
  have:=hb y hy
  rw [Bool.and_eq_true,decide_eq_true_eq,decide_eq_true_eq];omega
theorem may8_of {a:Int} (h:mayB 8 {WV.zero with addr:=a}=true):a≠0:=by
 rw [may_plain rfl] at h;have h2:(!decide (a=0))=true:=h;simpa using h2
theorem may12_of {xs:List Int} (h:mayB 12 {WV.zero with addrs:=xs}=true):risA xs=true:=by
 rw [may_plain rfl] at h;exact h
theorem rg_kd5 {L:LV} (h:rgB L=true) (k:L.kind=5) (ha:0≤L.addr∧L.addr<4294967296):Kd5 L.row L:=by
 have hp:pts L.kind true=[(0,0),(8,10)]:=by rw [k];rfl
 have h1:=(rgB_yes h).2;rw [hp] at h1;obtain ⟨a1,h1⟩:=rg_of h1;obtain ⟨a2,h1⟩:=rg_of h1;obtain ⟨f0,f1,f2,f3,f4,f5,f6,f7,f8,f9,f10,f11,f12,f13,f14,f15,f16⟩:=L;dsimp only at k ha;subst k
 have h2:({(⟨f0,5,f2,f3,f4,f5,f6,f7,f8,f9,f10,f11,f12,f13,f14,f15,f16⟩:LV) with dev:=[],addr:=0}:LV)=LV.new f0 5:=by injection h1
 simp only [LV.new,LV.mk.injEq] at h2;obtain ⟨_,_,_,rfl,rfl,rfl,rfl,rfl,_,rfl,rfl,rfl,rfl,rfl,rfl,rfl,rfl⟩:=h2;exact ⟨f2,f8,rfl,may0_of a1,by have q:f8≠0:=may8_of a2;omega⟩
theorem rg_kd6 {L:LV} (h:rgB L=true) (k:L.kind=6):Kd6 L.row L:=by
 have hp:pts L.kind true=[(0,0),(4,7),(6,6)]:=by rw [k];rfl
 have h1:=(rgB_yes h).2;rw [hp] at h1;obtain ⟨a1,h1⟩:=rg_of h1;obtain ⟨a2,h1⟩:=rg_of h1;obtain ⟨a3,h1⟩:=rg_of h1;obtain ⟨f0,f1,f2,f3,f4,f5,f6,f7,f8,f9,f10,f11,f12,f13,f14,f15,f16⟩:=L;dsimp only at k;subst k
 have h2:({(⟨f0,6,f2,f3,f4,f5,f6,f7,f8,f9,f10,f11,f12,f13,f14,f15,f16⟩:LV) with dev:=[],vlan:=0,num:=0}:LV)=LV.new f0 6:=by injection h1
 simp only [LV.new,LV.mk.injEq] at h2;obtain ⟨_,_,_,rfl,rfl,rfl,rfl,rfl,rfl,rfl,_,_,rfl,rfl,rfl,rfl,rfl⟩:=h2;exact ⟨f2,f10,f11,rfl,may0_of a1,may_num_of (w:=4) (lo:=1) (hi:=4094) rfl rfl a2,may_num_of (w:=6) (lo:=1) (hi:=16777215) rfl rfl a3⟩
theorem rg_kd7 {L:LV} (h:rgB L=true) (k:L.kind=7) (hx:∀x∈L.addrs,0≤x∧x<4294967296):Kd7 L.row L:=by
 have hp:pts L.kind true=[(0,0),(6,6),(12,15)]:=by rw [k];rfl
 have h1:=(rgB_yes h).2;rw [hp] at h1;obtain ⟨a1,h1⟩:=rg_of h1;obtain ⟨a2,h1⟩:=rg_of h1;obtain ⟨a3,h1⟩:=rg_of h1;obtain ⟨f0,f1,f2,f3,f4,f5,f6,f7,f8,f9,f10,f11,f12,f13,f14,f15,f16⟩:=L;dsimp only at k hx;subst k
 have h2:({(⟨f0,7,f2,f3,f4,f5,f6,f7,f8,f9,f10,f11,f12,f13,f14,f15,f16⟩:LV) with dev:=[],num:=0,addrs:=[]}:LV)=LV.new f0 7:=by injection h1
 simp only [LV.new,LV.mk.injEq] at h2;obtain ⟨_,_,_,rfl,rfl,rfl,rfl,rfl,rfl,rfl,rfl,_,rfl,rfl,rfl,rfl,_⟩:=h2;exact ⟨f2,f11,f16,rfl,may0_of a1,may_num_of (w:=6) (lo:=1) (hi:=16777215) rfl rfl a2,risA_in (may12_of a3) hx⟩
theorem vt_no {N:NV} {L:LV} (h:vtE N L≠0):vtN N L=NV.zero:=by unfold vtN;rw [if_neg h]
theorem fl_no {N:NV} {L:LV} (h:flE N L≠0):flN N L=NV.zero:=by unfold flN;rw [if_neg h]
theorem kd5_addr {N:NV} {L:LV} (h:fitsB N L 5=true) (ha:0≤L.addr∧L.addr<4294967296):L.addr≠0:=by
 obtain ⟨k,r,_⟩:=fits_iff.1 h;obtain ⟨s,a,e,_,g,_⟩:=rg_kd5 r k ha;rw [e]
 show a≠0
 omega
theorem fl_sz {N:NV} (row:Int) (d:Nat) (v:Int) {xs:List Int} (h:NvSz N) (hx:xs.length≤16) (z:N.floods.length<48):NvSz (withFlood N row d v xs):=by
 refine ⟨h.zdv,h.zpt,h.zlk,h.zdm,h.zst,by rw [fl_len];omega,h.zvr,h.zir,h.ipt,h.idm,fun j hj=>?_,h.ivr⟩;rw [fl_len] at hj
 by_cases ho:j<N.floods.length
 · rw [show (withFlood N row d v xs).floods.getD j FloodV.zero=N.floods.getD j FloodV.zero from getD_old ho]
   exact h.ifl j ho
 · obtain rfl:j=N.floods.length:=by omega
   have e:(withFlood N row d v xs).floods.getD N.floods.length FloodV.zero=⟨row,d,v,xs⟩:=by
    show (N.floods++[_]).getD _ _=_
    have:=getD_new (xs:=N.floods) (ys:=[(⟨row,d,v,xs⟩:FloodV)]) (j:=0) (d:=FloodV.zero)
    rw [Nat.add_zero] at this;rw [this]
    rfl
   rw [e]
   show xs.length≤100
   omega
end Go.Proofs.YtgmflecelnefcaaGreat
