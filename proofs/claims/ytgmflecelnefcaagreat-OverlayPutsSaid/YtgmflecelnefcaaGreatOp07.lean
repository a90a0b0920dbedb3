import Derived.Test.YtgmflecelnefcaaGreatOp02
import Derived.Test.YtgmflecelnefcaaGreatOp06
import Derived.Test.YtgmflecelnefcaaGreatOp04
import Derived.StillTail
import Derived.Deep.DeepCutAuto
import Derived.RegionTactic
set_option maxRecDepth 100000
set_option maxHeartbeats 40000000
namespace Go.Proofs.YtgmflecelnefcaaGreat
open Go.Lib (hid)
open Go.RowKit
theorem vAu {k:IntKind} {w:World} {F:Nat→Prop} {A:Option Addr} {n c:Nat} {xs:List Int} (h:RSl (Rdr.int k) w F A n c xs):ISl w k A n c xs:=
 ⟨h.1,h.2.1,h.2.2.1,fun hn=>by
   obtain ⟨b,off,e,_,hl,hc⟩:=h.2.2.2.2 hn;refine ⟨b,off,e,hl,fun j hj=>?_⟩
   have hlt:j<xs.length:=by rw [h.1];exact hj
   obtain ⟨vs,rfl,h2⟩:=hc j xs[j] (List.getElem?_eq_getElem hlt);have h3:=h2 0 (.int k xs[j]) rfl;rw [show off+j * (Rdr.int k).n+0=off+j by show off+j * 1+0=off+j;omega] at h3;rw [h3]
   simp [List.getD,hlt]⟩
structure NBox (w:World) (q:Nat) (S:NSl3):Prop where
 c0:w.cell? ⟨q,0,none⟩=some (.slice S.dv.A S.dv.n S.dv.c)
 c1:w.cell? ⟨q,1,none⟩=some (.slice S.pt.A S.pt.n S.pt.c)
 c2:w.cell? ⟨q,2,none⟩=some (.slice S.lk.A S.lk.n S.lk.c)
 c3:w.cell? ⟨q,3,none⟩=some (.slice S.dm.A S.dm.n S.dm.c)
 c4:w.cell? ⟨q,4,none⟩=some (.slice S.st.A S.st.n S.st.c)
 c5:w.cell? ⟨q,5,none⟩=some (.slice S.fl.A S.fl.n S.fl.c)
 c6:w.cell? ⟨q,6,none⟩=some (.slice S.vr.A S.vr.n S.vr.c)
 c7:w.cell? ⟨q,7,none⟩=some (.slice S.ir.A S.ir.n S.ir.c)
 lt:q<w.heap.size
theorem NBox.new (w:World) (S:NSl3) (T:TypeId):NBox (w.alloc (.cells (nA S) T)) w.heap.size S:=by
 constructor<;>simp
theorem NBox.below {w w':World} {q:Nat} {S:NSl3} (h:NBox w q S) (hb:Below w.heap.size w w'):NBox w' q S:=
 ⟨(hb.cell (p:=⟨q,0,none⟩) h.lt).trans h.c0,(hb.cell (p:=⟨q,1,none⟩) h.lt).trans h.c1,(hb.cell (p:=⟨q,2,none⟩) h.lt).trans h.c2,(hb.cell (p:=⟨q,3,none⟩) h.lt).trans h.c3,(hb.cell (p:=⟨q,4,none⟩) h.lt).trans h.c4,(hb.cell (p:=⟨q,5,none⟩) h.lt).trans h.c5,(hb.cell (p:=⟨q,6,none⟩) h.lt).trans h.c6,(hb.cell (p:=⟨q,7,none⟩) h.lt).trans h.c7,Nat.lt_of_lt_of_le h.lt hb.size⟩
def plB (i m:Int):Bool:=decide (0≤i) && decide (i<m)
theorem vBb (i m:Int):plB i m=true↔0≤i∧i<m:=by unfold plB;simp
theorem vBj (i m:Int) (w:World):Calls Tryz.prog 108 #[.int .i64 i,.int .i64 m] w fun e w'=>e=.returned (.bool (plB i m))∧w=w':=by
 unfold plB
 by_cases h0:0≤i
 · by_cases h1:i<m
   · have e:(decide (0≤i) && decide (i<m))=true:=by simp;omega
     rw [e]
     go_enter Tryz.func108,Tryz.ntmps108
     go_wp2;go_ret;exact ⟨rfl,rfl⟩
   · have e:(decide (0≤i) && decide (i<m))=false:=by simp;omega
     rw [e]
     go_enter Tryz.func108,Tryz.ntmps108
     go_wp2;go_ret;exact ⟨rfl,rfl⟩
 · have e:(decide (0≤i) && decide (i<m))=false:=by simp;omega
   rw [e]
   go_enter Tryz.func108,Tryz.ntmps108
   go_wp2;go_ret;exact ⟨rfl,rfl⟩
def memB (xs:List Int) (x:Int):Bool:=decide (x∈xs)
theorem memB_take {xs:List Int} {k:Nat} {x:Int} (h:k<xs.length) (ha:x∉xs.take k) (hx:xs.getD k 0≠x):x∉xs.take (k+1):=by
 rw [List.take_succ_eq_append_getElem h];intro hm
 rcases List.mem_append.1 hm with hm|hm
 · exact ha hm
 · have:=List.mem_singleton.1 hm
   exact hx (by rw [this];simp [List.getD,h])
theorem rin_any (A:Option Addr) (n c:Nat) (xs:List Int) (x:Int) (w:World) (h:ISl w .i64 A n c xs):Calls Tryz.prog 110 #[.slice A n c,.int .i64 x] w fun e w'=>e=.returned (.bool (memB xs x))∧w=w':=by
 have hle:=h.le;have hcap:=h.cap;have HL:=hid h.len;have H:=hid h;have E1:=hid (show x∈xs→memB xs x=true from fun hx=>decide_eq_true hx);have E0:=hid (show x∉xs→memB xs x=false from fun hx=>decide_eq_false hx);generalize memB xs x=V at *;clear h
 go_enter Tryz.func110,Tryz.ntmps110
 go_wp2
 go_loopw [5] (fun i wr=>∃k:Nat,i=.int .i64 k∧k≤n∧wr=w∧x∉xs.take k) (fun i _=>match i with| .int _ y=>(n - y).toNat|_=>0)
 case atStart=>exact ⟨0,rfl,by omega,rfl,by simp⟩
 case round=>
  obtain ⟨k,rfl,hk,rfl,hx⟩:=hrel;have HX:=hid hx;clear hx
  by_cases hlt:k<n
  · obtain ⟨b,off,rfl,hb,hc⟩:=H.out.2.2.2 (by omega)
    have c0:=hc k hlt
    have hk2:k<xs.length:=by rw [HL.out];exact hlt
    have NX:=hid (fun hy=>memB_take hk2 HX.out hy);have YX:=hid (show xs.getD k 0=x→x∈xs from fun e=>by rw [←e];simp [List.getD,hk2]);generalize xs.getD k 0=y at *
    have lt2:(k:Int)<(n:Int):=by omega
    clear hc hk2
    by_cases hy:y=x
    · have ev:=E1.out (YX.out hy)
      have ey:(y == x)=true:=by simpa using hy
      subst ev;go_wp2;go_ret;exact ⟨rfl,rfl⟩
    · have ey:(y == x)=false:=by simpa using hy
      have N2:=hid (NX.out hy);go_wp2
      go_roundw
      case rel=>exact ⟨k+1,by simp,by omega,(by first|rfl|trivial),N2.out⟩
      case measure=>simp only [];omega
  · have ev:=E0.out (by have:=HX.out;rwa [List.take_of_length_le (by rw [HL.out];omega)] at this)
    have lt2:¬(k:Int)<(n:Int):=by omega
    subst ev;go_wp2;go_ret;exact ⟨rfl,rfl⟩
def rsB (xs:List Int) (hi:Int):Bool:=decide (xs=[]) || vBs xs 1 hi
theorem vGh (A:Option Addr) (n c:Nat) (xs:List Int) (hi:Int) (w:World) (h:ISl w .i64 A n c xs):Calls Tryz.prog 111 #[.slice A n c,.int .i64 hi] w fun e w'=>e=.returned (.bool (rsB xs hi))∧Drew w w':=by
 have hl:=h.len
 by_cases hn:n=0
 · subst hn
   obtain rfl:xs=[]:=List.eq_nil_of_length_eq_zero hl;rw [show rsB [] hi=true by unfold rsB;simp];clear h hl
   go_enter Tryz.func111,Tryz.ntmps111
   go_wp2;go_ret;exact ⟨rfl,Drew.refl _⟩
 · have ne:((n:Int) == 0)=false:=by simp;omega
   rw [show rsB xs hi=vBs xs 1 hi by unfold rsB;rw [decide_eq_false (fun e=>by rw [e] at hl;exact hn hl.symm)];rfl];have R:=hid (vHo A n c xs 1 hi w h);clear h hl hn
   go_enter Tryz.func111,Tryz.ntmps111
   go_wp2_with (go_at_call 151;(with_reducible refine R.out.mono ?_);rintro e w1 ⟨rfl,hd⟩);go_ret;exact ⟨rfl,hd⟩
def mbrB (p:PortV) (v:Int):Bool:=decide (v≠0) && (decide (p.native=v) || memB p.tagged v)
theorem rmember_any (p:PortV) (s:Sl3) (v:Int) (w:World) (F:Nat→Prop) (hF:∀b,F b→b<w.heap.size) (h:RSl (Rdr.int .i64) w F s.A s.n s.c p.tagged):Calls Tryz.prog 112 #[.agg (portC p s).toArray,.int .i64 v] w fun e w'=>e=.returned (.bool (mbrB p v))∧Below w.heap.size w w':=by
 have IN:=hid (fun (w':World) (hb:Below w.heap.size w w')=>rin_any s.A s.n s.c p.tagged v w' (vAu (h.below hF hb)));unfold portC mbrB
 by_cases h0:v=0
 · have e:(decide (v≠0) && (decide (p.native=v) || memB p.tagged v))=false:=by rw [decide_eq_false (by simpa using h0)];rfl
   rw [e]
   have ne:(v != 0)=false:=by simpa using h0
   clear h h0 e
   go_enter Tryz.func112,Tryz.ntmps112
   go_wp2;go_ret;exact ⟨rfl,(Below.refl _ _).alloc (Nat.le_refl _) _⟩
 · have ne:(v != 0)=true:=by simpa using h0
   by_cases h1:p.native=v
   · have e:(decide (v≠0) && (decide (p.native=v) || memB p.tagged v))=true:=by rw [decide_eq_true h0,decide_eq_true h1];rfl
     rw [e]
     have ne2:(p.native == v)=true:=by simpa using h1
     clear h h0 e h1
     go_enter Tryz.func112,Tryz.ntmps112
     go_wp2;go_ret;exact ⟨rfl,(Below.refl _ _).alloc (Nat.le_refl _) _⟩
   · have e:(decide (v≠0) && (decide (p.native=v) || memB p.tagged v))=memB p.tagged v:=by rw [decide_eq_true h0,decide_eq_false h1];rfl
     rw [e]
     have ne2:(p.native == v)=false:=by simpa using h1
     generalize memB p.tagged v=V at *;clear h h0 e h1
     go_enter Tryz.func112,Tryz.ntmps112
     go_wp2_with (go_at_call 110;(with_reducible refine (IN.out _ ((Below.refl _ _).alloc (Nat.le_refl _) _)).mono ?_);rintro e w1 ⟨rfl,rfl⟩);go_ret;exact ⟨rfl,(Below.refl _ _).alloc (Nat.le_refl _) _⟩
def atK:List DomV→Int→Int→Nat→Int
 | [],_,_,_=> -1
 |d :: r,dev,v,k=>if d.dev=dev∧d.vlan=v then (k:Int) else atK r dev v (k+1)
def atF (N:NV) (dev v:Int):Int:=atK N.domains dev v 0
theorem atK_at {xs:List DomV} {k:Nat} (h:k<xs.length) (dev v:Int):atK (xs.drop k) dev v k=if (xs.getD k DomV.zero).dev=dev∧(xs.getD k DomV.zero).vlan=v then (k:Int) else atK (xs.drop (k+1)) dev v (k+1):=by
 rw [List.drop_eq_getElem_cons h,atK];simp [List.getD,h]
theorem rat_any (N:NV) (S:NSl3) (dev v:Int) (w:World) (h:NRead w (vAp w) N S):Calls Tryz.prog 37 #[vAm S,.int .i64 dev,.int .i64 v] w fun e w'=>e=.returned (.int .i64 (atF N dev v))∧Below w.heap.size w w':=by
 have H:=hid h.dm;have hle:=h.dm.le;have hcap:=h.dm.cap;have HL:=hid h.dm.len;have E:=hid (show atF N dev v=atK (N.domains.drop 0) dev v 0 from rfl);generalize atF N dev v=V at *;have NB:=hid (NBox.new w S 31);clear h;unfold vAm
 go_enter Tryz.func37,Tryz.ntmps37
 go_wp2;obtain ⟨w1,hw1⟩:∃w1,w.alloc (.cells (nA S) 31)=w1:=⟨_,rfl⟩;have B1:=hid (show Below w.heap.size w w1 by rw [←hw1];exact (Below.refl _ _).alloc (Nat.le_refl _) _);rw [hw1] at NB ⊢;clear hw1;have c3:=NB.out.c3
 go_loopw [7] (fun i wr=>∃k:Nat,i=.int .i64 k∧k≤S.dm.n∧wr=w1∧V=atK (N.domains.drop k) dev v k) (fun i _=>match i with| .int _ y=>(S.dm.n - y).toNat|_=>0)
 case atStart=>exact ⟨0,rfl,by omega,rfl,E.out⟩
 case round=>
  obtain ⟨k,rfl,hk,hwr,hv⟩:=hrel;subst hwr;have HV:=hid hv;clear hv
  by_cases hlt:k<S.dm.n
  · obtain ⟨b0,o0,vs,e0,_,hb0,⟨s,rfl,_⟩,r0⟩:=vAi H.out k hlt DomV.zero
    have hk2:k<N.domains.length:=by rw [HL.out];exact hlt
    have AT:=hid (atK_at hk2 dev v);generalize N.domains.getD k DomV.zero=D at *;have R1:=vAb r0 (B1.out.block b0 hb0);have d0:=R1 0 _ rfl;have d1:=R1 1 _ rfl;simp only [Nat.add_zero] at d0;rw [show o0+k * domR.n=o0+k * 6 from rfl] at d0 d1
    have lt2:(k:Int)<(S.dm.n:Int):=by omega
    rw [e0] at c3 ⊢;clear r0 R1 hk2
    by_cases hd:D.dev=dev
    · have x1:(D.dev == dev)=true:=by simpa using hd
      by_cases hv2:D.vlan=v
      · have x2:(D.vlan == v)=true:=by simpa using hv2
        have EV:=hid (show V=(k:Int) by rw [HV.out,AT.out,if_pos ⟨hd,hv2⟩]);clear hd hv2;go_wp2;go_ret;exact ⟨by rw [EV.out];rfl,B1.out⟩
      · have x2:(D.vlan == v)=false:=by simpa using hv2
        have EV:=hid (show V=atK (N.domains.drop (k+1)) dev v (k+1) by rw [HV.out,AT.out,if_neg (by intro g;exact hv2 g.2)]);go_wp2
        go_roundw
        case rel=>exact ⟨k+1,by simp,by omega,(by first|rfl|trivial),EV.out⟩
        case measure=>simp only [];omega
    · have x1:(D.dev == dev)=false:=by simpa using hd
      have EV:=hid (show V=atK (N.domains.drop (k+1)) dev v (k+1) by rw [HV.out,AT.out,if_neg (by intro g;exact hd g.1)]);go_wp2
      go_roundw
      case rel=>exact ⟨k+1,by simp,by omega,(by first|rfl|trivial),EV.out⟩
      case measure=>simp only [];omega
  · have lt2:¬(k:Int)<(S.dm.n:Int):=by omega
    have EV:=hid (show V= -1 by rw [HV.out,List.drop_of_length_le (by rw [HL.out];omega)];rfl);go_wp2;go_ret;exact ⟨by rw [EV.out];rfl,B1.out⟩
open Go
section
variable {P:Program} {ops:Array Oper} {Q:Exit→Act→World→Prop} {md:Region.Mode} {S:World→Prop} {n:Nat} {L:Array Bool→Act→Prop}
def DerT (P:Program) (md:Region.Mode) (ops:Array Oper) (S:World→Prop) (n:Nat) (L:Array Bool→Act→Prop):Nat→Array Bool→Act→Prop
 |0,listed,a=>L listed a
 |f+1,listed,a=>∃i oi v,ops[i]?=some oi∧i<n∧Region.free md ops listed i=true∧i∈Region.ready md ops listed∧StepS P ops S oi v a∧DerT P md ops S n L f (listed.setIfInBounds i true) (a.put oi.dst v)
theorem DerT.swap (hsel:∀(j:Nat) (o:Oper) cs b,ops[j]?=some o→o.op≠.select cs b) (hdone:∀listed a,L listed a→∀j∈Region.ready md ops listed,n≤j):∀(fuel:Nat) (listed:Array Bool) (a:Act),DerT P md ops S n L (fuel+1) listed a→
 ∀(j:Nat) (oj:Oper),ops[j]?=some oj→j<n→j∈Region.ready md ops listed→∃v,StepS P ops S oj v a∧DerT P md ops S n L fuel (listed.setIfInBounds j true) (a.put oj.dst v):=by
 intro fuel
 induction fuel with
 |zero=>
  intro listed a D j oj hoj hjn hj;obtain ⟨i,oi,v,hi,hin,hf,hr,hy,D'⟩:=D
  by_cases hij:j=i
  · subst hij
    rw [hi] at hoj
    cases hoj
    exact ⟨v,hy,D'⟩
  · have:=hdone _ _ D' j (ready_mono hj hij)
    omega
 |succ fuel ih=>
  intro listed a D j oj hoj hjn hj;obtain ⟨i,oi,v,hi,hin,hf,hr,hy,D'⟩:=D
  by_cases hij:j=i
  · subst hij
    rw [hi] at hoj
    cases hoj
    exact ⟨v,hy,D'⟩
  · obtain ⟨u,hyj,D2⟩:=ih _ _ D' j oj hoj hjn (ready_mono hj hij)
    obtain ⟨hjun,oj2,hoj2,hall⟩:=mem_ready.1 hj;rw [hoj] at hoj2
    cases hoj2
    have hnot:∀e∈oj.after,Region.binds md e=true→e.on≠i:=fun e he hb heq=>by
     have h1:=hall e he hb;have h0:=(mem_ready.1 hr).1;rw [heq] at h1
     rcases Nat.lt_or_ge i listed.size with h'|h'
     · simp [h'] at h0 h1;rw [h0] at h1;cases h1
     · simp [Array.getElem?_eq_none h'] at h1
    obtain ⟨h1,h2,h3⟩:=Oper.apart_spec (Region.free_spec hi hf j oj hoj hij hjun hnot)
    refine ⟨u,(StepS.of_put (hsel j oj · · hoj) h1).1 hyj,i,oi,v,hi,hin,vHd hf,ready_mono hr (Ne.symm hij),(StepS.of_put (hsel i oi · · hi) h3).2 hy,?_⟩
    rw [Array.setIfInBounds_comm _ _ hij,←Act.put_comm a v u h2];exact D2
theorem DerT.any {g:Nat} (hsel:∀(j:Nat) (o:Oper) cs b,ops[j]?=some o→o.op≠.select cs b) (hs:Region.sinkB md ops n=true) (hc:Region.chainB md ops n=true) (hn:n<ops.size) (hdone:∀listed a,L listed a→∀j∈Region.ready md ops listed,n≤j) (hL:∀listed a,L listed a→∀w,S w→wpAny P md ops Q g listed a w):
 ∀(f:Nat) (listed:Array Bool) (a:Act),HeadInv md ops n listed→DerT P md ops S n L f listed a→∀w,S w→wpAny P md ops Q (f+g) listed a w:=by
 intro f
 induction f with
 |zero=>intro listed a _ D w hS;rw [Nat.zero_add];exact hL _ _ D w hS
 |succ f ih=>
  intro listed a inv D w hS;rw [show f+1+g=(f+g)+1 by omega];have D0:=D;obtain ⟨i,oi,v,hi,hin,hf,hr,hy,D'⟩:=D0;refine ⟨fun h=>(by rw [h] at hr;cases hr),fun j hj=>?_⟩
  have hjn:j<n:=by
   rcases Nat.lt_or_ge j n with h|h
   · exact h
   · exact absurd hj (tail_waits hs hc hn inv _ i rfl hin (mem_ready.1 hr).1 j h)
  obtain ⟨_,oj,hoj,_⟩:=mem_ready.1 hj;obtain ⟨u,hyj,D2⟩:=DerT.swap hsel hdone f listed a D j oj hoj hjn hj;exact hyj.wpOp hoj hS (fun w' hS'=>ih _ _ (inv.set hj hjn) D2 w' hS')
def SeqT (P:Program) (ops:Array Oper) (Q:Exit→Act→World→Prop) (S:World→Prop) (tail:List Oper):List Oper→Act→Prop
 | [],a=>∀w,S w→wpList P ops Q tail a w
 |o :: rest,a=>∃v,StepS P ops S o v a∧SeqT P ops Q S tail rest (a.put o.dst v)
section
variable {tail:List Oper}
theorem SeqT.run {o:Oper} {rest:List Oper} {a:Act} (v:Value) (hw:Region.wanted o (yielded ops a.tmps)=true) (hr:∀w,S w→StepRun P S v ((execOp a.eval o).run P w)) (h:SeqT P ops Q S tail rest (a.put o.dst v)):
 SeqT P ops Q S tail (o :: rest) a:=⟨v,.inl ⟨hw,hr⟩,h⟩
theorem SeqT.last {a:Act} (h:∀w,S w→wpList P ops Q tail a w):SeqT P ops Q S tail [] a:=h
theorem SeqT.der {g:Nat}:∀(l:List Oper) (k:Nat) (listed:Array Bool) (a:Act),(∀j,j<l.length→l[j]?=ops[k+j]?)→k+l.length=n→
 Region.lexHead md ops g l.length k listed=true→SeqT P ops Q S tail l a→
 DerT P md ops S n (fun listed' a'=>Region.seqB md ops g n listed'=true∧∀w,S w→wpList P ops Q tail a' w) l.length listed a
 | [],k,listed,a,_,hk,hB,h=>by
   have:k=n:=by simpa using hk
   subst this;exact ⟨by simpa [Region.lexHead] using hB,h⟩
 |o :: l,k,listed,a,hl,hk,hB,h=>by
  have h0:ops[k]?=some o:=by simpa using (hl 0 (by simp)).symm
  simp only [List.length_cons,Region.lexHead,Bool.and_eq_true] at hB;obtain ⟨⟨hr,hf⟩,hB'⟩:=hB;obtain ⟨v,hy,hK⟩:=h
  exact ⟨k,o,v,h0,by simp only [List.length_cons] at hk;omega,hf,by simpa using hr,hy,
   SeqT.der l (k+1) _ _ (fun j hj=>by have:=hl (j+1) (by simp;omega);simpa [Nat.add_assoc,Nat.add_comm 1 j] using this) (by simp only [List.length_cons] at hk;omega) hB' hK⟩
end
theorem vGf {l:List Oper} {id:Nat} {a:Act} {w:World} (S:World→Prop) (n:Nat) (hm:P.follows .mixedOrders=true) (hB:Region.lexTailB .any l.toArray n=true) (hS:S w.drew) (h:SeqT P l.toArray Q S (l.drop n) (l.take n) a):(Code.region id l.toArray true).wp P Q a w:=by
 simp only [Region.lexTailB,Bool.and_eq_true,decide_eq_true_eq] at hB;obtain ⟨⟨⟨⟨hsel,hn⟩,hs⟩,hc⟩,hlex⟩:=hB
 have hn':n<l.length:=by simpa using hn
 have htl:(l.take n).length=n:=by simp;omega
 have hdl:(l.drop n).length=l.toArray.size - n:=by simp
 have inv0:HeadInv .any l.toArray n (Array.replicate l.toArray.size false):=
  ⟨by simp,fun j oj _ hl=>(by rw [getD_replicate_false] at hl;cases hl),fun t _ ht=>getD_in (by simpa using ht) (getD_replicate_false _ _)⟩
 have D:=SeqT.der (md:=.any) (g:=l.toArray.size - n) (n:=n) (l.take n) 0 _ a (fun j hj=>by
  have hj':j<n:=by rw [htl] at hj;exact hj
  simp [hj']) (by simpa using htl) (by rw [htl];exact hlex) h
 refine wp_region_any hm ?_
 have:=DerT.any (Q:=Q) (g:=l.toArray.size - n) (Region.noSelect_spec hsel) hs hc hn (fun listed' a' hL=>seqB_ready hL.1) (fun listed a' hL w' hS'=>by
  have:=wpAny_of_seq (md:=.any) (Q':=Q) (l.drop n) n listed a' w' (fun j=>by simp [List.getElem?_drop]) (by rw [hdl];exact hL.1) (hL.2 w' hS')
  rwa [hdl] at this) _ _ _ inv0 D w.drew hS
 rw [htl,show n+(l.toArray.size - n)=l.toArray.size by omega] at this;exact this
end
def vGx (N:NV) (i:Nat) (k:Int):Bool:=
 plB k (N.domains.length:Int) && (!decide (k=(i:Int)) && (decide ((N.domains.getD i DomV.zero).dev≠(N.domains.getD k.toNat DomV.zero).dev) && (decide ((N.domains.getD i DomV.zero).vni=(N.domains.getD k.toNat DomV.zero).vni) && (decide ((N.domains.getD i DomV.zero).vni≠0) &&
  (decide ((N.devices.getD (N.domains.getD i DomV.zero).dev.toNat DevV.zero).vtep≠0) && (decide ((N.devices.getD (N.domains.getD k.toNat DomV.zero).dev.toNat DevV.zero).vtep≠0) && memB (N.domains.getD k.toNat DomV.zero).peers (i:Int)))))))
structure DBox (w:World) (q:Nat) (D:DomV) (s:Sl3):Prop where
 c0:w.cell? ⟨q,0,none⟩=some (.int .i64 D.dev)
 c1:w.cell? ⟨q,1,none⟩=some (.int .i64 D.vlan)
 c2:w.cell? ⟨q,2,none⟩=some (.int .i64 D.vni)
 c3:w.cell? ⟨q,3,none⟩=some (.int .i64 D.irb)
 c4:w.cell? ⟨q,4,none⟩=some (.int .i64 D.row)
 c5:w.cell? ⟨q,5,none⟩=some (.slice s.A s.n s.c)
 lt:q<w.heap.size
theorem peerB_no1 {N:NV} {i:Nat} {k:Int} (h:plB k (N.domains.length:Int)=false):vGx N i k=false:=by unfold vGx;rw [h];rfl
theorem peerB_no2 {N:NV} {i:Nat} {k:Int} (h:k=(i:Int)):vGx N i k=false:=by unfold vGx;rw [decide_eq_true h,Bool.not_true,Bool.false_and,Bool.and_false]
theorem peerB_at {N:NV} {i x:Nat} (h:plB (x:Int) (N.domains.length:Int)=true) (hn:¬(x:Int)=(i:Int)):vGx N i (x:Int)=
 (decide ((N.domains.getD i DomV.zero).dev≠(N.domains.getD x DomV.zero).dev) && (decide ((N.domains.getD i DomV.zero).vni=(N.domains.getD x DomV.zero).vni) && (decide ((N.domains.getD i DomV.zero).vni≠0) &&
 (decide ((N.devices.getD (N.domains.getD i DomV.zero).dev.toNat DevV.zero).vtep≠0) && (decide ((N.devices.getD (N.domains.getD x DomV.zero).dev.toNat DevV.zero).vtep≠0) && memB (N.domains.getD x DomV.zero).peers (i:Int)))))):=by
 unfold vGx;rw [h,decide_eq_false hn]
 rfl
theorem peer_any (N:NV) (S:NSl3) (i:Nat) (k:Int) (w:World) (h:NRead w (vAp w) N S) (hi:i<N.domains.length) (hd:∀j,j<N.domains.length→plB (N.domains.getD j DomV.zero).dev (N.devices.length:Int)=true):
 Calls Tryz.prog 109 #[vAm S,.int .i64 (i:Int),.int .i64 k] w fun e w'=>e=.returned (.bool (vGx N i k))∧Below w.heap.size w w':=by
 have HD:=hid h.dm;have HV:=hid h.dv;have hle:=h.dm.le;have hcap:=h.dm.cap;have hle2:=h.dv.le;have hcap2:=h.dv.cap;have dml:=h.dm.len;have dvl:=h.dv.len;rw [dml] at hi hd;rw [dvl] at hd;have N1:=hid (@peerB_no1 N i k);have N2:=hid (@peerB_no2 N i k);have N3:=hid (fun x=>@peerB_at N i x);rw [dml] at N1 N3;have NB:=hid (NBox.new w S 31);have HDD:=hid hd;obtain ⟨V,hV⟩:∃V,vGx N i k=V:=⟨_,rfl⟩
 rw [hV] at N1 N2 ⊢;clear h hd dml dvl
 have PK:=fun w'=>vBj k (S.dm.n:Int) w'
 unfold vAm
 go_enter Tryz.func109,Tryz.ntmps109
 go_upto_region 1 with fail
 obtain ⟨w1,hw1⟩:∃w1,w.alloc (.cells (nA S) 31)=w1:=⟨_,rfl⟩;have B1:=hid (show Below w.heap.size w w1 by rw [←hw1];exact (Below.refl _ _).alloc (Nat.le_refl _) _);rw [hw1] at NB ⊢;clear hw1;have n0:=NB.out.c0;have n3:=NB.out.c3;have nl:=NB.out.lt
 cases hp:plB k (S.dm.n:Int) with
 |false=>
  rw [hp] at PK;have PK:=hid PK;have E:=hid (N1.out hp);clear hp;go_wp2_with (go_at_call 108;(with_reducible refine (PK.out _).mono ?_);rintro e wp ⟨rfl,hwp⟩;subst hwp);go_ret;exact ⟨by rw [E.out];rfl,B1.out⟩
 |true=>
 rw [hp] at PK;obtain ⟨a1,a2⟩:=(vBb _ _).1 hp;obtain ⟨x,hx⟩:=Int.eq_ofNat_of_zero_le a1
 have hxl:x<S.dm.n:=by omega
 subst hx;have E1:=hid (fun hn=>N3.out x hp hn);clear hp a1 a2 N3 N1;have PK:=hid PK;have E1:=hid (fun hn=>hV.symm.trans (E1.out hn));clear hV
 by_cases hki:x=i
 · have z:((x:Int) == (i:Int))=true:=by simp;omega
   have EV:=hid (N2.out (by omega));clear hki;go_wp2_with (go_at_call 108;(with_reducible refine (PK.out _).mono ?_);rintro e wp ⟨rfl,hwp⟩;subst hwp);go_ret;exact ⟨by rw [EV.out];rfl,B1.out⟩
 have z:((x:Int) == (i:Int))=false:=by simp;omega
 have E2:=E1.out (by omega);clear N2 E1;have HDI:=HDD.out i hi;have HDX:=HDD.out x hxl;obtain ⟨bp,op,vp,ep,_,hbp,⟨s,rfl,rs⟩,rp⟩:=vAi HD.out i hi DomV.zero;obtain ⟨bq,oq,vq,eq_,_,_,⟨t,rfl,rt⟩,rq⟩:=vAi HD.out x hxl DomV.zero;rw [ep] at eq_
 injection eq_ with eq_
 injection eq_ with h1 h2
 subst h1 h2;have RP:=vAb rp (B1.out.block bp hbp);have RQ:=vAb rq (B1.out.block bp hbp);generalize N.domains.getD i DomV.zero=D at *;generalize N.domains.getD x DomV.zero=E at *;obtain ⟨c1,c2⟩:=(vBb _ _).1 HDI;obtain ⟨c3,c4⟩:=(vBb _ _).1 HDX;obtain ⟨y,hy⟩:=Int.eq_ofNat_of_zero_le c1;obtain ⟨z2,hz⟩:=Int.eq_ofNat_of_zero_le c3
 have hyl:y<S.dv.n:=by omega
 have hzl:z2<S.dv.n:=by omega
 obtain ⟨bd,od,vd,ed,_,hbd,hvd,rd⟩:=vAi HV.out y hyl DevV.zero;obtain ⟨be,oe,ve,ee,_,_,hve,re⟩:=vAi HV.out z2 hzl DevV.zero;rw [ed] at ee
 injection ee with ee
 injection ee with h1 h2
 subst h1 h2;have hvd:vd=vGt (N.devices.getD y DevV.zero):=hvd;have hve:ve=vGt (N.devices.getD z2 DevV.zero):=hve;subst hvd hve;have RD:=vAb rd (B1.out.block bd hbd);have RE:=vAb re (B1.out.block bd hbd);rw [show D.dev.toNat=y by rw [hy];rfl,show E.dev.toNat=z2 by rw [hz];rfl] at E2;generalize N.devices.getD y DevV.zero=X at *;generalize N.devices.getD z2 DevV.zero=Y at *;have E3:=hid E2
 have v4:=RD 4 _ rfl;have u4:=RE 4 _ rfl;rw [show od+y * devR.n=od+y * 5 from rfl] at v4;rw [show od+z2 * devR.n=od+z2 * 5 from rfl] at u4;have a0:=RP 0 _ rfl;have b0:=RQ 0 _ rfl;have a1:=RP 1 _ rfl;have b1:=RQ 1 _ rfl;have a2:=RP 2 _ rfl;have b2:=RQ 2 _ rfl;have a3:=RP 3 _ rfl;have b3:=RQ 3 _ rfl;have a4:=RP 4 _ rfl;have b4:=RQ 4 _ rfl;have a5:=RP 5 _ rfl;have b5:=RQ 5 _ rfl;simp only [Nat.add_zero] at a0 b0
 rw [show op+i * domR.n=op+i * 6 from rfl] at a0 a1 a2 a3 a4 a5;rw [show op+x * domR.n=op+x * 6 from rfl] at b0 b1 b2 b3 b4 b5
 have li:(i:Int)<(S.dm.n:Int):=by omega
 have lx:(x:Int)<(S.dm.n:Int):=by omega
 have ly:(y:Int)<(S.dv.n:Int):=by omega
 have lz:(z2:Int)<(S.dv.n:Int):=by omega
 have LD:=hid hbd;have IN:=hid (fun (w':World) (hb:Below w.heap.size w w')=>rin_any t.A t.n t.c E.peers (i:Int) w' (vAu (rt.below (fun _ h=>h) hb)));have hbp1:bp<w1.heap.size:=Nat.lt_of_lt_of_le hbp B1.out.size;have hbd1:bd<w1.heap.size:=Nat.lt_of_lt_of_le hbd B1.out.size;have NL:=hid nl;rw [ep] at n3;rw [ed] at n0;rw [hy] at a0;rw [hz] at b0;have HY:=hid hy;have HZ:=hid hz
 have KW:=hid (show ∀wx,Below w1.heap.size w1 wx→wx.cell? ⟨w.heap.size,0,none⟩=some (.slice (some ⟨bd,od,none⟩) S.dv.n S.dv.c)∧wx.cell? ⟨bd,od+y * 5+4,none⟩=some (.int .u32 X.vtep)∧wx.cell? ⟨bd,od+z2 * 5+4,none⟩=some (.int .u32 Y.vtep)∧Below w.heap.size w wx from fun wx hx=>⟨(hx.cell (p:=⟨_,0,none⟩) NL.out).trans n0,(hx.cell (p:=⟨bd,_,none⟩) hbd1).trans v4,(hx.cell (p:=⟨bd,_,none⟩) hbd1).trans u4,B1.out.trans (hx.mono B1.out.size)⟩)
 clear rp rq RP RQ rd re RD RE c1 c2 c3 c4 hy hz HDI HDX HDD ep ed rs rt E2
 go_upto_region 3 with (go_at_call 108;(with_reducible refine (PK.out _).mono ?_);rintro e wp ⟨rfl,hwp⟩;subst hwp)
 go_cut [7,8] (fun p q wx=>∃b7 b8,p=.pointer (some ⟨b7,0,none⟩)∧q=.pointer (some ⟨b8,0,none⟩)∧DBox wx b7 D s∧DBox wx b8 E t∧Below w1.heap.size w1 wx)
 case first=>
  go_region
  all_goals (try go_wp2)
  all_goals go_meet
  all_goals (refine ⟨_,_,rfl,rfl,?_,?_,?_⟩)
  all_goals first
   |exact (((Below.refl _ _).alloc (Nat.le_refl _) _).alloc (by simp) _).drew
   |exact ((Below.refl _ _).alloc (Nat.le_refl _) _).alloc (by simp) _
   |(constructor<;>(try rw [HY.out])<;>(try rw [HZ.out])<;>first|(simp;done)|(simp;omega))
 case rest=>
 obtain ⟨b7,b8,rfl,rfl,D7,E7,hbw⟩:=hcut;obtain ⟨k1,k2,k3,k4⟩:=KW.out wc hbw;have X7:=hid k4;have m0:=D7.c0;have m2:=D7.c2;have o0_:=E7.c0;have o2_:=E7.c2;have o5_:=E7.c5;rw [HY.out] at m0;rw [HZ.out] at o0_;clear n3 a0 a1 a2 a3 a4 a5 b0 b1 b2 b3 b4 b5 v4 u4 n0 nl k4 hbw D7 E7 PK;have E4:=E3.out
 by_cases t1:y=z2
 · have w1_:((y:Int) != (z2:Int))=false:=by simp;omega
   have EV:=hid (show V=false by rw [E4,decide_eq_false (show ¬D.dev≠E.dev from fun g=>g (by rw [HY.out,HZ.out,t1]))];rfl);clear t1 E4;go_wp2;go_ret;exact ⟨by rw [EV.out];rfl,X7.out⟩
 have w1_:((y:Int) != (z2:Int))=true:=by simp;omega
 rw [decide_eq_true (show D.dev≠E.dev by rw [HY.out,HZ.out];omega),Bool.true_and] at E4
 by_cases t2:D.vni=E.vni
 rotate_left
 · have w2_:(D.vni == E.vni)=false:=by simpa using t2
   have EV:=hid (show V=false by rw [E4,decide_eq_false t2];rfl);clear t1 t2 E4;go_wp2;go_ret;exact ⟨by rw [EV.out];rfl,X7.out⟩
 have w2_:(D.vni == E.vni)=true:=by simpa using t2
 rw [decide_eq_true t2,Bool.true_and] at E4
 by_cases t3:D.vni=0
 · have w3_:(D.vni != 0)=false:=by simpa using t3
   have EV:=hid (show V=false by rw [E4,decide_eq_false (show ¬D.vni≠0 from fun g=>g t3)];rfl);clear t1 t2 t3 E4;go_wp2;go_ret;exact ⟨by rw [EV.out];rfl,X7.out⟩
 have w3_:(D.vni != 0)=true:=by simpa using t3
 rw [decide_eq_true (show D.vni≠0 from t3),Bool.true_and] at E4
 by_cases t4:X.vtep=0
 · have w4_:(X.vtep != 0)=false:=by simpa using t4
   have EV:=hid (show V=false by rw [E4,decide_eq_false (show ¬X.vtep≠0 from fun g=>g t4)];rfl);clear t1 t2 t3 t4 E4;go_wp2;go_ret;exact ⟨by rw [EV.out];rfl,X7.out⟩
 have w4_:(X.vtep != 0)=true:=by simpa using t4
 rw [decide_eq_true (show X.vtep≠0 from t4),Bool.true_and] at E4
 by_cases t5:Y.vtep=0
 · have w5_:(Y.vtep != 0)=false:=by simpa using t5
   have EV:=hid (show V=false by rw [E4,decide_eq_false (show ¬Y.vtep≠0 from fun g=>g t5)];rfl);clear t1 t2 t3 t4 t5 E4;go_wp2;go_ret;exact ⟨by rw [EV.out];rfl,X7.out⟩
 have w5_:(Y.vtep != 0)=true:=by simpa using t5
 rw [decide_eq_true (show Y.vtep≠0 from t5),Bool.true_and] at E4;have EV:=hid E4;generalize memB E.peers (i:Int)=M at *;clear t1 t2 t3 t4 t5 E4;go_wp2_with (go_at_call 110;(with_reducible refine (IN.out _ X7.out).mono ?_);rintro e wi ⟨rfl,hwi⟩;subst hwi);go_ret;exact ⟨by rw [EV.out];rfl,X7.out⟩
end Go.Proofs.YtgmflecelnefcaaGreat
