import Derived.Test.YtgmflecelnefcaaGreatOp25
import Derived.Test.YtgmflecelnefcaaGreatOp11
set_option maxRecDepth 100000
set_option maxHeartbeats 40000000
namespace Go.Proofs.YtgmflecelnefcaaGreat
open Go.Lib (hid)
open Go.RowKit
def VtOk (N:NV):Prop:=∀i,i<N.devices.length→0≤(N.devices.getD i DevV.zero).vtep
theorem rfind_any (N:NV) (S:NSl3) (dev v:Int) (w:World) (h:NRead w (vAp w) N S):Calls Tryz.prog 20 #[vAm S,.int .i64 dev,.int .i64 v] w fun e w'=>e=.returned (.int .i64 (fdF N dev v))∧Below w.heap.size w w':=by
 have H:=hid h.dm;have hle:=h.dm.le;have hcap:=h.dm.cap;have HL:=hid h.dm.len;have E:=hid (show fdF N dev v=fdK (N.domains.drop 0) dev v 0 from rfl);generalize fdF N dev v=V at *;have NB:=hid (NBox.new w S 31);clear h;unfold vAm
 go_enter Tryz.func20,Tryz.ntmps20
 go_wp2;obtain ⟨w1,hw1⟩:∃w1,w.alloc (.cells (nA S) 31)=w1:=⟨_,rfl⟩;have B1:=hid (show Below w.heap.size w w1 by rw [←hw1];exact (Below.refl _ _).alloc (Nat.le_refl _) _);rw [hw1] at NB ⊢;clear hw1;have c3:=NB.out.c3
 go_loopw [7] (fun i wr=>∃k:Nat,i=.int .i64 k∧k≤S.dm.n∧wr=w1∧V=fdK (N.domains.drop k) dev v k) (fun i _=>match i with| .int _ y=>(S.dm.n - y).toNat|_=>0)
 case atStart=>exact ⟨0,rfl,by omega,rfl,E.out⟩
 case round=>
  obtain ⟨k,rfl,hk,hwr,hv⟩:=hrel;subst hwr;have HV:=hid hv;clear hv
  by_cases hlt:k<S.dm.n
  rotate_left
  · have lt2:¬(k:Int)<(S.dm.n:Int):=by omega
    have EV:=hid (show V= -1 by rw [HV.out,List.drop_of_length_le (by rw [HL.out];omega)];rfl);go_wp2;go_ret;exact ⟨by rw [EV.out];rfl,B1.out⟩
  obtain ⟨b0,o0,vs,e0,_,hb0,⟨s,rfl,_⟩,r0⟩:=vAi H.out k hlt DomV.zero
  have hk2:k<N.domains.length:=by rw [HL.out];exact hlt
  have AT:=hid (fdK_at hk2 dev v);generalize N.domains.getD k DomV.zero=D at *;have R1:=vAb r0 (B1.out.block b0 hb0);have d0:=R1 0 _ rfl;have d2:=R1 2 _ rfl;simp only [Nat.add_zero] at d0;rw [show o0+k * domR.n=o0+k * 6 from rfl] at d0 d2
  have lt2:(k:Int)<(S.dm.n:Int):=by omega
  rw [e0] at c3 ⊢;clear r0 R1 hk2
  by_cases h0:D.dev=dev
  rotate_left
  · have x0:(D.dev == dev)=false:=by simpa using h0
    have EV:=hid (show V=fdK (N.domains.drop (k+1)) dev v (k+1) by rw [HV.out,AT.out,if_neg (fun g=>h0 g.1)]);clear h0;go_wp2
    go_roundw
    case rel=>exact ⟨k+1,by simp,by omega,(by first|rfl|trivial),EV.out⟩
    case measure=>simp only [];omega
  have x0:(D.dev == dev)=true:=by simpa using h0
  by_cases h1:D.vni=v
  rotate_left
  · have x1:(D.vni == v)=false:=by simpa using h1
    have EV:=hid (show V=fdK (N.domains.drop (k+1)) dev v (k+1) by rw [HV.out,AT.out,if_neg (fun g=>h1 g.2.1)]);clear h0 h1;go_wp2
    go_roundw
    case rel=>exact ⟨k+1,by simp,by omega,(by first|rfl|trivial),EV.out⟩
    case measure=>simp only [];omega
  have x1:(D.vni == v)=true:=by simpa using h1
  by_cases h2:v≠0
  rotate_left
  · have x2:(v != 0)=false:=by simpa using h2
    have EV:=hid (show V=fdK (N.domains.drop (k+1)) dev v (k+1) by rw [HV.out,AT.out,if_neg (fun g=>h2 g.2.2)]);clear h0 h1 h2;go_wp2
    go_roundw
    case rel=>exact ⟨k+1,by simp,by omega,(by first|rfl|trivial),EV.out⟩
    case measure=>simp only [];omega
  have x2:(v != 0)=true:=by simpa using h2
  have EV:=hid (show V=(k:Int) by rw [HV.out,AT.out,if_pos ⟨h0,h1,h2⟩]);clear h0 h1 h2;go_wp2;go_ret;exact ⟨by rw [EV.out];rfl,B1.out⟩
theorem rowner_any (N:NV) (S:NSl3) (a:Int) (w:World) (h:NRead w (vAp w) N S):Calls Tryz.prog 32 #[vAm S,.int .u32 a] w fun e w'=>e=.returned (.int .i64 (owF N a))∧Below w.heap.size w w':=by
 have H:=hid h.dv;have hle:=h.dv.le;have hcap:=h.dv.cap;have HL:=hid h.dv.len;have E:=hid (show owF N a=owK (N.devices.drop 0) a 0 from rfl);generalize owF N a=V at *;have NB:=hid (NBox.new w S 31);clear h;unfold vAm
 go_enter Tryz.func32,Tryz.ntmps32
 go_wp2;obtain ⟨w1,hw1⟩:∃w1,w.alloc (.cells (nA S) 31)=w1:=⟨_,rfl⟩;have B1:=hid (show Below w.heap.size w w1 by rw [←hw1];exact (Below.refl _ _).alloc (Nat.le_refl _) _);rw [hw1] at NB ⊢;clear hw1;have c3:=NB.out.c0
 go_loopw [5] (fun i wr=>∃k:Nat,i=.int .i64 k∧k≤S.dv.n∧wr=w1∧V=owK (N.devices.drop k) a k) (fun i _=>match i with| .int _ y=>(S.dv.n - y).toNat|_=>0)
 case atStart=>exact ⟨0,rfl,by omega,rfl,E.out⟩
 case round=>
  obtain ⟨k,rfl,hk,hwr,hv⟩:=hrel;subst hwr;have HV:=hid hv;clear hv
  by_cases hlt:k<S.dv.n
  rotate_left
  · have lt2:¬(k:Int)<(S.dv.n:Int):=by omega
    have EV:=hid (show V= -1 by rw [HV.out,List.drop_of_length_le (by rw [HL.out];omega)];rfl);go_wp2;go_ret;exact ⟨by rw [EV.out];rfl,B1.out⟩
  obtain ⟨b0,o0,vs,e0,_,hb0,hvs,r0⟩:=vAi H.out k hlt DevV.zero;have hvs:vs=vGt (N.devices.getD k DevV.zero):=hvs;subst hvs
  have hk2:k<N.devices.length:=by rw [HL.out];exact hlt
  have AT:=hid (owK_at hk2 a);generalize N.devices.getD k DevV.zero=D at *;have R1:=vAb r0 (B1.out.block b0 hb0);have d4:=R1 4 _ rfl;rw [show o0+k * devR.n=o0+k * 5 from rfl] at d4
  have lt2:(k:Int)<(S.dv.n:Int):=by omega
  rw [e0] at c3 ⊢;clear r0 R1 hk2
  by_cases h0:D.vtep=a
  rotate_left
  · have x0:(D.vtep == a)=false:=by simpa using h0
    have EV:=hid (show V=owK (N.devices.drop (k+1)) a (k+1) by rw [HV.out,AT.out,if_neg (fun g=>h0 g)]);clear h0;go_wp2
    go_roundw
    case rel=>exact ⟨k+1,by simp,by omega,(by first|rfl|trivial),EV.out⟩
    case measure=>simp only [];omega
  have x0:(D.vtep == a)=true:=by simpa using h0
  have EV:=hid (show V=(k:Int) by rw [HV.out,AT.out,if_pos h0]);clear h0;go_wp2;go_ret;exact ⟨by rw [EV.out];rfl,B1.out⟩
theorem rlist19_any (N:NV) (S:NSl3) (dev v:Int) (w:World) (h:NRead w (vAp w) N S):Calls Tryz.prog 39 #[vAm S,.int .i64 dev,.int .i64 v] w fun e w'=>e=.returned (.int .i64 (lsF N dev v))∧Below w.heap.size w w':=by
 have H:=hid h.fl;have hle:=h.fl.le;have hcap:=h.fl.cap;have HL:=hid h.fl.len;have E:=hid (show lsF N dev v=lsK (N.floods.drop 0) dev v 0 from rfl);generalize lsF N dev v=V at *;have NB:=hid (NBox.new w S 31);clear h;unfold vAm
 go_enter Tryz.func39,Tryz.ntmps39
 go_wp2;obtain ⟨w1,hw1⟩:∃w1,w.alloc (.cells (nA S) 31)=w1:=⟨_,rfl⟩;have B1:=hid (show Below w.heap.size w w1 by rw [←hw1];exact (Below.refl _ _).alloc (Nat.le_refl _) _);rw [hw1] at NB ⊢;clear hw1;have c3:=NB.out.c5
 go_loopw [7] (fun i wr=>∃k:Nat,i=.int .i64 k∧k≤S.fl.n∧wr=w1∧V=lsK (N.floods.drop k) dev v k) (fun i _=>match i with| .int _ y=>(S.fl.n - y).toNat|_=>0)
 case atStart=>exact ⟨0,rfl,by omega,rfl,E.out⟩
 case round=>
  obtain ⟨k,rfl,hk,hwr,hv⟩:=hrel;subst hwr;have HV:=hid hv;clear hv
  by_cases hlt:k<S.fl.n
  rotate_left
  · have lt2:¬(k:Int)<(S.fl.n:Int):=by omega
    have EV:=hid (show V= -1 by rw [HV.out,List.drop_of_length_le (by rw [HL.out];omega)];rfl);go_wp2;go_ret;exact ⟨by rw [EV.out];rfl,B1.out⟩
  obtain ⟨b0,o0,vs,e0,_,hb0,⟨s,rfl,_⟩,r0⟩:=vAi H.out k hlt FloodV.zero
  have hk2:k<N.floods.length:=by rw [HL.out];exact hlt
  have AT:=hid (lsK_at hk2 dev v);generalize N.floods.getD k FloodV.zero=D at *;have R1:=vAb r0 (B1.out.block b0 hb0);have d1:=R1 1 _ rfl;have d2:=R1 2 _ rfl;rw [show o0+k * floodR.n=o0+k * 4 from rfl] at d1 d2
  have lt2:(k:Int)<(S.fl.n:Int):=by omega
  rw [e0] at c3 ⊢;clear r0 R1 hk2
  by_cases h0:D.dev=dev
  rotate_left
  · have x0:(D.dev == dev)=false:=by simpa using h0
    have EV:=hid (show V=lsK (N.floods.drop (k+1)) dev v (k+1) by rw [HV.out,AT.out,if_neg (fun g=>h0 g.1)]);clear h0;go_wp2
    go_roundw
    case rel=>exact ⟨k+1,by simp,by omega,(by first|rfl|trivial),EV.out⟩
    case measure=>simp only [];omega
  have x0:(D.dev == dev)=true:=by simpa using h0
  by_cases h1:D.vni=v
  rotate_left
  · have x1:(D.vni == v)=false:=by simpa using h1
    have EV:=hid (show V=lsK (N.floods.drop (k+1)) dev v (k+1) by rw [HV.out,AT.out,if_neg (fun g=>h1 g.2)]);clear h0 h1;go_wp2
    go_roundw
    case rel=>exact ⟨k+1,by simp,by omega,(by first|rfl|trivial),EV.out⟩
    case measure=>simp only [];omega
  have x1:(D.vni == v)=true:=by simpa using h1
  have EV:=hid (show V=(k:Int) by rw [HV.out,AT.out,if_pos ⟨h0,h1⟩]);clear h0 h1;go_wp2;go_ret;exact ⟨by rw [EV.out];rfl,B1.out⟩
theorem rhas19_any (A:Option Addr) (n c:Nat) (xs:List Int) (x:Int) (w:World) (h:ISl w .u32 A n c xs):Calls Tryz.prog 40 #[.slice A n c,.int .u32 x] w fun e w'=>e=.returned (.bool (memB xs x))∧w=w':=by
 have hle:=h.le;have hcap:=h.cap;have HL:=hid h.len;have H:=hid h;have E1:=hid (show x∈xs→memB xs x=true from fun hx=>decide_eq_true hx);have E0:=hid (show x∉xs→memB xs x=false from fun hx=>decide_eq_false hx);generalize memB xs x=V at *;clear h
 go_enter Tryz.func40,Tryz.ntmps40
 go_wp2
 go_loopw [5] (fun i wr=>∃k:Nat,i=.int .i64 k∧k≤n∧wr=w∧x∉xs.take k) (fun i _=>match i with| .int _ y=>(n - y).toNat|_=>0)
 case atStart=>exact ⟨0,rfl,by omega,rfl,by simp⟩
 case round=>
  obtain ⟨k,rfl,hk,rfl,hx⟩:=hrel;have HX:=hid hx;clear hx
  by_cases hlt:k<n
  · obtain ⟨b,off,rfl,hb,hc⟩:=H.out.2.2.2 (by omega)
    have c0:=hc k hlt
    have hk2:k<xs.length:=by rw [HL.out];exact hlt
    have NX:=hid (fun hy=>memB_take hk2 HX.out hy);have YX:=hid (show xs.getD k 0=x→x∈xs from fun e=>by rw [←e];simp [List.getD,hk2]);generalize xs.getD k 0=y at *
    have lt2:(k:Int)<(n:Int):=by omega
    clear hc hk2
    by_cases hy:y=x
    · have ev:=E1.out (YX.out hy)
      have ey:(y == x)=true:=by simpa using hy
      subst ev;go_wp2;go_ret;exact ⟨rfl,rfl⟩
    · have ey:(y == x)=false:=by simpa using hy
      have N2:=hid (NX.out hy);go_wp2
      go_roundw
      case rel=>exact ⟨k+1,by simp,by omega,(by first|rfl|trivial),N2.out⟩
      case measure=>simp only [];omega
  · have ev:=E0.out (by have:=HX.out;rwa [List.take_of_length_le (by rw [HL.out];omega)] at this)
    have lt2:¬(k:Int)<(n:Int):=by omega
    subst ev;go_wp2;go_ret;exact ⟨rfl,rfl⟩
theorem vDg (s t:SlV) (xs ys:List Int) (w:World) (h:ISl w .i64 s.A s.n s.c xs) (h2:ISl w .i64 t.A t.n t.c ys):
 Calls Tryz.prog 34 #[.slice s.A s.n s.c,.slice t.A t.n t.c] w fun e w'=>e=.returned (.bool (xs == ys))∧Drew w w':=by
 obtain ⟨A,n,c⟩:=s;obtain ⟨B,n2,c2⟩:=t;dsimp only at h h2 ⊢;have hle:=h.le;have hcap:=h.cap;have hle2:=h2.le;have hcap2:=h2.cap;have H:=hid h;have H2:=hid h2;clear h h2
 by_cases hne:n=n2
 · subst hne
   by_cases hn:0<n
   · obtain ⟨b,off,rfl,hb,hc⟩:=H.out.2.2.2 hn
     obtain ⟨b2,off2,rfl,hb2,hc2⟩:=H2.out.2.2.2 hn;have HC:=hid hc;have HC2:=hid hc2;clear hc hc2
     go_enter Tryz.func34,Tryz.ntmps34
     go_wp2
     go_loopw [5] (fun i wr=>∃k:Nat,k≤n∧i=.int .i64 (k:Int)∧(∀j,j<k→xs.getD j 0=ys.getD j 0)∧Drew w wr) (fun i _=>n - (intOf i).toNat)
     case atStart=>exact ⟨0,by omega,rfl,fun j hj=>absurd hj (by omega),Drew.refl _⟩
     case round=>
      obtain ⟨k,hk,rfl,hal,m,rfl⟩:=hrel;have AL:=hid hal;clear hal
      by_cases hlt:k<n
      · have c0:w.cell? ⟨b,off+k,none⟩=some (.int .i64 (xs.getD k 0)):=HC.out k hlt
        have c1:w.cell? ⟨b2,off2+k,none⟩=some (.int .i64 (ys.getD k 0)):=HC2.out k hlt;generalize hx:xs.getD k 0=x at c0;generalize hy:ys.getD k 0=y at c1;have HX:=hid hx;have HY:=hid hy;clear hx hy
        by_cases hxy:x=y
        · subst hxy
          go_wp2
          go_quiet (fail)
          go_wp2
          go_roundw
          case rel=>exact ⟨k+1,by omega,by go_num,fun j hj=>by
           by_cases e:j=k
           · subst e;rw [HX.out,HY.out]
           · exact AL.out j (by omega),⟨m+nq,rfl⟩⟩
          case measure=>simp [intOf];omega
        · have E:=hid (show (xs == ys)=false by
           rw [beq_eq_false_iff_ne];intro e;subst e
           exact hxy (HX.out.symm.trans HY.out))
          go_wp2
          go_quiet (fail)
          go_wp2;go_ret;exact ⟨by rw [E.out];rfl,⟨m+nq,by rw [vDd]⟩⟩
      · obtain rfl:k=n:=by omega
        have E:=hid (show (xs == ys)=true by rw [beq_iff_eq];exact vGa H.out.len H2.out.len AL.out);go_wp2;go_ret;exact ⟨by rw [E.out];rfl,⟨m,rfl⟩⟩
   · obtain rfl:n=0:=by omega
     obtain rfl:xs=[]:=List.eq_nil_of_length_eq_zero H.out.len;obtain rfl:ys=[]:=List.eq_nil_of_length_eq_zero H2.out.len
     go_enter Tryz.func34,Tryz.ntmps34
     go_wp2
     go_loop [5] (fun i=>i=.int .i64 0) (fun i=>0)
     case atStart=>rfl
     case round=>
      subst hrel;go_wp2;go_ret;exact ⟨rfl,Drew.refl _⟩
 · have E:=hid (show (xs == ys)=false by
    rw [beq_eq_false_iff_ne];intro e;subst e
    exact hne (H.out.len.symm.trans H2.out.len))
   go_enter Tryz.func34,Tryz.ntmps34
   go_wp2;go_ret;exact ⟨by rw [E.out];rfl,Drew.refl _⟩
theorem req_uint32 (s t:SlV) (xs ys:List Int) (w:World) (h:ISl w .u32 s.A s.n s.c xs) (h2:ISl w .u32 t.A t.n t.c ys):
 Calls Tryz.prog 35 #[.slice s.A s.n s.c,.slice t.A t.n t.c] w fun e w'=>e=.returned (.bool (xs == ys))∧Drew w w':=by
 obtain ⟨A,n,c⟩:=s;obtain ⟨B,n2,c2⟩:=t;dsimp only at h h2 ⊢;have hle:=h.le;have hcap:=h.cap;have hle2:=h2.le;have hcap2:=h2.cap;have H:=hid h;have H2:=hid h2;clear h h2
 by_cases hne:n=n2
 · subst hne
   by_cases hn:0<n
   · obtain ⟨b,off,rfl,hb,hc⟩:=H.out.2.2.2 hn
     obtain ⟨b2,off2,rfl,hb2,hc2⟩:=H2.out.2.2.2 hn;have HC:=hid hc;have HC2:=hid hc2;clear hc hc2
     go_enter Tryz.func35,Tryz.ntmps35
     go_wp2
     go_loopw [5] (fun i wr=>∃k:Nat,k≤n∧i=.int .i64 (k:Int)∧(∀j,j<k→xs.getD j 0=ys.getD j 0)∧Drew w wr) (fun i _=>n - (intOf i).toNat)
     case atStart=>exact ⟨0,by omega,rfl,fun j hj=>absurd hj (by omega),Drew.refl _⟩
     case round=>
      obtain ⟨k,hk,rfl,hal,m,rfl⟩:=hrel;have AL:=hid hal;clear hal
      by_cases hlt:k<n
      · have c0:w.cell? ⟨b,off+k,none⟩=some (.int .u32 (xs.getD k 0)):=HC.out k hlt
        have c1:w.cell? ⟨b2,off2+k,none⟩=some (.int .u32 (ys.getD k 0)):=HC2.out k hlt;generalize hx:xs.getD k 0=x at c0;generalize hy:ys.getD k 0=y at c1;have HX:=hid hx;have HY:=hid hy;clear hx hy
        by_cases hxy:x=y
        · subst hxy
          go_wp2
          go_quiet (fail)
          go_wp2
          go_roundw
          case rel=>exact ⟨k+1,by omega,by go_num,fun j hj=>by
           by_cases e:j=k
           · subst e;rw [HX.out,HY.out]
           · exact AL.out j (by omega),⟨m+nq,rfl⟩⟩
          case measure=>simp [intOf];omega
        · have E:=hid (show (xs == ys)=false by
           rw [beq_eq_false_iff_ne];intro e;subst e
           exact hxy (HX.out.symm.trans HY.out))
          go_wp2
          go_quiet (fail)
          go_wp2;go_ret;exact ⟨by rw [E.out];rfl,⟨m+nq,by rw [vDd]⟩⟩
      · obtain rfl:k=n:=by omega
        have E:=hid (show (xs == ys)=true by rw [beq_iff_eq];exact vGa H.out.len H2.out.len AL.out);go_wp2;go_ret;exact ⟨by rw [E.out];rfl,⟨m,rfl⟩⟩
   · obtain rfl:n=0:=by omega
     obtain rfl:xs=[]:=List.eq_nil_of_length_eq_zero H.out.len;obtain rfl:ys=[]:=List.eq_nil_of_length_eq_zero H2.out.len
     go_enter Tryz.func35,Tryz.ntmps35
     go_wp2
     go_loop [5] (fun i=>i=.int .i64 0) (fun i=>0)
     case atStart=>rfl
     case round=>
      subst hrel;go_wp2;go_ret;exact ⟨rfl,Drew.refl _⟩
 · have E:=hid (show (xs == ys)=false by
    rw [beq_eq_false_iff_ne];intro e;subst e
    exact hne (H.out.len.symm.trans H2.out.len))
   go_enter Tryz.func35,Tryz.ntmps35
   go_wp2;go_ret;exact ⟨by rw [E.out];rfl,Drew.refl _⟩
end Go.Proofs.YtgmflecelnefcaaGreat
