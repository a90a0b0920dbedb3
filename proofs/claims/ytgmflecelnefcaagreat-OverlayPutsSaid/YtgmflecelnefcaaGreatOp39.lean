import Derived.Test.YtgmflecelnefcaaGreatOp25
import Derived.Test.YtgmflecelnefcaaGreatOp15
import Derived.Test.YtgmflecelnefcaaGreatOp12
import Derived.Test.YtgmflecelnefcaaGreatOp34
import Derived.Test.YtgmflecelnefcaaGreatOp33
import Derived.Lib.SlKept
import Derived.Lib.SliceRun
import Derived.Shelf.RegionOpenPlain
set_option maxRecDepth 100000
set_option maxHeartbeats 40000000
namespace Go.Proofs.YtgmflecelnefcaaGreat
open Go.Lib (hid)
open Go.RowKit
theorem idx_flood (f:FuncId) (caps:Array Value) (hcf:vAz Tryz.prog f) (A:Option Addr) (n c:Nat) (xs:List FloodV) (w:World) (h:RSl floodR w (vAp w) A n c xs) (g:Nat→Bool)
 (hf:∀(k:Nat) (s:Sl3) (w':World),k<n→Below w.heap.size w w'→RSl (Rdr.int .u32) w (vAp w) s.A s.n s.c (xs.getD k FloodV.zero).addrs→Calls Tryz.prog f (#[.agg #[.int .i64 (xs.getD k FloodV.zero).row,.int .i64 (xs.getD k FloodV.zero).dev,.int .i64 (xs.getD k FloodV.zero).vni,.slice s.A s.n s.c]]++caps) w' fun e w2=>e=.returned (.bool (g k))∧Below w'.heap.size w' w2)
 (V:Int) (hV:IsFst g n V):Calls Tryz.prog 146 #[.slice A n c,.func (.func f) #[] caps] w fun e w'=>e=.returned (.int .i64 V)∧Below w.heap.size w w':=by
 have hle:=h.le;have hcap:=h.cap;have HL:=hid h.len;have H:=hid h;have HF:=hid hf;have HV:=hid hV;have CF:=hid hcf;clear h hf hV hcf
 go_enter Tryz.func146,Tryz.ntmps146
 go_wp2
 go_loopw [8] (fun i wr=>∃k:Nat,i=.int .i64 k∧k≤n∧Below w.heap.size w wr∧∀j,j<k→g j=false) (fun i _=>match i with| .int _ y=>(n - y).toNat|_=>0)
 case atStart=>exact ⟨0,rfl,by omega,Below.refl _ _,fun j hj=>absurd hj (by omega)⟩
 case round=>
  obtain ⟨k,rfl,hk,hb,hall⟩:=hrel;have W:=hid hb;have AL:=hid hall;clear hb hall
  by_cases hlt:k<n
  · obtain ⟨b0,o0,vs,rfl,_,hb0,⟨s,rfl,l1⟩,r0⟩:=vAi H.out k hlt FloodV.zero
    have CK:=hid (fun w' hw=>HF.out k s w' hlt hw l1);have R1:=vAb r0 (W.out.block b0 hb0);generalize xs.getD k FloodV.zero=X at *;have d0:=R1 0 _ rfl;have d1:=R1 1 _ rfl;have d2:=R1 2 _ rfl;have d3:=R1 3 _ rfl;simp only [Nat.add_zero] at d0;rw [show o0+k * floodR.n=o0+k * 4 from rfl] at d0 d1 d2 d3
    have lt2:(k:Int)<(n:Int):=by omega
    clear r0 R1 l1;obtain ⟨v,hv⟩:∃v,g k=v:=⟨_,rfl⟩;rw [hv] at CK
    cases v with
    |false=>
     have AK:=hid (show ∀j,j<k+1→g j=false from fun j hj=>by
      rcases Nat.lt_or_ge j k with h'|h'
      · exact AL.out j h'
      · obtain rfl:j=k:=by omega
        exact hv)
     clear hv;go_wp2_with ((rw [CF.out _ _]);(refine (CK.out _ W.out).mono ?_);rintro e w2 ⟨rfl,hb2⟩;have W2:=hid (vAa W.out hb2);clear hb2)
     go_roundw
     case rel=>exact ⟨k+1,by simp,by omega,W2.out,AK.out⟩
     case measure=>simp only [];omega
    |true=>
     have EV:=hid (HV.out.hit hlt hv AL.out);clear hv;go_wp2_with ((rw [CF.out _ _]);(refine (CK.out _ W.out).mono ?_);rintro e w2 ⟨rfl,hb2⟩;have W2:=hid (vAa W.out hb2);clear hb2);go_ret;exact ⟨by rw [EV.out];rfl,W2.out⟩
  · have EV:=hid (HV.out.no (fun j hj=>AL.out j (by omega)))
    have lt2:¬(k:Int)<(n:Int):=by omega
    go_wp2;go_ret;exact ⟨by rw [EV.out];rfl,W.out⟩
theorem idx_u32 (f:FuncId) (caps:Array Value) (hcf:vAz Tryz.prog f) (A:Option Addr) (n c:Nat) (xs:List Int) (w:World) (h:ISl w .u32 A n c xs) (g:Nat→Bool)
 (hf:∀(k:Nat) w',k<n→Below w.heap.size w w'→Calls Tryz.prog f (#[.int .u32 (xs.getD k 0)]++caps) w' fun e w2=>e=.returned (.bool (g k))∧Below w'.heap.size w' w2)
 (V:Int) (hV:IsFst g n V):Calls Tryz.prog 181 #[.slice A n c,.func (.func f) #[] caps] w fun e w'=>e=.returned (.int .i64 V)∧Below w.heap.size w w':=by
 have hle:=h.le;have hcap:=h.cap;have H:=hid h;have HF:=hid hf;have HV:=hid hV;have CF:=hid hcf;clear h hf hV hcf
 go_enter Tryz.func181,Tryz.ntmps181
 go_wp2
 go_loopw [8] (fun i wr=>∃k:Nat,i=.int .i64 k∧k≤n∧Below w.heap.size w wr∧∀j,j<k→g j=false) (fun i _=>match i with| .int _ y=>(n - y).toNat|_=>0)
 case atStart=>exact ⟨0,rfl,by omega,Below.refl _ _,fun j hj=>absurd hj (by omega)⟩
 case round=>
  obtain ⟨k,rfl,hk,hb,hall⟩:=hrel;have W:=hid hb;have AL:=hid hall;clear hb hall
  by_cases hlt:k<n
  · obtain ⟨b0,o0,rfl,hb0,hc0⟩:=H.out.2.2.2 (by omega)
    have CK:=hid (fun w' hw=>HF.out k w' hlt hw);have d0:=(W.out.cell (p:=⟨b0,o0+k,none⟩) hb0).trans (hc0 k hlt);generalize xs.getD k 0=X at *
    have lt2:(k:Int)<(n:Int):=by omega
    clear hc0;obtain ⟨v,hv⟩:∃v,g k=v:=⟨_,rfl⟩;rw [hv] at CK
    cases v with
    |false=>
     have AK:=hid (show ∀j,j<k+1→g j=false from fun j hj=>by
      rcases Nat.lt_or_ge j k with h'|h'
      · exact AL.out j h'
      · obtain rfl:j=k:=by omega
        exact hv)
     clear hv;go_wp2_with ((rw [CF.out _ _]);(refine (CK.out _ W.out).mono ?_);rintro e w2 ⟨rfl,hb2⟩;have W2:=hid (vAa W.out hb2);clear hb2)
     go_roundw
     case rel=>exact ⟨k+1,by simp,by omega,W2.out,AK.out⟩
     case measure=>simp only [];omega
    |true=>
     have EV:=hid (HV.out.hit hlt hv AL.out);clear hv;go_wp2_with ((rw [CF.out _ _]);(refine (CK.out _ W.out).mono ?_);rintro e w2 ⟨rfl,hb2⟩;have W2:=hid (vAa W.out hb2);clear hb2);go_ret;exact ⟨by rw [EV.out];rfl,W2.out⟩
  · have EV:=hid (HV.out.no (fun j hj=>AL.out j (by omega)))
    have lt2:¬(k:Int)<(n:Int):=by omega
    go_wp2;go_ret;exact ⟨by rw [EV.out];rfl,W.out⟩
theorem index_u32 (A:Option Addr) (n c:Nat) (xs:List Int) (x:Int) (w:World) (h:ISl w .u32 A n c xs):Calls Tryz.prog 148 #[.slice A n c,.int .u32 x] w fun e w'=>(∃V:Int,e=.returned (.int .i64 V)∧decide (0≤V)=memB xs x)∧Below w.heap.size w w':=by
 have hle:=h.le;have hcap:=h.cap;have HL:=hid h.len;have H:=hid h;have E1:=hid (show x∈xs→memB xs x=true from fun hx=>decide_eq_true hx);have E0:=hid (show x∉xs→memB xs x=false from fun hx=>decide_eq_false hx);generalize memB xs x=V at *;clear h
 go_enter Tryz.func148,Tryz.ntmps148
 go_wp2
 go_loopw [8] (fun i wr=>∃k:Nat,i=.int .i64 k∧k≤n∧Below w.heap.size w wr∧x∉xs.take k) (fun i _=>match i with| .int _ y=>(n - y).toNat|_=>0)
 case atStart=>exact ⟨0,rfl,by omega,Below.refl _ _,by simp⟩
 case round=>
  obtain ⟨k,rfl,hk,hb,hx⟩:=hrel;have HX:=hid hx;have W:=hid hb;clear hx hb
  by_cases hlt:k<n
  · obtain ⟨b,off,rfl,hb,hc⟩:=H.out.2.2.2 (by omega)
    have c0:=(W.out.cell (p:=⟨b,off+k,none⟩) hb).trans (hc k hlt)
    have hk2:k<xs.length:=by rw [HL.out];exact hlt
    have NX:=hid (fun hy=>memB_take hk2 HX.out hy);have YX:=hid (show xs.getD k 0=x→x∈xs from fun e=>by rw [←e];simp [List.getD,hk2]);generalize xs.getD k 0=y at *
    have lt2:(k:Int)<(n:Int):=by omega
    clear hc hk2
    by_cases hy:y=x
    · have EV:=hid (E1.out (YX.out hy))
      have ey:(y == x)=true:=by simpa using hy
      have ey2:(x == y)=true:=by simpa using hy.symm
      clear hy;go_wp2;go_ret;exact ⟨⟨_,rfl,by rw [EV.out];exact decide_eq_true (by omega)⟩,by first|exact W.out|exact W.out.alloc (Nat.le_refl _) _⟩
    · have ey:(y == x)=false:=by simpa using hy
      have ey2:(x == y)=false:=by simpa using (fun e=>hy e.symm)
      have N2:=hid (NX.out hy);clear hy;go_wp2
      go_roundw
      case rel=>exact ⟨k+1,by simp,by omega,W.out,N2.out⟩
      case measure=>simp only [];omega
  · have EV:=hid (E0.out (by have:=HX.out;rwa [List.take_of_length_le (by rw [HL.out];omega)] at this))
    have lt2:¬(k:Int)<(n:Int):=by omega
    go_wp2;go_ret;exact ⟨⟨_,rfl,by rw [EV.out];rfl⟩,W.out⟩
theorem cont_u32 (A:Option Addr) (n c:Nat) (xs:List Int) (x:Int) (w:World) (h:ISl w .u32 A n c xs):Calls Tryz.prog 93 #[.slice A n c,.int .u32 x] w fun e w'=>e=.returned (.bool (memB xs x))∧Below w.heap.size w w':=by
 have IX:=hid (index_u32 A n c xs x w h);generalize memB xs x=V at *;clear h
 go_enter Tryz.func93,Tryz.ntmps93
 go_wp2_with (go_at_call 148;(with_reducible refine IX.out.mono ?_);rintro e wi ⟨⟨Z,rfl,hz⟩,hb⟩;have X2:=hid hb;have EZ:=hid hz;clear hb hz);go_ret;exact ⟨by rw [←EZ.out];rfl,X2.out⟩
theorem contf_u32 (A:Option Addr) (n c:Nat) (g:Value) (V:Int) (w:World)
 (IX:Calls Tryz.prog 181 #[.slice A n c,g] w fun e w2=>e=.returned (.int .i64 V)∧Below w.heap.size w w2):
 Calls Tryz.prog 150 #[.slice A n c,g] w fun e w'=>e=.returned (.bool (decide (0≤V)))∧Below w.heap.size w w':=by
 have IX:=hid IX
 go_enter Tryz.func150,Tryz.ntmps150
 go_wp2_with (go_at_call 181;(with_reducible refine IX.out.mono ?_);rintro e wi ⟨rfl,hb⟩;have X2:=hid hb;clear hb);go_ret;exact ⟨rfl,X2.out⟩
def odF (N:NV) (a:Int):Int:=if a=0 then -1 else owF N a
theorem odF_fst (N:NV) (a:Int) (n:Nat) (hn:N.devices.length=n):IsFst (fun k=>decide (a≠0∧(N.devices.getD k DevV.zero).vtep=a)) n (odF N a):=by
 by_cases h0:a=0
 · exact .inr ⟨if_pos h0,fun j _=>decide_eq_false (fun g=>g.1 h0)⟩
 · unfold odF
   rw [if_neg h0]
   rcases owK_fst a N.devices 0 with ⟨j,h1,h2,h3,h4⟩|⟨h1,h2⟩
   · exact .inl ⟨j,by omega,by unfold owF;rw [h2];congr 1;omega,decide_eq_true ⟨h0,h3⟩,fun i hi=>decide_eq_false (fun g=>h4 i hi g.2)⟩
   · exact .inr ⟨h1,fun i hi=>decide_eq_false (fun g=>h2 i (by omega) g.2)⟩
theorem lsF_fst (N:NV) (dev v:Int) (n:Nat) (hn:N.floods.length=n):IsFst (fun k=>decide ((N.floods.getD k FloodV.zero).dev=dev∧(N.floods.getD k FloodV.zero).vni=v)) n (lsF N dev v):=by
 rcases lsK_fst dev v N.floods 0 with ⟨j,h1,h2,h3,h4⟩|⟨h1,h2⟩
 · exact .inl ⟨j,by omega,by unfold lsF;rw [h2];congr 1;omega,decide_eq_true h3,fun i hi=>decide_eq_false (h4 i hi)⟩
 · exact .inr ⟨h1,fun i hi=>decide_eq_false (h2 i (by omega))⟩
theorem fdF_fst (N:NV) (dev v:Int) (n:Nat) (hn:N.domains.length=n):IsFst (fun k=>decide (v≠0∧(N.domains.getD k DomV.zero).dev=dev∧(N.domains.getD k DomV.zero).vni=v)) n (fdF N dev v):=by
 rcases fdK_fst dev v N.domains 0 with ⟨j,h1,h2,h3,h4⟩|⟨h1,h2⟩
 · exact .inl ⟨j,by omega,by unfold fdF;rw [h2];congr 1;omega,decide_eq_true ⟨h3.2.2,h3.1,h3.2.1⟩,fun i hi=>decide_eq_false (fun g=>h4 i hi ⟨g.2.1,g.2.2,g.1⟩)⟩
 · exact .inr ⟨h1,fun i hi=>decide_eq_false (fun g=>h2 i (by omega) ⟨g.2.1,g.2.2,g.1⟩)⟩
theorem odev1 (X:DevV) (a:Int) (q0:Nat) (w:World) (c0:w.cell? ⟨q0,0,none⟩=some (.int .u32 a)):Calls Tryz.prog 144 #[.agg #[.int .i64 X.row,.int .i64 X.prio,.string (str X.name),.int .u64 X.mac,.int .u32 X.vtep],.pointer (some ⟨q0,0,none⟩)] w fun e w'=>e=.returned (.bool (decide (a≠0∧X.vtep=a)))∧Below w.heap.size w w':=by
 have ql0:q0<w.heap.size:=World.block_lt_of_cell? w _ c0
 by_cases t0:a≠0
 rotate_left
 · have z0:(a != 0)=false:=by simpa using t0
   rw [decide_eq_false (fun g:a≠0∧X.vtep=a=>t0 g.1)];clear t0
   go_enter Tryz.func144,Tryz.ntmps144
   go_wp2;go_ret;exact ⟨rfl,vAc _ _⟩
 have z0:(a != 0)=true:=by simpa using t0
 obtain ⟨vb,hv⟩:∃vb,(X.vtep == a)=vb:=⟨_,rfl⟩
 rw [show decide (a≠0∧X.vtep=a)=vb by rw [←hv];by_cases g:X.vtep=a<;>simp [g,t0]]
 clear t0
 go_enter Tryz.func144,Tryz.ntmps144
 go_wp2;go_ret;exact ⟨by first|rfl|simp [hv],vAc _ _⟩
theorem enters_odev1:vAz Tryz.prog 144:=vAt Tryz.func144 (by kernel_rfl) rfl
theorem olst1 (X:FloodV) (s:Sl3) (dev v:Int) (q0 q1:Nat) (w:World) (c0:w.cell? ⟨q0,0,none⟩=some (.int .i64 dev)) (c1:w.cell? ⟨q1,0,none⟩=some (.int .i64 v)):Calls Tryz.prog 147 #[.agg #[.int .i64 X.row,.int .i64 X.dev,.int .i64 X.vni,.slice s.A s.n s.c],.pointer (some ⟨q0,0,none⟩),.pointer (some ⟨q1,0,none⟩)] w fun e w'=>e=.returned (.bool (decide (X.dev=dev∧X.vni=v)))∧Below w.heap.size w w':=by
 have ql0:q0<w.heap.size:=World.block_lt_of_cell? w _ c0;have ql1:q1<w.heap.size:=World.block_lt_of_cell? w _ c1
 by_cases t0:X.dev=dev
 rotate_left
 · have z0:(X.dev == dev)=false:=by simpa using t0
   rw [decide_eq_false (fun g:X.dev=dev∧X.vni=v=>t0 g.1)];clear t0
   go_enter Tryz.func147,Tryz.ntmps147
   go_wp2;go_ret;exact ⟨rfl,vAc _ _⟩
 have z0:(X.dev == dev)=true:=by simpa using t0
 obtain ⟨vb,hv⟩:∃vb,(X.vni == v)=vb:=⟨_,rfl⟩
 rw [show decide (X.dev=dev∧X.vni=v)=vb by rw [←hv];by_cases g:X.vni=v<;>simp [g,t0]]
 clear t0
 go_enter Tryz.func147,Tryz.ntmps147
 go_wp2;go_ret;exact ⟨by first|rfl|simp [hv],vAc _ _⟩
theorem enters_olst1:vAz Tryz.prog 147:=vAt Tryz.func147 (by kernel_rfl) rfl
theorem ofnd1 (X:DomV) (s:Sl3) (v dev:Int) (q0 q1:Nat) (w:World) (c0:w.cell? ⟨q0,0,none⟩=some (.int .i64 v)) (c1:w.cell? ⟨q1,0,none⟩=some (.int .i64 dev)):Calls Tryz.prog 114 #[.agg #[.int .i64 X.dev,.int .i64 X.vlan,.int .i64 X.vni,.int .i64 X.irb,.int .i64 X.row,.slice s.A s.n s.c],.pointer (some ⟨q0,0,none⟩),.pointer (some ⟨q1,0,none⟩)] w fun e w'=>e=.returned (.bool (decide (v≠0∧X.dev=dev∧X.vni=v)))∧Below w.heap.size w w':=by
 have ql0:q0<w.heap.size:=World.block_lt_of_cell? w _ c0;have ql1:q1<w.heap.size:=World.block_lt_of_cell? w _ c1
 by_cases t0:v≠0
 rotate_left
 · have z0:(v != 0)=false:=by simpa using t0
   rw [decide_eq_false (fun g:v≠0∧X.dev=dev∧X.vni=v=>t0 g.1)];clear t0
   go_enter Tryz.func114,Tryz.ntmps114
   go_wp2;go_ret;exact ⟨rfl,vAc _ _⟩
 have z0:(v != 0)=true:=by simpa using t0
 by_cases t1:X.dev=dev
 rotate_left
 · have z1:(X.dev == dev)=false:=by simpa using t1
   rw [decide_eq_false (fun g:v≠0∧X.dev=dev∧X.vni=v=>t1 g.2.1)];clear t0 t1
   go_enter Tryz.func114,Tryz.ntmps114
   go_wp2;go_ret;exact ⟨rfl,vAc _ _⟩
 have z1:(X.dev == dev)=true:=by simpa using t1
 obtain ⟨vb,hv⟩:∃vb,(X.vni == v)=vb:=⟨_,rfl⟩
 rw [show decide (v≠0∧X.dev=dev∧X.vni=v)=vb by rw [←hv];by_cases g:X.vni=v<;>simp [g,t0,t1]]
 clear t0 t1
 go_enter Tryz.func114,Tryz.ntmps114
 go_wp2;go_ret;exact ⟨by first|rfl|simp [hv],vAc _ _⟩
theorem enters_ofnd1:vAz Tryz.prog 114:=vAt Tryz.func114 (by kernel_rfl) rfl
theorem xodev_any (N:NV) (S:NSl3) (a:Int) (w:World) (h:NRead w (vAp w) N S):Calls Tryz.prog 89 #[vAm S,.int .u32 a] w fun e w'=>e=.returned (.int .i64 (odF N a))∧Below w.heap.size w w':=by
 obtain ⟨W,hW⟩:∃W,(w.alloc (.cells (nA S) 31)).alloc (.cells #[.int .u32 a] 33)=W:=⟨_,rfl⟩;have NC:=vHk S _ _ [.int .u32 a] hW;have B0:Below w.heap.size w W:=NC.2.2
 have FS:Calls Tryz.prog 135 #[.slice S.dv.A S.dv.n S.dv.c,.func (.func 144) #[] #[.pointer (some ⟨w.heap.size+1,0,none⟩)]] W fun e w'=>e=.returned (.int .i64 (odF N a))∧Below W.heap.size W w':=
  idx_dev 144 #[.pointer (some ⟨w.heap.size+1,0,none⟩)] enters_odev1 S.dv.A S.dv.n S.dv.c N.devices W (vAn h.dv B0) _ (fun k w2 hk hb2=>by
   rw [app1]
   exact odev1 _ a _ w2 ((NC.2.1.below hb2).1 0 _ rfl)) _ (odF_fst N a S.dv.n h.dv.len)
 generalize odF N a=Z at *;have BW:=hid B0;have FS:=hid FS;subst hW;unfold vAm;clear h NC B0
 go_enter Tryz.func89,Tryz.ntmps89
 go_wp2_with (go_at_call 135;(with_reducible refine FS.out.mono ?_);rintro e wi ⟨rfl,hb⟩;have X2:=hid (vAa BW.out hb);clear hb);go_ret;exact ⟨rfl,X2.out⟩
theorem xolst_any (N:NV) (S:NSl3) (dev v:Int) (w:World) (h:NRead w (vAp w) N S):Calls Tryz.prog 92 #[vAm S,.int .i64 dev,.int .i64 v] w fun e w'=>e=.returned (.int .i64 (lsF N dev v))∧Below w.heap.size w w':=by
 obtain ⟨W,hW⟩:∃W,((w.alloc (.cells (nA S) 31)).alloc (.cells #[.int .i64 dev] 3)).alloc (.cells #[.int .i64 v] 3)=W:=⟨_,rfl⟩;have NC:=net_cs3 S _ _ _ [.int .i64 dev] [.int .i64 v] hW;have B0:Below w.heap.size w W:=NC.2.2.2
 have FS:Calls Tryz.prog 146 #[.slice S.fl.A S.fl.n S.fl.c,.func (.func 147) #[] #[.pointer (some ⟨w.heap.size+1,0,none⟩),.pointer (some ⟨w.heap.size+2,0,none⟩)]] W fun e w'=>e=.returned (.int .i64 (lsF N dev v))∧Below W.heap.size W w':=
  idx_flood 147 #[.pointer (some ⟨w.heap.size+1,0,none⟩),.pointer (some ⟨w.heap.size+2,0,none⟩)] enters_olst1 S.fl.A S.fl.n S.fl.c N.floods W (vAn h.fl B0) _ (fun k s w2 hk hb2 _=>by
   rw [app12]
   exact olst1 _ s dev v _ _ w2 ((NC.2.1.below hb2).1 0 _ rfl) ((NC.2.2.1.below hb2).1 0 _ rfl)) _ (lsF_fst N dev v S.fl.n h.fl.len)
 generalize lsF N dev v=Z at *;have BW:=hid B0;have FS:=hid FS;subst hW;unfold vAm;clear h NC B0
 go_enter Tryz.func92,Tryz.ntmps92
 go_wp2_with (go_at_call 146;(with_reducible refine FS.out.mono ?_);rintro e wi ⟨rfl,hb⟩;have X2:=hid (vAa BW.out hb);clear hb);go_ret;exact ⟨rfl,X2.out⟩
theorem vFd (N:NV) (S:NSl3) (dev v:Int) (w:World) (h:NRead w (vAp w) N S):Calls Tryz.prog 49 #[vAm S,.int .i64 dev,.int .i64 v] w fun e w'=>e=.returned (.int .i64 (fdF N dev v))∧Below w.heap.size w w':=by
 obtain ⟨W,hW⟩:∃W,((w.alloc (.cells (nA S) 31)).alloc (.cells #[.int .i64 dev] 3)).alloc (.cells #[.int .i64 v] 3)=W:=⟨_,rfl⟩;have NC:=net_cs3 S _ _ _ [.int .i64 dev] [.int .i64 v] hW;have B0:Below w.heap.size w W:=NC.2.2.2
 have FS:Calls Tryz.prog 113 #[.slice S.dm.A S.dm.n S.dm.c,.func (.func 114) #[] #[.pointer (some ⟨w.heap.size+2,0,none⟩),.pointer (some ⟨w.heap.size+1,0,none⟩)]] W fun e w'=>e=.returned (.int .i64 (fdF N dev v))∧Below W.heap.size W w':=
  idx_dom 114 #[.pointer (some ⟨w.heap.size+2,0,none⟩),.pointer (some ⟨w.heap.size+1,0,none⟩)] enters_ofnd1 S.dm.A S.dm.n S.dm.c N.domains W (vAn h.dm B0) _ (fun k s w2 hk hb2 _=>by
   rw [app12]
   exact ofnd1 _ s v dev _ _ w2 ((NC.2.2.1.below hb2).1 0 _ rfl) ((NC.2.1.below hb2).1 0 _ rfl)) _ (fdF_fst N dev v S.dm.n h.dm.len)
 generalize fdF N dev v=Z at *;have BW:=hid B0;have FS:=hid FS;subst hW;unfold vAm;clear h NC B0
 go_enter Tryz.func49,Tryz.ntmps49
 go_wp2_with (go_at_call 113;(with_reducible refine FS.out.mono ?_);rintro e wi ⟨rfl,hb⟩;have X2:=hid (vAa BW.out hb);clear hb);go_ret;exact ⟨rfl,X2.out⟩
theorem Cs.set {w:World} {q:Nat} {l:List Value} (h:Cs w q l) (j:Nat) (v:Value) (hj:j<l.length):Cs (w.setCell ⟨q,j,none⟩ v) q (l.set j v):=by
 refine ⟨fun i x hx=>?_,by simpa using h.2⟩
 by_cases e:i=j
 · subst e
   rw [List.getElem?_set_self hj] at hx
   cases hx
   exact World.cell?_setCell_same _ _ _ (h.1 i _ (List.getElem?_eq_getElem hj))
 · rw [List.getElem?_set_ne (fun g=>e g.symm)] at hx
   rw [World.cell?_setCell_other _ _ _ _ (by intro g;injection g with _ g2;first|exact e g2|exact e g2.symm)];exact h.1 i x hx
theorem Cs.far {w:World} {q p j:Nat} {l:List Value} (h:Cs w q l) (hp:p≠q) (v:Value):Cs (w.setCell ⟨p,j,none⟩ v) q l:=
 ⟨fun i x hx=>by rw [World.cell?_setCell_other _ _ _ _ (by intro g;injection g with g1;first|exact hp g1|exact hp g1.symm)];exact h.1 i x hx,by simpa using h.2⟩
theorem res_dev (tmps:Array Value) (W:World) (X:DevV) (q:Nat) (h2:tmps[2]?.getD undef=.pointer (some ⟨q,0,none⟩)) (hb:Cs W q [.int .i64 X.row,.int .i64 X.prio,.string (str X.name),.int .u64 X.mac,.int .u32 X.vtep]):
 (results Tryz.f96 tmps).run Tryz.prog W=.ok (.agg #[.int .i64 X.row,.int .i64 X.prio,.string (str X.name),.int .u64 X.mac,.int .u32 X.vtep]) W:=by
 have t0:=hb.1 0 _ rfl;have t1:=hb.1 1 _ rfl;have t2:=hb.1 2 _ rfl;have t3:=hb.1 3 _ rfl;have t4:=hb.1 4 _ rfl;clear hb;simp [results,Tryz.results96,go_sem,h2,t0,t1,t2,t3,t4]
def Got_dev (X:DevV) (w:World) (e:Ending) (w':World):Prop:=e=.returned (.agg #[.int .i64 X.row,.int .i64 X.prio,.string (str X.name),.int .u64 X.mac,.int .u32 X.vtep])∧Below w.heap.size w w'
theorem copy_dev (X:DevV) (w:World) (hs:X.name.length≤140737488351232):Calls Tryz.prog 96 #[.agg #[.int .i64 X.row,.int .i64 X.prio,.string (str X.name),.int .u64 X.mac,.int .u32 X.vtep]] w (Got_dev X w):=by
 have TC:=hid (fun w'=>tclone2 X.name w' hs);clear hs;unfold Got_dev
 go_enter Tryz.func96,Tryz.ntmps96
 go_upto_region 1 with fail
 obtain ⟨W,hW⟩:∃W,(w.alloc (.cells #[.int .i64 X.row,.int .i64 X.prio,.string (str X.name),.int .u64 X.mac,.int .u32 X.vtep] 58)).alloc (.cells #[.int .i64 0,.int .i64 0,.string ⟨#[]⟩,.int .u64 0,.int .u32 0] 58)=W:=⟨_,rfl⟩;have FA:=hid (show ∀o,W.frozen? ⟨w.heap.size,o,none⟩=false∧W.frozen? ⟨w.heap.size+1,o,none⟩=false from fun o=>by rw [←hW];exact ⟨by simp [go_sem],by simp [go_sem]⟩)
 have CA:=hid (show Cs W w.heap.size [.int .i64 X.row,.int .i64 X.prio,.string (str X.name),.int .u64 X.mac,.int .u32 X.vtep]∧Cs W (w.heap.size+1) [.int .i64 0,.int .i64 0,.string ⟨#[]⟩,.int .u64 0,.int .u32 0]∧Below w.heap.size w W from by
  have h1:=Cs.new w [.int .i64 X.row,.int .i64 X.prio,.string (str X.name),.int .u64 X.mac,.int .u32 X.vtep] 58;have h2:=Cs.new (w.alloc (.cells #[.int .i64 X.row,.int .i64 X.prio,.string (str X.name),.int .u64 X.mac,.int .u32 X.vtep] 58)) [.int .i64 0,.int .i64 0,.string ⟨#[]⟩,.int .u64 0,.int .u32 0] 58;rw [show (w.alloc (.cells #[.int .i64 X.row,.int .i64 X.prio,.string (str X.name),.int .u64 X.mac,.int .u32 X.vtep] 58)).heap.size=w.heap.size+1 by simp] at h2
  rw [←hW]
  exact ⟨h1.below (vAc _ _),h2,vBc w _ _⟩)
 rw [hW];clear hW;have KF:=hid (show ∀wx,Below W.heap.size W wx→∀o,wx.frozen? ⟨w.heap.size,o,none⟩=false∧wx.frozen? ⟨w.heap.size+1,o,none⟩=false from fun wx hx o=>⟨(World.frozen?_of_block (w:=W) (a:=⟨w.heap.size,o,none⟩) (hx.block _ CA.out.1.2)).trans (FA.out o).1,(World.frozen?_of_block (w:=W) (a:=⟨w.heap.size+1,o,none⟩) (hx.block _ CA.out.2.1.2)).trans (FA.out o).2⟩);have ql:w.heap.size<W.heap.size:=CA.out.1.2
 have ql2:w.heap.size+1<W.heap.size:=CA.out.2.1.2
 go_cut [] (fun wx=>Cs wx w.heap.size [.int .i64 X.row,.int .i64 X.prio,.string (str X.name),.int .u64 X.mac,.int .u32 X.vtep]∧Cs wx (w.heap.size+1) [.int .i64 0,.int .i64 0,.string ⟨#[]⟩,.int .u64 0,.int .u32 0]∧Below w.heap.size w wx∧W.heap.size≤wx.heap.size∧∀o,wx.frozen? ⟨w.heap.size+1,o,none⟩=false)
 case first=>
  have k2:=CA.out.1.1 2 _ rfl;go_wp2_with (go_at_call 141;(with_reducible refine (TC.out _).mono ?_);rintro e w1 ⟨rfl,hb⟩;have Y:=hid hb;have cs1:=CA.out.1.below hb;have q3:=cs1.2;have k2:=cs1.1 2 _ rfl;have z2:=(KF.out _ hb 2).1;clear hb)
  go_meet
  have D:=(CA.out.1.below Y.out).set 2 (.string (str X.name)) (by simp);exact ⟨D,(CA.out.2.1.below Y.out).far (by omega) _,(CA.out.2.2.trans (Y.out.mono CA.out.2.2.size)).setCell (Nat.le_refl _) _,by have:=Y.out.size;simpa using this,fun o=>by simp only [World.frozen?_setCell];exact (KF.out _ Y.out o).2⟩
 case rest=>
 obtain ⟨h1,h2,hb,hz,fz⟩:=hcut;rename World=>w5;have c0:=h1.1 0 _ rfl;have e0_:=h2.1 0 _ rfl;have c1:=h1.1 1 _ rfl;have e1_:=h2.1 1 _ rfl;have c2:=h1.1 2 _ rfl;have e2_:=h2.1 2 _ rfl;have c3:=h1.1 3 _ rfl;have e3_:=h2.1 3 _ rfl;have c4:=h1.1 4 _ rfl;have e4_:=h2.1 4 _ rfl;have q1:=h1.2;have q2:=h2.2;have z0:=fz 0;have z1:=fz 1;have z2:=fz 2;have z3:=fz 3;have z4:=fz 4;have CF:=hid (((((h2.set 0 (.int .i64 X.row) (by simp)).set 1 (.int .i64 X.prio) (by simp)).set 2 (.string (str X.name)) (by simp)).set 3 (.int .u64 X.mac) (by simp)).set 4 (.int .u32 X.vtep) (by simp))
 have BF:=hid (((((hb.setCell (p:=⟨w.heap.size+1,0,none⟩) (by simp) (.int .i64 X.row)).setCell (p:=⟨w.heap.size+1,1,none⟩) (by simp) (.int .i64 X.prio)).setCell (p:=⟨w.heap.size+1,2,none⟩) (by simp) (.string (str X.name))).setCell (p:=⟨w.heap.size+1,3,none⟩) (by simp) (.int .u64 X.mac)).setCell (p:=⟨w.heap.size+1,4,none⟩) (by simp) (.int .u32 X.vtep));have hh:=hid (show ∀b,W.heap.size≤b→(((((w5.setCell ⟨w.heap.size+1,0,none⟩ (.int .i64 X.row)).setCell ⟨w.heap.size+1,1,none⟩ (.int .i64 X.prio)).setCell ⟨w.heap.size+1,2,none⟩ (.string (str X.name))).setCell ⟨w.heap.size+1,3,none⟩ (.int .u64 X.mac)).setCell ⟨w.heap.size+1,4,none⟩ (.int .u32 X.vtep)).heap[b]?=w5.heap[b]? from fun b hb=>by rw [Below.heap_setCell _ _ _ _ (by intro e;simp at e;omega),Below.heap_setCell _ _ _ _ (by intro e;simp at e;omega),Below.heap_setCell _ _ _ _ (by intro e;simp at e;omega),Below.heap_setCell _ _ _ _ (by intro e;simp at e;omega),Below.heap_setCell _ _ _ _ (by intro e;simp at e;omega)])
 clear h1 h2 hb fz hz;go_wp2;refine bodyPost_ret (res_dev _ _ X (w.heap.size+1) rfl CF.out) rfl ?_;exact ⟨rfl,BF.out⟩
theorem res_dom (tmps:Array Value) (W:World) (X:DomV) (u1:Sl3) (q:Nat) (h2:tmps[2]?.getD undef=.pointer (some ⟨q,0,none⟩)) (hb:Cs W q [.int .i64 X.dev,.int .i64 X.vlan,.int .i64 X.vni,.int .i64 X.irb,.int .i64 X.row,.slice u1.A u1.n u1.c]):
 (results Tryz.f101 tmps).run Tryz.prog W=.ok (.agg #[.int .i64 X.dev,.int .i64 X.vlan,.int .i64 X.vni,.int .i64 X.irb,.int .i64 X.row,.slice u1.A u1.n u1.c]) W:=by
 have t0:=hb.1 0 _ rfl;have t1:=hb.1 1 _ rfl;have t2:=hb.1 2 _ rfl;have t3:=hb.1 3 _ rfl;have t4:=hb.1 4 _ rfl;have t5:=hb.1 5 _ rfl;clear hb;simp [results,Tryz.results101,go_sem,h2,t0,t1,t2,t3,t4,t5]
def Got_dom (X:DomV) (w:World) (e:Ending) (w':World):Prop:=∃u1:Sl3,e=.returned (.agg #[.int .i64 X.dev,.int .i64 X.vlan,.int .i64 X.vni,.int .i64 X.irb,.int .i64 X.row,.slice u1.A u1.n u1.c])∧RSl (Rdr.int .i64) w' (NFB w.heap.size w') u1.A u1.n u1.c X.peers∧Below w.heap.size w w'
theorem copy_dom (X:DomV) (s:Sl3) (w:World) (l1:RSl (Rdr.int .i64) w (vAp w) s.A s.n s.c X.peers) (z1:X.peers.length≤100):Calls Tryz.prog 101 #[.agg #[.int .i64 X.dev,.int .i64 X.vlan,.int .i64 X.vni,.int .i64 X.irb,.int .i64 X.row,.slice s.A s.n s.c]] w (Got_dom X w):=by
 have CL1:=hid (fun (w':World) (hb:Below w.heap.size w w')=>cl_int s X.peers w' (vAn l1 hb) (by omega));clear l1 z1;unfold Got_dom
 go_enter Tryz.func101,Tryz.ntmps101
 go_upto_region 1 with fail
 obtain ⟨W,hW⟩:∃W,(w.alloc (.cells #[.int .i64 X.dev,.int .i64 X.vlan,.int .i64 X.vni,.int .i64 X.irb,.int .i64 X.row,.slice s.A s.n s.c] 54)).alloc (.cells #[.int .i64 0,.int .i64 0,.int .i64 0,.int .i64 0,.int .i64 0,.slice none 0 0] 54)=W:=⟨_,rfl⟩;have FA:=hid (show ∀o,W.frozen? ⟨w.heap.size,o,none⟩=false∧W.frozen? ⟨w.heap.size+1,o,none⟩=false from fun o=>by rw [←hW];exact ⟨by simp [go_sem],by simp [go_sem]⟩)
 have CA:=hid (show Cs W w.heap.size [.int .i64 X.dev,.int .i64 X.vlan,.int .i64 X.vni,.int .i64 X.irb,.int .i64 X.row,.slice s.A s.n s.c]∧Cs W (w.heap.size+1) [.int .i64 0,.int .i64 0,.int .i64 0,.int .i64 0,.int .i64 0,.slice none 0 0]∧Below w.heap.size w W from by
  have h1:=Cs.new w [.int .i64 X.dev,.int .i64 X.vlan,.int .i64 X.vni,.int .i64 X.irb,.int .i64 X.row,.slice s.A s.n s.c] 54;have h2:=Cs.new (w.alloc (.cells #[.int .i64 X.dev,.int .i64 X.vlan,.int .i64 X.vni,.int .i64 X.irb,.int .i64 X.row,.slice s.A s.n s.c] 54)) [.int .i64 0,.int .i64 0,.int .i64 0,.int .i64 0,.int .i64 0,.slice none 0 0] 54;rw [show (w.alloc (.cells #[.int .i64 X.dev,.int .i64 X.vlan,.int .i64 X.vni,.int .i64 X.irb,.int .i64 X.row,.slice s.A s.n s.c] 54)).heap.size=w.heap.size+1 by simp] at h2
  rw [←hW]
  exact ⟨h1.below (vAc _ _),h2,vBc w _ _⟩)
 rw [hW];clear hW;have KF:=hid (show ∀wx,Below W.heap.size W wx→∀o,wx.frozen? ⟨w.heap.size,o,none⟩=false∧wx.frozen? ⟨w.heap.size+1,o,none⟩=false from fun wx hx o=>⟨(World.frozen?_of_block (w:=W) (a:=⟨w.heap.size,o,none⟩) (hx.block _ CA.out.1.2)).trans (FA.out o).1,(World.frozen?_of_block (w:=W) (a:=⟨w.heap.size+1,o,none⟩) (hx.block _ CA.out.2.1.2)).trans (FA.out o).2⟩);have ql:w.heap.size<W.heap.size:=CA.out.1.2
 have ql2:w.heap.size+1<W.heap.size:=CA.out.2.1.2
 go_cut [] (fun wx=>∃u1:Sl3,Cs wx w.heap.size [.int .i64 X.dev,.int .i64 X.vlan,.int .i64 X.vni,.int .i64 X.irb,.int .i64 X.row,.slice u1.A u1.n u1.c]∧Cs wx (w.heap.size+1) [.int .i64 0,.int .i64 0,.int .i64 0,.int .i64 0,.int .i64 0,.slice none 0 0]∧RSl (Rdr.int .i64) wx (NFB W.heap.size wx) u1.A u1.n u1.c X.peers∧Below w.heap.size w wx∧W.heap.size≤wx.heap.size∧∀o,wx.frozen? ⟨w.heap.size+1,o,none⟩=false)
 case first=>
  have k5:=CA.out.1.1 5 _ rfl;go_wp2_with (go_at_call 142;(with_reducible refine (CL1.out _ CA.out.2.2).mono ?_);rintro e w1 ⟨u,rfl,hr,hb⟩;have Y:=hid hb;have R:=hid hr;have cs1:=CA.out.1.below hb;have q3:=cs1.2;have k5:=cs1.1 5 _ rfl;have z5:=(KF.out _ hb 5).1;clear hb hr)
  go_meet
  have D:=(CA.out.1.below Y.out).set 5 (.slice u.A u.n u.c) (by simp);refine ⟨u,D,(CA.out.2.1.below Y.out).far (by omega) _,R.out.keep (F':=NFB W.heap.size _) (fun b hb=>?_) (fun b hb=>?_),(CA.out.2.2.trans (Y.out.mono CA.out.2.2.size)).setCell (Nat.le_refl _) _,by have:=Y.out.size;simpa using this,fun o=>by simp only [World.frozen?_setCell];exact (KF.out _ Y.out o).2⟩
  · exact Below.heap_setCell _ _ _ _ (by have:=hb.1;intro e;simp at e;omega)
  · exact hb.same (Below.heap_setCell _ _ _ _ (by have:=hb.1;intro e;simp at e;omega))
 case rest=>
 obtain ⟨u1,h1,h2,r1,hb,hz,fz⟩:=hcut;rename World=>w5;have c0:=h1.1 0 _ rfl;have e0_:=h2.1 0 _ rfl;have c1:=h1.1 1 _ rfl;have e1_:=h2.1 1 _ rfl;have c2:=h1.1 2 _ rfl;have e2_:=h2.1 2 _ rfl;have c3:=h1.1 3 _ rfl;have e3_:=h2.1 3 _ rfl;have c4:=h1.1 4 _ rfl;have e4_:=h2.1 4 _ rfl;have c5:=h1.1 5 _ rfl;have e5_:=h2.1 5 _ rfl;have q1:=h1.2;have q2:=h2.2;have z0:=fz 0;have z1:=fz 1;have z2:=fz 2;have z3:=fz 3
 have z4:=fz 4;have z5:=fz 5;have CF:=hid ((((((h2.set 0 (.int .i64 X.dev) (by simp)).set 1 (.int .i64 X.vlan) (by simp)).set 2 (.int .i64 X.vni) (by simp)).set 3 (.int .i64 X.irb) (by simp)).set 4 (.int .i64 X.row) (by simp)).set 5 (.slice u1.A u1.n u1.c) (by simp));have BF:=hid ((((((hb.setCell (p:=⟨w.heap.size+1,0,none⟩) (by simp) (.int .i64 X.dev)).setCell (p:=⟨w.heap.size+1,1,none⟩) (by simp) (.int .i64 X.vlan)).setCell (p:=⟨w.heap.size+1,2,none⟩) (by simp) (.int .i64 X.vni)).setCell (p:=⟨w.heap.size+1,3,none⟩) (by simp) (.int .i64 X.irb)).setCell (p:=⟨w.heap.size+1,4,none⟩) (by simp) (.int .i64 X.row)).setCell (p:=⟨w.heap.size+1,5,none⟩) (by simp) (.slice u1.A u1.n u1.c))
 have hh:=hid (show ∀b,W.heap.size≤b→((((((w5.setCell ⟨w.heap.size+1,0,none⟩ (.int .i64 X.dev)).setCell ⟨w.heap.size+1,1,none⟩ (.int .i64 X.vlan)).setCell ⟨w.heap.size+1,2,none⟩ (.int .i64 X.vni)).setCell ⟨w.heap.size+1,3,none⟩ (.int .i64 X.irb)).setCell ⟨w.heap.size+1,4,none⟩ (.int .i64 X.row)).setCell ⟨w.heap.size+1,5,none⟩ (.slice u1.A u1.n u1.c)).heap[b]?=w5.heap[b]? from fun b hb=>by rw [Below.heap_setCell _ _ _ _ (by intro e;simp at e;omega),Below.heap_setCell _ _ _ _ (by intro e;simp at e;omega),Below.heap_setCell _ _ _ _ (by intro e;simp at e;omega),Below.heap_setCell _ _ _ _ (by intro e;simp at e;omega),Below.heap_setCell _ _ _ _ (by intro e;simp at e;omega),Below.heap_setCell _ _ _ _ (by intro e;simp at e;omega)])
 have HR1:=hid r1;clear h1 h2 hb fz hz r1;go_wp2;refine bodyPost_ret (res_dom _ _ X u1 (w.heap.size+1) rfl CF.out) rfl ?_;exact ⟨u1,rfl,HR1.out.keep (F':=NFB w.heap.size _) (fun b hb=>hh.out b hb.1) (fun b hb=>(hb.low (by omega)).same (hh.out b hb.1)),BF.out⟩
theorem res_flood (tmps:Array Value) (W:World) (X:FloodV) (u1:Sl3) (q:Nat) (h2:tmps[2]?.getD undef=.pointer (some ⟨q,0,none⟩)) (hb:Cs W q [.int .i64 X.row,.int .i64 X.dev,.int .i64 X.vni,.slice u1.A u1.n u1.c]):
 (results Tryz.f104 tmps).run Tryz.prog W=.ok (.agg #[.int .i64 X.row,.int .i64 X.dev,.int .i64 X.vni,.slice u1.A u1.n u1.c]) W:=by
 have t0:=hb.1 0 _ rfl;have t1:=hb.1 1 _ rfl;have t2:=hb.1 2 _ rfl;have t3:=hb.1 3 _ rfl;clear hb;simp [results,Tryz.results104,go_sem,h2,t0,t1,t2,t3]
def Got_flood (X:FloodV) (w:World) (e:Ending) (w':World):Prop:=∃u1:Sl3,e=.returned (.agg #[.int .i64 X.row,.int .i64 X.dev,.int .i64 X.vni,.slice u1.A u1.n u1.c])∧RSl (Rdr.int .u32) w' (NFB w.heap.size w') u1.A u1.n u1.c X.addrs∧Below w.heap.size w w'
theorem copy_flood (X:FloodV) (s:Sl3) (w:World) (l1:RSl (Rdr.int .u32) w (vAp w) s.A s.n s.c X.addrs) (z1:X.addrs.length≤100):Calls Tryz.prog 104 #[.agg #[.int .i64 X.row,.int .i64 X.dev,.int .i64 X.vni,.slice s.A s.n s.c]] w (Got_flood X w):=by
 have CL1:=hid (fun (w':World) (hb:Below w.heap.size w w')=>cl_uint32 s X.addrs w' (vAn l1 hb) (by omega));clear l1 z1;unfold Got_flood
 go_enter Tryz.func104,Tryz.ntmps104
 go_upto_region 1 with fail
 obtain ⟨W,hW⟩:∃W,(w.alloc (.cells #[.int .i64 X.row,.int .i64 X.dev,.int .i64 X.vni,.slice s.A s.n s.c] 71)).alloc (.cells #[.int .i64 0,.int .i64 0,.int .i64 0,.slice none 0 0] 71)=W:=⟨_,rfl⟩;have FA:=hid (show ∀o,W.frozen? ⟨w.heap.size,o,none⟩=false∧W.frozen? ⟨w.heap.size+1,o,none⟩=false from fun o=>by rw [←hW];exact ⟨by simp [go_sem],by simp [go_sem]⟩)
 have CA:=hid (show Cs W w.heap.size [.int .i64 X.row,.int .i64 X.dev,.int .i64 X.vni,.slice s.A s.n s.c]∧Cs W (w.heap.size+1) [.int .i64 0,.int .i64 0,.int .i64 0,.slice none 0 0]∧Below w.heap.size w W from by
  have h1:=Cs.new w [.int .i64 X.row,.int .i64 X.dev,.int .i64 X.vni,.slice s.A s.n s.c] 71;have h2:=Cs.new (w.alloc (.cells #[.int .i64 X.row,.int .i64 X.dev,.int .i64 X.vni,.slice s.A s.n s.c] 71)) [.int .i64 0,.int .i64 0,.int .i64 0,.slice none 0 0] 71;rw [show (w.alloc (.cells #[.int .i64 X.row,.int .i64 X.dev,.int .i64 X.vni,.slice s.A s.n s.c] 71)).heap.size=w.heap.size+1 by simp] at h2;rw [←hW]
  exact ⟨h1.below (vAc _ _),h2,vBc w _ _⟩)
 rw [hW];clear hW;have KF:=hid (show ∀wx,Below W.heap.size W wx→∀o,wx.frozen? ⟨w.heap.size,o,none⟩=false∧wx.frozen? ⟨w.heap.size+1,o,none⟩=false from fun wx hx o=>⟨(World.frozen?_of_block (w:=W) (a:=⟨w.heap.size,o,none⟩) (hx.block _ CA.out.1.2)).trans (FA.out o).1,(World.frozen?_of_block (w:=W) (a:=⟨w.heap.size+1,o,none⟩) (hx.block _ CA.out.2.1.2)).trans (FA.out o).2⟩);have ql:w.heap.size<W.heap.size:=CA.out.1.2
 have ql2:w.heap.size+1<W.heap.size:=CA.out.2.1.2
 go_cut [] (fun wx=>∃u1:Sl3,Cs wx w.heap.size [.int .i64 X.row,.int .i64 X.dev,.int .i64 X.vni,.slice u1.A u1.n u1.c]∧Cs wx (w.heap.size+1) [.int .i64 0,.int .i64 0,.int .i64 0,.slice none 0 0]∧RSl (Rdr.int .u32) wx (NFB W.heap.size wx) u1.A u1.n u1.c X.addrs∧Below w.heap.size w wx∧W.heap.size≤wx.heap.size∧∀o,wx.frozen? ⟨w.heap.size+1,o,none⟩=false)
 case first=>
  have k3:=CA.out.1.1 3 _ rfl;go_wp2_with (go_at_call 143;(with_reducible refine (CL1.out _ CA.out.2.2).mono ?_);rintro e w1 ⟨u,rfl,hr,hb⟩;have Y:=hid hb;have R:=hid hr;have cs1:=CA.out.1.below hb;have q3:=cs1.2;have k3:=cs1.1 3 _ rfl;have z3:=(KF.out _ hb 3).1;clear hb hr)
  go_meet
  have D:=(CA.out.1.below Y.out).set 3 (.slice u.A u.n u.c) (by simp);refine ⟨u,D,(CA.out.2.1.below Y.out).far (by omega) _,R.out.keep (F':=NFB W.heap.size _) (fun b hb=>?_) (fun b hb=>?_),(CA.out.2.2.trans (Y.out.mono CA.out.2.2.size)).setCell (Nat.le_refl _) _,by have:=Y.out.size;simpa using this,fun o=>by simp only [World.frozen?_setCell];exact (KF.out _ Y.out o).2⟩
  · exact Below.heap_setCell _ _ _ _ (by have:=hb.1;intro e;simp at e;omega)
  · exact hb.same (Below.heap_setCell _ _ _ _ (by have:=hb.1;intro e;simp at e;omega))
 case rest=>
 obtain ⟨u1,h1,h2,r1,hb,hz,fz⟩:=hcut;rename World=>w5;have c0:=h1.1 0 _ rfl;have e0_:=h2.1 0 _ rfl;have c1:=h1.1 1 _ rfl;have e1_:=h2.1 1 _ rfl;have c2:=h1.1 2 _ rfl;have e2_:=h2.1 2 _ rfl;have c3:=h1.1 3 _ rfl;have e3_:=h2.1 3 _ rfl;have q1:=h1.2;have q2:=h2.2;have z0:=fz 0;have z1:=fz 1;have z2:=fz 2;have z3:=fz 3;have CF:=hid ((((h2.set 0 (.int .i64 X.row) (by simp)).set 1 (.int .i64 X.dev) (by simp)).set 2 (.int .i64 X.vni) (by simp)).set 3 (.slice u1.A u1.n u1.c) (by simp))
 have BF:=hid ((((hb.setCell (p:=⟨w.heap.size+1,0,none⟩) (by simp) (.int .i64 X.row)).setCell (p:=⟨w.heap.size+1,1,none⟩) (by simp) (.int .i64 X.dev)).setCell (p:=⟨w.heap.size+1,2,none⟩) (by simp) (.int .i64 X.vni)).setCell (p:=⟨w.heap.size+1,3,none⟩) (by simp) (.slice u1.A u1.n u1.c));have hh:=hid (show ∀b,W.heap.size≤b→((((w5.setCell ⟨w.heap.size+1,0,none⟩ (.int .i64 X.row)).setCell ⟨w.heap.size+1,1,none⟩ (.int .i64 X.dev)).setCell ⟨w.heap.size+1,2,none⟩ (.int .i64 X.vni)).setCell ⟨w.heap.size+1,3,none⟩ (.slice u1.A u1.n u1.c)).heap[b]?=w5.heap[b]? from fun b hb=>by rw [Below.heap_setCell _ _ _ _ (by intro e;simp at e;omega),Below.heap_setCell _ _ _ _ (by intro e;simp at e;omega),Below.heap_setCell _ _ _ _ (by intro e;simp at e;omega),Below.heap_setCell _ _ _ _ (by intro e;simp at e;omega)])
 have HR1:=hid r1;clear h1 h2 hb fz hz r1;go_wp2;refine bodyPost_ret (res_flood _ _ X u1 (w.heap.size+1) rfl CF.out) rfl ?_;exact ⟨u1,rfl,HR1.out.keep (F':=NFB w.heap.size _) (fun b hb=>hh.out b hb.1) (fun b hb=>(hb.low (by omega)).same (hh.out b hb.1)),BF.out⟩
end Go.Proofs.YtgmflecelnefcaaGreat
