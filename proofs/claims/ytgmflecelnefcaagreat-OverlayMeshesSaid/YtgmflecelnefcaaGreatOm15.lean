import Derived.Test.YtgmflecelnefcaaGreatOm05
import Derived.Deep.CutBlock
import Derived.Deep.DeepCutAuto
set_option maxRecDepth 100000
set_option maxHeartbeats 40000000
namespace Go.Proofs.YtgmflecelnefcaaGreat
open Go.Lib (hid)
open Go.RowKit
structure NvSz (N:NV):Prop where
 zdv:N.devices.length≤200
 zpt:N.ports.length≤200
 zlk:N.links.length≤200
 zdm:N.domains.length≤200
 zst:N.statics.length≤200
 zfl:N.floods.length≤200
 zvr:N.vrfs.length≤200
 zir:N.irbs.length≤200
 ipt:∀j,j<N.ports.length→(N.ports.getD j PortV.zero).tagged.length≤100
 idm:∀j,j<N.domains.length→(N.domains.getD j DomV.zero).peers.length≤100
 ifl:∀j,j<N.floods.length→(N.floods.getD j FloodV.zero).addrs.length≤100
 ivr:∀j,j<N.vrfs.length→(N.vrfs.getD j VrfV.zero).imports.length≤100∧(N.vrfs.getD j VrfV.zero).exports.length≤100
def GotNG (N:NV) (w:World) (e:Ending) (w':World):Prop:=∃g,e=.returned (.bool g)∧(g=false→NvSz N)∧Below w.heap.size w w'
theorem ngreat_any (N:NV) (S:NSl3) (w:World) (h:NRead w (allB w) N S):Calls Tryz.prog 16 #[netV S] w (GotNG N w):=by
 have LE_dv:=hid h.dv.len;have hle_dv:=h.dv.le;have hcap_dv:=h.dv.cap;have LE_pt:=hid h.pt.len;have hle_pt:=h.pt.le;have hcap_pt:=h.pt.cap;have LE_lk:=hid h.lk.len;have hle_lk:=h.lk.le;have hcap_lk:=h.lk.cap;have LE_dm:=hid h.dm.len;have hle_dm:=h.dm.le;have hcap_dm:=h.dm.cap;have LE_st:=hid h.st.len;have hle_st:=h.st.le;have hcap_st:=h.st.cap;have LE_fl:=hid h.fl.len;have hle_fl:=h.fl.le
 have hcap_fl:=h.fl.cap;have LE_vr:=hid h.vr.len;have hle_vr:=h.vr.le;have hcap_vr:=h.vr.cap;have LE_ir:=hid h.ir.len;have hle_ir:=h.ir.le;have hcap_ir:=h.ir.cap;have H_pt:=hid h.pt;have H_dm:=hid h.dm;have H_fl:=hid h.fl;have H_vr:=hid h.vr;have NB:=hid (NBox.new w S 31);have B0:=hid (show Below w.heap.size w (w.alloc (.cells (nA S) 31)) from (Below.refl _ _).alloc (Nat.le_refl _) _)
 unfold netV;clear h
 by_cases c_dv:200<S.dv.n
 · have z_dv:(200:Int)<(S.dv.n:Int):=by omega
   clear c_dv
   go_enter Tryz.func16,Tryz.ntmps16
   go_wp2;go_ret;exact ⟨true,rfl,fun e=>(by cases e),B0.out⟩
 have z_dv:¬(200:Int)<(S.dv.n:Int):=by omega
 have hz_dv:S.dv.n≤200:=by omega
 clear c_dv
 by_cases c_pt:200<S.pt.n
 · have z_pt:(200:Int)<(S.pt.n:Int):=by omega
   clear c_pt
   go_enter Tryz.func16,Tryz.ntmps16
   go_wp2;go_ret;exact ⟨true,rfl,fun e=>(by cases e),B0.out⟩
 have z_pt:¬(200:Int)<(S.pt.n:Int):=by omega
 have hz_pt:S.pt.n≤200:=by omega
 clear c_pt
 by_cases c_lk:200<S.lk.n
 · have z_lk:(200:Int)<(S.lk.n:Int):=by omega
   clear c_lk
   go_enter Tryz.func16,Tryz.ntmps16
   go_wp2;go_ret;exact ⟨true,rfl,fun e=>(by cases e),B0.out⟩
 have z_lk:¬(200:Int)<(S.lk.n:Int):=by omega
 have hz_lk:S.lk.n≤200:=by omega
 clear c_lk
 by_cases c_dm:200<S.dm.n
 · have z_dm:(200:Int)<(S.dm.n:Int):=by omega
   clear c_dm
   go_enter Tryz.func16,Tryz.ntmps16
   go_wp2;go_ret;exact ⟨true,rfl,fun e=>(by cases e),B0.out⟩
 have z_dm:¬(200:Int)<(S.dm.n:Int):=by omega
 have hz_dm:S.dm.n≤200:=by omega
 clear c_dm
 by_cases c_st:200<S.st.n
 · have z_st:(200:Int)<(S.st.n:Int):=by omega
   clear c_st
   go_enter Tryz.func16,Tryz.ntmps16
   go_wp2;go_ret;exact ⟨true,rfl,fun e=>(by cases e),B0.out⟩
 have z_st:¬(200:Int)<(S.st.n:Int):=by omega
 have hz_st:S.st.n≤200:=by omega
 clear c_st
 by_cases c_fl:200<S.fl.n
 · have z_fl:(200:Int)<(S.fl.n:Int):=by omega
   clear c_fl
   go_enter Tryz.func16,Tryz.ntmps16
   go_wp2;go_ret;exact ⟨true,rfl,fun e=>(by cases e),B0.out⟩
 have z_fl:¬(200:Int)<(S.fl.n:Int):=by omega
 have hz_fl:S.fl.n≤200:=by omega
 clear c_fl
 by_cases c_vr:200<S.vr.n
 · have z_vr:(200:Int)<(S.vr.n:Int):=by omega
   clear c_vr
   go_enter Tryz.func16,Tryz.ntmps16
   go_wp2;go_ret;exact ⟨true,rfl,fun e=>(by cases e),B0.out⟩
 have z_vr:¬(200:Int)<(S.vr.n:Int):=by omega
 have hz_vr:S.vr.n≤200:=by omega
 clear c_vr
 by_cases c_ir:200<S.ir.n
 · have z_ir:(200:Int)<(S.ir.n:Int):=by omega
   clear c_ir
   go_enter Tryz.func16,Tryz.ntmps16
   go_wp2;go_ret;exact ⟨true,rfl,fun e=>(by cases e),B0.out⟩
 have z_ir:¬(200:Int)<(S.ir.n:Int):=by omega
 have hz_ir:S.ir.n≤200:=by omega
 clear c_ir
 go_enter Tryz.func16,Tryz.ntmps16
 go_upto_block 0 with fail
 obtain ⟨w1,hw1⟩:∃w1,w.alloc (.cells (nA S) 31)=w1:=⟨_,rfl⟩;rw [hw1] at NB B0 ⊢;clear hw1
 go_cut [] (fun wx=>(∀j,j<S.pt.n→(N.ports.getD j PortV.zero).tagged.length≤100)∧w1=wx)
 case first=>
  have nx:=NB.out.c1;go_wp2_with fail
  go_loopw [3] (fun i wr=>∃k:Nat,i=.int .i64 k∧k≤S.pt.n∧wr=w1∧∀j,j<k→(N.ports.getD j PortV.zero).tagged.length≤100) (fun i _=>match i with| .int _ y=>(S.pt.n - y).toNat|_=>0)
  case atStart=>exact ⟨0,rfl,by omega,rfl,fun j hj=>absurd hj (by omega)⟩
  case round=>
  obtain ⟨k,rfl,hk,hwr,hall⟩:=hrel;subst hwr;have AL:=hid hall;clear hall
  by_cases hlt:k<S.pt.n
  rotate_left
  · have lt2:¬(k:Int)<(S.pt.n:Int):=by omega
    go_wp2
    go_meet
    exact ⟨fun j hj=>AL.out j (by omega),rfl⟩
  obtain ⟨b0,o0,vs,e0,_,hb0,⟨s,rfl,l1⟩,r0⟩:=rsl_at H_pt.out k hlt PortV.zero
  have ALk:=hid (show ((N.ports.getD k PortV.zero).tagged.length≤100)→∀j,j<k+1→(N.ports.getD j PortV.zero).tagged.length≤100 from fun hp j hj=>by
   rcases Nat.lt_or_ge j k with h'|h'
   · exact AL.out j h'
   · obtain rfl:j=k:=by omega
     exact hp)
  have R0:=rangeAt_keep r0 (B0.out.block b0 hb0);have d6:=R0 6 _ rfl;have hs0:=hid l1.len;have qa0:=l1.le;have qb0:=l1.cap;rw [show o0+k * portR.n=o0+k * 7 from rfl] at d6;generalize N.ports.getD k PortV.zero=X at *
  have lt2:(k:Int)<(S.pt.n:Int):=by omega
  rw [e0] at nx;clear r0 R0 e0 l1
  by_cases g0:100<s.n
  · have y0:(100:Int)<(s.n:Int):=by omega
    clear g0;go_wp2;go_ret;exact ⟨true,rfl,fun e=>(by cases e),B0.out⟩
  have y0:¬(100:Int)<(s.n:Int):=by omega
  have OK:=hid (ALk.out (by rw [hs0.out];omega));go_wp2
  go_roundw
  case rel=>exact ⟨k+1,by simp,by omega,(by first|rfl|trivial),OK.out⟩
  case measure=>simp only [];omega
 case rest=>
 obtain ⟨hall0,rfl⟩:=hcut;have ALL0:=hid hall0;clear hall0
 go_upto_block 2 with fail
 go_cut [] (fun wx=>(∀j,j<S.dm.n→(N.domains.getD j DomV.zero).peers.length≤100)∧w1=wx)
 case first=>
  have nx:=NB.out.c3;go_wp2_with fail
  go_loopw [4] (fun i wr=>∃k:Nat,i=.int .i64 k∧k≤S.dm.n∧wr=w1∧∀j,j<k→(N.domains.getD j DomV.zero).peers.length≤100) (fun i _=>match i with| .int _ y=>(S.dm.n - y).toNat|_=>0)
  case atStart=>exact ⟨0,rfl,by omega,rfl,fun j hj=>absurd hj (by omega)⟩
  case round=>
  obtain ⟨k,rfl,hk,hwr,hall⟩:=hrel;subst hwr;have AL:=hid hall;clear hall
  by_cases hlt:k<S.dm.n
  rotate_left
  · have lt2:¬(k:Int)<(S.dm.n:Int):=by omega
    go_wp2
    go_meet
    exact ⟨fun j hj=>AL.out j (by omega),rfl⟩
  obtain ⟨b0,o0,vs,e0,_,hb0,⟨s,rfl,l1⟩,r0⟩:=rsl_at H_dm.out k hlt DomV.zero
  have ALk:=hid (show ((N.domains.getD k DomV.zero).peers.length≤100)→∀j,j<k+1→(N.domains.getD j DomV.zero).peers.length≤100 from fun hp j hj=>by
   rcases Nat.lt_or_ge j k with h'|h'
   · exact AL.out j h'
   · obtain rfl:j=k:=by omega
     exact hp)
  have R0:=rangeAt_keep r0 (B0.out.block b0 hb0);have d5:=R0 5 _ rfl;have hs0:=hid l1.len;have qa0:=l1.le;have qb0:=l1.cap;rw [show o0+k * domR.n=o0+k * 6 from rfl] at d5;generalize N.domains.getD k DomV.zero=X at *
  have lt2:(k:Int)<(S.dm.n:Int):=by omega
  rw [e0] at nx;clear r0 R0 e0 l1
  by_cases g0:100<s.n
  · have y0:(100:Int)<(s.n:Int):=by omega
    clear g0;go_wp2;go_ret;exact ⟨true,rfl,fun e=>(by cases e),B0.out⟩
  have y0:¬(100:Int)<(s.n:Int):=by omega
  have OK:=hid (ALk.out (by rw [hs0.out];omega));go_wp2
  go_roundw
  case rel=>exact ⟨k+1,by simp,by omega,(by first|rfl|trivial),OK.out⟩
  case measure=>simp only [];omega
 case rest=>
 obtain ⟨hall1,rfl⟩:=hcut;have ALL1:=hid hall1;clear hall1
 go_upto_block 4 with fail
 go_cut [] (fun wx=>(∀j,j<S.fl.n→(N.floods.getD j FloodV.zero).addrs.length≤100)∧w1=wx)
 case first=>
  have nx:=NB.out.c5;go_wp2_with fail
  go_loopw [5] (fun i wr=>∃k:Nat,i=.int .i64 k∧k≤S.fl.n∧wr=w1∧∀j,j<k→(N.floods.getD j FloodV.zero).addrs.length≤100) (fun i _=>match i with| .int _ y=>(S.fl.n - y).toNat|_=>0)
  case atStart=>exact ⟨0,rfl,by omega,rfl,fun j hj=>absurd hj (by omega)⟩
  case round=>
  obtain ⟨k,rfl,hk,hwr,hall⟩:=hrel;subst hwr;have AL:=hid hall;clear hall
  by_cases hlt:k<S.fl.n
  rotate_left
  · have lt2:¬(k:Int)<(S.fl.n:Int):=by omega
    go_wp2
    go_meet
    exact ⟨fun j hj=>AL.out j (by omega),rfl⟩
  obtain ⟨b0,o0,vs,e0,_,hb0,⟨s,rfl,l1⟩,r0⟩:=rsl_at H_fl.out k hlt FloodV.zero
  have ALk:=hid (show ((N.floods.getD k FloodV.zero).addrs.length≤100)→∀j,j<k+1→(N.floods.getD j FloodV.zero).addrs.length≤100 from fun hp j hj=>by
   rcases Nat.lt_or_ge j k with h'|h'
   · exact AL.out j h'
   · obtain rfl:j=k:=by omega
     exact hp)
  have R0:=rangeAt_keep r0 (B0.out.block b0 hb0);have d3:=R0 3 _ rfl;have hs0:=hid l1.len;have qa0:=l1.le;have qb0:=l1.cap;rw [show o0+k * floodR.n=o0+k * 4 from rfl] at d3;generalize N.floods.getD k FloodV.zero=X at *
  have lt2:(k:Int)<(S.fl.n:Int):=by omega
  rw [e0] at nx;clear r0 R0 e0 l1
  by_cases g0:100<s.n
  · have y0:(100:Int)<(s.n:Int):=by omega
    clear g0;go_wp2;go_ret;exact ⟨true,rfl,fun e=>(by cases e),B0.out⟩
  have y0:¬(100:Int)<(s.n:Int):=by omega
  have OK:=hid (ALk.out (by rw [hs0.out];omega));go_wp2
  go_roundw
  case rel=>exact ⟨k+1,by simp,by omega,(by first|rfl|trivial),OK.out⟩
  case measure=>simp only [];omega
 case rest=>
 obtain ⟨hall2,rfl⟩:=hcut;have ALL2:=hid hall2;clear hall2
 go_upto_block 6 with fail
 go_cut [] (fun wx=>(∀j,j<S.vr.n→(N.vrfs.getD j VrfV.zero).imports.length≤100∧(N.vrfs.getD j VrfV.zero).exports.length≤100)∧w1=wx)
 case first=>
  have nx:=NB.out.c6;go_wp2_with fail
  go_loopw [6] (fun i wr=>∃k:Nat,i=.int .i64 k∧k≤S.vr.n∧wr=w1∧∀j,j<k→(N.vrfs.getD j VrfV.zero).imports.length≤100∧(N.vrfs.getD j VrfV.zero).exports.length≤100) (fun i _=>match i with| .int _ y=>(S.vr.n - y).toNat|_=>0)
  case atStart=>exact ⟨0,rfl,by omega,rfl,fun j hj=>absurd hj (by omega)⟩
  case round=>
  obtain ⟨k,rfl,hk,hwr,hall⟩:=hrel;subst hwr;have AL:=hid hall;clear hall
  by_cases hlt:k<S.vr.n
  rotate_left
  · have lt2:¬(k:Int)<(S.vr.n:Int):=by omega
    go_wp2
    go_meet
    exact ⟨fun j hj=>AL.out j (by omega),rfl⟩
  obtain ⟨b0,o0,vs,e0,_,hb0,⟨s,t,rfl,l1,l2⟩,r0⟩:=rsl_at H_vr.out k hlt VrfV.zero
  have ALk:=hid (show ((N.vrfs.getD k VrfV.zero).imports.length≤100∧(N.vrfs.getD k VrfV.zero).exports.length≤100)→∀j,j<k+1→(N.vrfs.getD j VrfV.zero).imports.length≤100∧(N.vrfs.getD j VrfV.zero).exports.length≤100 from fun hp j hj=>by
   rcases Nat.lt_or_ge j k with h'|h'
   · exact AL.out j h'
   · obtain rfl:j=k:=by omega
     exact hp)
  have R0:=rangeAt_keep r0 (B0.out.block b0 hb0);have d3:=R0 3 _ rfl;have hs0:=hid l1.len;have qa0:=l1.le;have qb0:=l1.cap;have d4:=R0 4 _ rfl;have hs1:=hid l2.len;have qa1:=l2.le;have qb1:=l2.cap;rw [show o0+k * vrfR.n=o0+k * 5 from rfl] at d3 d4;generalize N.vrfs.getD k VrfV.zero=X at *
  have lt2:(k:Int)<(S.vr.n:Int):=by omega
  rw [e0] at nx;clear r0 R0 e0 l1 l2
  by_cases g0:100<s.n
  · have y0:(100:Int)<(s.n:Int):=by omega
    clear g0;go_wp2;go_ret;exact ⟨true,rfl,fun e=>(by cases e),B0.out⟩
  have y0:¬(100:Int)<(s.n:Int):=by omega
  by_cases g1:100<t.n
  · have y1:(100:Int)<(t.n:Int):=by omega
    clear g1;go_wp2;go_ret;exact ⟨true,rfl,fun e=>(by cases e),B0.out⟩
  have y1:¬(100:Int)<(t.n:Int):=by omega
  have OK:=hid (ALk.out ⟨by rw [hs0.out];omega,by rw [hs1.out];omega⟩);go_wp2
  go_roundw
  case rel=>exact ⟨k+1,by simp,by omega,(by first|rfl|trivial),OK.out⟩
  case measure=>simp only [];omega
 case rest=>
 obtain ⟨hall3,rfl⟩:=hcut;have ALL3:=hid hall3;clear hall3;have EV:=hid (show NvSz N from ⟨by rw [LE_dv.out];exact hz_dv,by rw [LE_pt.out];exact hz_pt,by rw [LE_lk.out];exact hz_lk,by rw [LE_dm.out];exact hz_dm,by rw [LE_st.out];exact hz_st,by rw [LE_fl.out];exact hz_fl,by rw [LE_vr.out];exact hz_vr,by rw [LE_ir.out];exact hz_ir,fun j hj=>ALL0.out j (by rw [LE_pt.out] at hj;exact hj),fun j hj=>ALL1.out j (by rw [LE_dm.out] at hj;exact hj),fun j hj=>ALL2.out j (by rw [LE_fl.out] at hj;exact hj),fun j hj=>ALL3.out j (by rw [LE_vr.out] at hj;exact hj)⟩)
 go_wp2;go_ret;exact ⟨false,rfl,fun _=>EV.out,B0.out⟩
end Go.Proofs.YtgmflecelnefcaaGreat
