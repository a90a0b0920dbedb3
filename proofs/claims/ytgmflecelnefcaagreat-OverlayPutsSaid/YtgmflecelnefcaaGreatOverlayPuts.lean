import Derived.Test.YtgmflecelnefcaaGreatOp51
import Derived.SizedLaws
import Derived.OpenShut
import Derived.ShutString
import Derived.ChangeOld
import Derived.Below
import Derived.Lib.SmallJoins
set_option maxRecDepth 100000
set_option maxHeartbeats 40000000
namespace Go.Proofs.YtgmflecelnefcaaGreat.overlayPuts
open Go.ChangeShapes Go.WideShapes Go.ChangeAt Go.RowKit Go.Joins
theorem own:ownKnob Tryz.prog.godebug=none:=by kernel_rfl
theorem laidOut:laidOutB Tryz.prog=true:=by kernel_rfl
theorem lifted (os:Os) (started:os.Started) (H:Type) (enc:TypeId×Value→H):
 ReturnsInHanded {} Tryz.checked os 3 .any (Rows.overlayPutsSpec.pre6 enc Tryz.prog Tryz.f3 Rows.overlayPutsRow.domain false) (Rows.overlayPutsSpec.post enc Tryz.prog Tryz.f3 false true false false):=by
 have same:(fun w args=>(Rows.overlayPutsSpec.pre enc Tryz.prog Tryz.f3 Rows.overlayPutsRow.domain false w args∧True)∧sizedMet enc Tryz.prog Tryz.f3 (OpenSpec.ofChange Rows.overlayPutsSpec) false w args)=Rows.overlayPutsSpec.pre6 enc Tryz.prog Tryz.f3 Rows.overlayPutsRow.domain false:=by
  funext w args
  simp [ChangeSpec.pre6]
 rw [←same]
 refine returnsInHanded_of_change_and (C:=Tryz.checked) (X:=fun _ _=>True) (fun _ _ _ _ _=>trivial) own started (by kernel_rfl) Tryz.func3
  (by obtain ⟨w,t,i,x1,x2,x3,x4,⟨x5,x6⟩,x7⟩:=ChangeSpec.witness6 (enc:=enc) (C:=Tryz.checked) (os:=os) (s:=Rows.overlayPutsSpec) (conds:=Rows.overlayPutsRow.domain) false ⟨#[],#[.agg #[.slice none 0 0,.slice none 0 0,.slice none 0 0,.slice none 0 0,.slice none 0 0,.slice none 0 0,.slice none 0 0,.slice none 0 0],.agg #[.int .i64 0,.int .i64 0,.string ByteArray.empty,.string ByteArray.empty,.string ByteArray.empty,.string ByteArray.empty,.string ByteArray.empty,.int .u64 0,.int .u32 0,.int .i64 0,.int .i64 0,.int .i64 0,.int .i64 0,.slice none 0 0,.slice none 0 0,.slice none 0 0,.slice none 0 0]],[]⟩ 8 (by kernel_rfl) (by kernel_rfl) (by kernel_rfl) (by kernel_rfl);exact ⟨w,t,i,x1,x2,x3,x4,⟨⟨x5,trivial⟩,x6⟩,x7⟩) ?_
 intro W base args ds gs before hval0 hW hcnd hwt _ _;have hval:∀(j:Nat) t v,Tryz.f3.params[j]?=some t→args[j]?=some v→Value.okWide Tryz.prog W .any base t v:=hval0;have hW':=hW;obtain ⟨p,q,hA0,hV,rfl,hfz,hnd⟩:=hW;have hA:DataW.TrodAll enc Tryz.prog W 0 (fun _=>true) true Tryz.f3.params.toList args.toList ds p:=hA0;rw [Tryz.params3] at hA hval;obtain ⟨v0,vs0,d0,ds0,p0,q0,hargs,rfl,rfl,h0,r0⟩:=trodAll_cons hA
 obtain ⟨v1,vs1,d1,ds1,p1,q1,rfl,rfl,rfl,h1,r1⟩:=trodAll_cons r0;obtain ⟨rfl,rfl,rfl⟩:=trodAll_nil r1
 obtain rfl:args=#[v0,v1]:=by cases args;simp_all
 obtain ⟨rfl,rfl⟩:=trodVars_none hV;have k0:=h0
 have lt0:∀x∈p0,x.block<W.heap.size:=by obtain ⟨m,hm⟩:=k0;exact DataW.trod_lt m _ _ _ hm
 obtain ⟨⟨l0⟩,rfl,_⟩:=okWide_struct Tryz.underlying31 (hval 0 31 v0 rfl rfl)
 obtain ⟨N0,S0,e0,n0⟩:∃N S,l0=vBk S∧NRead W (vAp W) N S:=by
  obtain ⟨fuel,hf⟩:=h0;obtain ⟨N,S,hcs,hr⟩:=net_of _ _ _ _ _ _ _ _ hf;exact ⟨N,S,by simpa [Value.cells] using hcs,hr⟩
 subst e0;have k1:=h1
 have lt1:∀x∈p1,x.block<W.heap.size:=by obtain ⟨m,hm⟩:=k1;exact DataW.trod_lt m _ _ _ hm
 obtain ⟨⟨l1⟩,rfl,_⟩:=okWide_struct Tryz.underlying37 (hval 1 37 v1 rfl rfl)
 obtain ⟨L1,sa1,sb1,sc1,sd1,e1,rl1,wl1⟩:∃L s1 s2 s3 s4,l1=vEl L s1 s2 s3 s4∧LRead W L s1 s2 s3 s4∧LvW L:=by
  obtain ⟨fuel,hf⟩:=h1;obtain ⟨L,s1,s2,s3,s4,hcs,hr,hw⟩:=line_par hf;exact ⟨L,s1,s2,s3,s4,by simpa [Value.cells] using hcs,hr,hw⟩
 subst e1
 change (DataW.weightsEach Tryz.prog _ _).all _=true at hwt
 have hreach:reachBytes=140737488351232:=rfl
 have hs0:NmSz N0:=by
  obtain ⟨fuel,hf⟩:=k0;refine net_sz N0 S0 (x:=(d0,p0)) (by simpa [Value.cells] using hf) (fun i hi=>?_) n0;have hmem:=List.all_eq_true.1 hwt i (DataW.weights_mem_each (j:=0) (t:=31) (d:=d0) (by rw [Tryz.params3];rfl) rfl i hi);simpa using hmem
 have hv0:VtOk N0:=by
  obtain ⟨fuel,hf⟩:=k0;exact net_vt N0 S0 (x:=(d0,p0)) (by simpa [Value.cells] using hf) n0
 clear hA0 hval0
 refine (oputs_walk N0 S0 L1 sa1 sb1 sc1 sd1 W n0 rl1 hs0 wl1 hv0).mono fun e W' ⟨he,bel⟩=>?_
 subst he;exact ⟨_,rfl,_,_,_,[],_,[],hW',trodAll_mk1 (shut_bool Tryz.underlying4 _),(trodAll_cons_mk (Below.trod laidOut (by kernel_rfl) (of_decide_eq_true (by kernel_rfl)) k0 bel lt0) (trodAll_cons_mk (Below.trod laidOut (by kernel_rfl) (of_decide_eq_true (by kernel_rfl)) k1 bel lt1) trodAll_mk0)),rfl,bel.frame _,fun h=>by cases h⟩
theorem overlayPuts_holds:Rows.OverlayPutsSaid:=
 OpenClaim.holds_of_wide 3 Tryz.f3 rfl rfl rfl rfl rfl rfl rfl ⟨rfl,rfl,rfl,rfl,rfl⟩ rfl rfl rfl rfl rfl (by kernel_rfl) Tryz.func3 (by kernel_rfl)
  (of_decide_eq_true (by kernel_rfl)) (by unfold Func.isWrapper;first|(rw [if_pos (by decide +kernel)];kernel_rfl)|(rw [if_neg (by decide +kernel)];exact ⟨rfl,rfl⟩))
  (fun os started H enc _=>lifted os started H enc)
#print axioms overlayPuts_holds
end Go.Proofs.YtgmflecelnefcaaGreat.overlayPuts
