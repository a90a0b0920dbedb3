import Derived.Test.YtgmflecelnefcaaGreatOm46
import Derived.Test.YtgmflecelnefcaaGreatOm34
import Derived.SizedLaws
import Derived.OpenShut
import Derived.ShutString
import Derived.ChangeOld
import Derived.Below
import Derived.Lib.SmallJoins
import Derived.Test.YtgmflecelnefcaaGreatRows
set_option maxRecDepth 100000
set_option maxHeartbeats 40000000
namespace Go.Proofs.YtgmflecelnefcaaGreat.overlayMeshes
open Go.ChangeShapes Go.WideShapes Go.ChangeAt Go.RowKit Go.Joins
theorem own:ownKnob Tryz.prog.godebug=none:=by kernel_rfl
theorem laidOut:laidOutB Tryz.prog=true:=by kernel_rfl
theorem lifted (os:Os) (started:os.Started) (H:Type) (enc:TypeId×Value→H):
 ReturnsInHanded {} Tryz.checked os 4 .any (Rows.overlayMeshesSpec.pre6 enc Tryz.prog Tryz.f4 Rows.overlayMeshesRow.domain false) (Rows.overlayMeshesSpec.post enc Tryz.prog Tryz.f4 false true false false):=by
 have same:(fun w args=>(Rows.overlayMeshesSpec.pre enc Tryz.prog Tryz.f4 Rows.overlayMeshesRow.domain false w args∧True)∧sizedMet enc Tryz.prog Tryz.f4 (OpenSpec.ofChange Rows.overlayMeshesSpec) false w args)=Rows.overlayMeshesSpec.pre6 enc Tryz.prog Tryz.f4 Rows.overlayMeshesRow.domain false:=by
  funext w args
  simp [ChangeSpec.pre6]
 rw [←same]
 refine returnsInHanded_of_change_and (C:=Tryz.checked) (X:=fun _ _=>True) (fun _ _ _ _ _=>trivial) own started (by kernel_rfl) Tryz.func4
  (by obtain ⟨w,t,i,x1,x2,x3,x4,⟨x5,x6⟩,x7⟩:=ChangeSpec.witness6 (enc:=enc) (C:=Tryz.checked) (os:=os) (s:=Rows.overlayMeshesSpec) (conds:=Rows.overlayMeshesRow.domain) false ⟨#[],#[.agg #[.slice none 0 0,.slice none 0 0,.slice none 0 0,.slice none 0 0,.slice none 0 0,.slice none 0 0,.slice none 0 0,.slice none 0 0],.int .i64 0,.int .i64 0],[]⟩ 8 (by kernel_rfl) (by kernel_rfl) (by kernel_rfl) (by kernel_rfl);exact ⟨w,t,i,x1,x2,x3,x4,⟨⟨x5,trivial⟩,x6⟩,x7⟩) ?_
 intro W base args ds gs before hval0 hW hcnd hwt _ _;have hval:∀(j:Nat) t v,Tryz.f4.params[j]?=some t→args[j]?=some v→Value.okWide Tryz.prog W .any base t v:=hval0;have hW':=hW;obtain ⟨p,q,hA0,hV,rfl,hfz,hnd⟩:=hW;have hA:DataW.TrodAll enc Tryz.prog W 0 (fun _=>true) true Tryz.f4.params.toList args.toList ds p:=hA0;rw [Tryz.params4] at hA hval;obtain ⟨v0,vs0,d0,ds0,p0,q0,hargs,rfl,rfl,h0,r0⟩:=trodAll_cons hA
 obtain ⟨v1,vs1,d1,ds1,p1,q1,rfl,rfl,rfl,h1,r1⟩:=trodAll_cons r0;obtain ⟨v2,vs2,d2,ds2,p2,q2,rfl,rfl,rfl,h2,r2⟩:=trodAll_cons r1;obtain ⟨rfl,rfl,rfl⟩:=trodAll_nil r2
 obtain rfl:args=#[v0,v1,v2]:=by cases args;simp_all
 obtain ⟨rfl,rfl⟩:=trodVars_none hV;have k0:=h0
 have lt0:∀x∈p0,x.block<W.heap.size:=by obtain ⟨m,hm⟩:=k0;exact DataW.trod_lt m _ _ _ hm
 obtain ⟨⟨l0⟩,rfl,_⟩:=okWide_struct Tryz.underlying31 (hval 0 31 v0 rfl rfl)
 obtain ⟨N0,S0,e0,n0⟩:∃N S,l0=netC S∧NRead W (allB W) N S:=by
  obtain ⟨fuel,hf⟩:=h0;obtain ⟨N,S,hcs,hr⟩:=net_of _ _ _ _ _ _ _ _ hf;exact ⟨N,S,by simpa [Value.cells] using hcs,hr⟩
 subst e0;obtain ⟨a1,rfl,rfl,rfl,w1⟩:=open_int Tryz.underlying3 (hval 1 3 v1 rfl rfl) h1;obtain ⟨a2,rfl,rfl,rfl,w2⟩:=open_int Tryz.underlying3 (hval 2 3 v2 rfl rfl) h2
 change (DataW.weightsEach Tryz.prog _ _).all _=true at hwt
 have hreach:reachBytes=140737488351232:=rfl
 have hs0:NmSz N0:=by
  obtain ⟨fuel,hf⟩:=k0;refine net_sz N0 S0 (x:=(d0,p0)) (by simpa [Value.cells] using hf) (fun i hi=>?_) n0;have hmem:=List.all_eq_true.1 hwt i (DataW.weights_mem_each (j:=0) (t:=31) (d:=d0) (by rw [Tryz.params4];rfl) rfl i hi);simpa using hmem
 clear hA0 hval0
 refine (omeshes_walk N0 S0 a1 a2 W n0 hs0).mono fun e W' ⟨he,bel⟩=>?_
 subst he;exact ⟨_,rfl,_,_,_,[],_,[],hW',trodAll_mk1 (shut_bool Tryz.underlying4 _),(trodAll_cons_mk (Below.trod laidOut (by kernel_rfl) (of_decide_eq_true (by kernel_rfl)) k0 bel lt0) (trodAll_cons_mk (shut_int Tryz.underlying3 w1) (trodAll_cons_mk (shut_int Tryz.underlying3 w2) trodAll_mk0))),rfl,bel.frame _,fun h=>by cases h⟩
theorem overlayMeshes_holds:Rows.OverlayMeshesSaid:=
 OpenClaim.holds_of_wide 4 Tryz.f4 rfl rfl rfl rfl rfl rfl rfl ⟨rfl,rfl,rfl,rfl,rfl⟩ rfl rfl rfl rfl rfl (by kernel_rfl) Tryz.func4 (by kernel_rfl)
  (of_decide_eq_true (by kernel_rfl)) (by unfold Func.isWrapper;first|(rw [if_pos (by decide +kernel)];kernel_rfl)|(rw [if_neg (by decide +kernel)];exact ⟨rfl,rfl⟩))
  (fun os started H enc _=>lifted os started H enc)
#print axioms overlayMeshes_holds
end Go.Proofs.YtgmflecelnefcaaGreat.overlayMeshes
