import Derived.Test.YtgnkpbgaoiaefaaGreatPb51
import Derived.Test.YtgnkpbgaoiaefaaGreatPb01
import Derived.Test.YtgnkpbgaoiaefaaGreatPb37
set_option maxRecDepth 100000
set_option maxHeartbeats 40000000
namespace Go.Proofs.YtgnkpbgaoiaefaaGreat
open Go.ChangeShapes Go.WideShapes Go.ChangeAt Go.RowKit
section
variable {H:Type} {enc:TypeId×Value→H} {P:Program} {w:World} {sp:Nat→Bool} {held:Bool}
theorem wf_i {z:Int} (h:(Lit.int .i64 z).wf=true):I64 z:=by simp [Lit.wf,IntKind.min,IntKind.max,IntKind.signed,IntKind.bits] at h;exact ⟨by omega,by omega⟩
theorem wf_u {z:Int} (h:(Lit.int .u64 z).wf=true):0≤z∧z<18446744073709551616:=by simp [Lit.wf,IntKind.min,IntKind.max,IntKind.signed,IntKind.bits] at h;exact ⟨by omega,by omega⟩
theorem wf_v {z:Int} (h:(Lit.int .u32 z).wf=true):0≤z∧z<4294967296:=by simp [Lit.wf,IntKind.min,IntKind.max,IntKind.signed,IntKind.bits] at h;exact ⟨by omega,by omega⟩
theorem isl_wf {fuel:Nat} {t e:TypeId} {k:IntKind} {cs:List Value} {x:DataW H×List MemPlace} (ht:P.underlying t=some (.slice e)) (he:P.underlying e=some (.int k)) (hce:P.cellsOf e=1) (h:DataW.trod enc P w 0 sp held fuel t cs=some x):
 ∃(s:SlV) (xs:List Int),cs=[.slice s.A s.n s.c]∧ISl w k s.A s.n s.c xs∧∀x∈xs,(Lit.int k x).wf=true:=by
 rcases Go.Deep.open_slice ht h with ⟨rfl,_⟩|⟨a,len,cap,m,n,D,Pl,rfl,_,hl,hm,hmm,_,hx⟩
 · exact ⟨SlV.nil,[],rfl,ISl.nil,fun x hx=>by cases hx⟩
 · have hlm:len≤m:=by rw [hmm];split<;>omega
   have hcell:∀i,i<len→∃z,w.cell? (a.add i)=some (.int k z)∧(Lit.int k z).wf=true:=fun i hi=>by
    obtain ⟨cs',h1,h2⟩:=hx i (by omega);obtain ⟨z,rfl,_,hwf⟩:=DataW.trod_int he h2;have h3:=(World.cells?_some h1).2.2 0 (by rw [hce];omega);rw [hce,Nat.mul_one] at h3;refine ⟨z,?_,hwf⟩
    have:(a.add i).add 0=a.add i:=by unfold Addr.add;simp
    rw [this] at h3;exact h3
   refine ⟨⟨some a,len,cap⟩,(List.range len).map fun i=>numOfC (w.cell? (a.add i)),rfl,⟨by simp,hl,hm,fun hn=>?_⟩,fun x hx=>?_⟩
   · obtain ⟨b,off,spot⟩:=a
     obtain ⟨z0,hz0,_⟩:=hcell 0 hn
     have hspot:spot=none:=by simpa [Addr.add] using World.cell?_spot hz0
     subst hspot;refine ⟨b,off,rfl,?_,fun i hi=>?_⟩
     · have:=World.block_lt_of_cell? w _ hz0
       rw [add_none] at this;exact this
     · obtain ⟨z,hz,_⟩:=hcell i hi
       have e2:((List.range len).map fun i=>numOfC (w.cell? ((⟨b,off,none⟩:Addr).add i))).getD i 0=z:=by
        rw [List.getD,List.getElem?_map,List.getElem?_range hi]
        show numOfC (w.cell? _)=z
        rw [hz]
        rfl
       rw [e2,←hz,add_none]
   · obtain ⟨i,hi,rfl⟩:=List.mem_map.1 hx
     obtain ⟨z,hz,hwf⟩:=hcell i (List.mem_range.1 hi);rw [hz];exact hwf
theorem line_par {fuel:Nat} {cs:List Value} {x:DataW H×List MemPlace} (h:DataW.trod enc Tryz.prog w 0 sp held fuel 37 cs=some x):
 ∃(L:LV) (s1 s2 s3 s4:SlV),cs=vEu L s1 s2 s3 s4∧LRead w L s1 s2 s3 s4∧LvW L:=by
 obtain ⟨xs,n,_,rfl,hl,hlen,hf⟩:=DataW.trod_struct Tryz.underlying37 h;rw [cells_line] at hl
 have hx:∀i,i<17→∃y,xs[i]?=some y:=fun i hi=>⟨_,List.getElem?_eq_getElem (by rw [hlen];exact hi)⟩
 obtain ⟨y0,g0⟩:=vFo (cs:=cs) 0 (hf 0 _ rfl) (hx 0 (by omega)) vCz;obtain ⟨z0,q0,_,v0⟩:=DataW.trod_int Tryz.underlying3 g0;obtain ⟨y1,g1⟩:=vFo 1 (hf 1 _ rfl) (hx 1 (by omega)) vCz;obtain ⟨z1,q1,_,v1⟩:=DataW.trod_int Tryz.underlying3 g1;obtain ⟨y2,g2⟩:=vFo 2 (hf 2 _ rfl) (hx 2 (by omega)) vDn;obtain ⟨z2,q2,_⟩:=DataW.trod_string Tryz.underlying9 g2;obtain ⟨y3,g3⟩:=vFo 3 (hf 3 _ rfl) (hx 3 (by omega)) vDn
 obtain ⟨z3,q3,_⟩:=DataW.trod_string Tryz.underlying9 g3;obtain ⟨y4,g4⟩:=vFo 4 (hf 4 _ rfl) (hx 4 (by omega)) vDn;obtain ⟨z4,q4,_⟩:=DataW.trod_string Tryz.underlying9 g4;obtain ⟨y5,g5⟩:=vFo 5 (hf 5 _ rfl) (hx 5 (by omega)) vDn;obtain ⟨z5,q5,_⟩:=DataW.trod_string Tryz.underlying9 g5;obtain ⟨y6,g6⟩:=vFo 6 (hf 6 _ rfl) (hx 6 (by omega)) vDn;obtain ⟨z6,q6,_⟩:=DataW.trod_string Tryz.underlying9 g6
 obtain ⟨y7,g7⟩:=vFo 7 (hf 7 _ rfl) (hx 7 (by omega)) cells_uint64;obtain ⟨z7,q7,_,v7⟩:=DataW.trod_int Tryz.underlying32 g7;obtain ⟨y8,g8⟩:=vFo 8 (hf 8 _ rfl) (hx 8 (by omega)) vIl;obtain ⟨z8,q8,_,v8⟩:=DataW.trod_int Tryz.underlying33 g8;obtain ⟨y9,g9⟩:=vFo 9 (hf 9 _ rfl) (hx 9 (by omega)) vCz;obtain ⟨z9,q9,_,v9⟩:=DataW.trod_int Tryz.underlying3 g9;obtain ⟨y10,g10⟩:=vFo 10 (hf 10 _ rfl) (hx 10 (by omega)) vCz
 obtain ⟨z10,q10,_,v10⟩:=DataW.trod_int Tryz.underlying3 g10;obtain ⟨y11,g11⟩:=vFo 11 (hf 11 _ rfl) (hx 11 (by omega)) vCz;obtain ⟨z11,q11,_,v11⟩:=DataW.trod_int Tryz.underlying3 g11;obtain ⟨y12,g12⟩:=vFo 12 (hf 12 _ rfl) (hx 12 (by omega)) vCz;obtain ⟨z12,q12,_,v12⟩:=DataW.trod_int Tryz.underlying3 g12;obtain ⟨y13,g13⟩:=vFo 13 (hf 13 _ rfl) (hx 13 (by omega)) vHw;obtain ⟨z13,l13,q13,r13,v13⟩:=isl_wf Tryz.underlying34 Tryz.underlying3 vCz g13
 obtain ⟨y14,g14⟩:=vFo 14 (hf 14 _ rfl) (hx 14 (by omega)) vHw;obtain ⟨z14,l14,q14,r14,v14⟩:=isl_wf Tryz.underlying34 Tryz.underlying3 vCz g14;obtain ⟨y15,g15⟩:=vFo 15 (hf 15 _ rfl) (hx 15 (by omega)) vHw;obtain ⟨z15,l15,q15,r15,v15⟩:=isl_wf Tryz.underlying34 Tryz.underlying3 vCz g15;obtain ⟨y16,g16⟩:=vFo 16 (hf 16 _ rfl) (hx 16 (by omega)) cells_uints;obtain ⟨z16,l16,q16,r16,v16⟩:=isl_wf Tryz.underlying35 Tryz.underlying33 vIl g16
 refine ⟨⟨z0,z1,z2.data.toList,z3.data.toList,z4.data.toList,z5.data.toList,z6.data.toList,z7,z8,z9,z10,z11,z12,l13,l14,l15,l16⟩,z13,z14,z15,z16,?_,⟨r13,r14,r15,r16⟩,⟨wf_i v0,wf_i v1,wf_u v7,wf_v v8,wf_i v9,wf_i v10,wf_i v11,wf_i v12,fun x hx=>wf_i (v13 x hx),fun x hx=>wf_i (v14 x hx),fun x hx=>wf_i (v15 x hx),fun x hx=>wf_v (v16 x hx)⟩⟩
 apply List.ext_getElem?
 intro i
 match i with
 |0=>rw [at1 q0];rfl
 |1=>rw [at1 q1];rfl
 |2=>rw [at1 q2];show _=some (Value.string (str z2.data.toList));rw [vGx]
 |3=>rw [at1 q3];show _=some (Value.string (str z3.data.toList));rw [vGx]
 |4=>rw [at1 q4];show _=some (Value.string (str z4.data.toList));rw [vGx]
 |5=>rw [at1 q5];show _=some (Value.string (str z5.data.toList));rw [vGx]
 |6=>rw [at1 q6];show _=some (Value.string (str z6.data.toList));rw [vGx]
 |7=>rw [at1 q7];rfl
 |8=>rw [at1 q8];rfl
 |9=>rw [at1 q9];rfl
 |10=>rw [at1 q10];rfl
 |11=>rw [at1 q11];rfl
 |12=>rw [at1 q12];rfl
 |13=>rw [at1 q13];rfl
 |14=>rw [at1 q14];rfl
 |15=>rw [at1 q15];rfl
 |16=>rw [at1 q16];rfl
 |i+17=>rw [List.getElem?_eq_none (by omega)];rfl
end
end Go.Proofs.YtgnkpbgaoiaefaaGreat
