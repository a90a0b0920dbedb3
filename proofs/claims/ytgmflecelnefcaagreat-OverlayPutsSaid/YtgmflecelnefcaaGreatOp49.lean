import Derived.Test.YtgmflecelnefcaaGreatOp07
import Derived.Test.YtgmflecelnefcaaGreatOp04
import Derived.Deep.CutBlock
import Derived.Deep.DeepCutAuto
import Derived.Laws.StructEq
set_option maxRecDepth 100000
set_option maxHeartbeats 40000000
namespace Go.Proofs.YtgmflecelnefcaaGreat
open Go.Lib (hid)
open Go.RowKit
theorem vEf {α:Type} (d:α) {xs ys:List α} (hl:xs.length=ys.length) (h:∀j,j<xs.length→xs.getD j d=ys.getD j d):xs=ys:=by
 apply List.ext_getElem hl
 intro j h1 h2
 have:=h j h1
 simpa [List.getD,List.getElem?_eq_getElem h1,List.getElem?_eq_getElem h2] using this
theorem eq_dev (X Y:DevV) (V:Bool) (hV:V=true↔X=Y) (W:World):(Op.equalIn 10000 58 (.agg (vGt X).toArray) (.agg (vGt Y).toArray)).run Tryz.prog W=.ok V W:=by
 rw [show (10000:Nat)=9999+1 from rfl,run_equalIn_struct W 9999 58 _ _ (by kernel_rfl) (by kernel_rfl)];obtain ⟨x0,x1,x2,x3,x4⟩:=X;obtain ⟨y0,y1,y2,y3,y4⟩:=Y;simp only [DevV.mk.injEq] at hV;simp [Program.fieldsOf,Tryz.underlying58,Op.eqFields,go_sem,vGt]
 cases V with
 |true=>
  have e:=hV.1 rfl;simp [e]
 |false=>
  have e:=fun g=>(show False by have:=hV.2 g;cases this)
  repeat' split
  all_goals simp_all
theorem eq_link (X Y:LinkV) (V:Bool) (hV:V=true↔X=Y) (W:World):(Op.equalIn 10000 84 (.agg (vHl X).toArray) (.agg (vHl Y).toArray)).run Tryz.prog W=.ok V W:=by
 rw [show (10000:Nat)=9999+1 from rfl,run_equalIn_struct W 9999 84 _ _ (by kernel_rfl) (by kernel_rfl)];obtain ⟨x0,x1,x2⟩:=X;obtain ⟨y0,y1,y2⟩:=Y;simp only [LinkV.mk.injEq] at hV;simp [Program.fieldsOf,Tryz.underlying84,Op.eqFields,go_sem,vHl]
 cases V with
 |true=>
  have e:=hV.1 rfl;simp [e]
 |false=>
  have e:=fun g=>(show False by have:=hV.2 g;cases this)
  repeat' split
  all_goals simp_all
theorem eq_stat (X Y:StatV) (V:Bool) (hV:V=true↔X=Y) (W:World):(Op.equalIn 10000 89 (.agg (statC X).toArray) (.agg (statC Y).toArray)).run Tryz.prog W=.ok V W:=by
 rw [show (10000:Nat)=9999+1 from rfl,run_equalIn_struct W 9999 89 _ _ (by kernel_rfl) (by kernel_rfl)];obtain ⟨x0,x1,x2,x3⟩:=X;obtain ⟨y0,y1,y2,y3⟩:=Y;simp only [StatV.mk.injEq] at hV;simp [Program.fieldsOf,Tryz.underlying89,Op.eqFields,go_sem,statC]
 cases V with
 |true=>
  have e:=hV.1 rfl;simp [e]
 |false=>
  have e:=fun g=>(show False by have:=hV.2 g;cases this)
  repeat' split
  all_goals simp_all
theorem eq_irb (X Y:IrbV) (V:Bool) (hV:V=true↔X=Y) (W:World):(Op.equalIn 10000 98 (.agg (irbC X).toArray) (.agg (irbC Y).toArray)).run Tryz.prog W=.ok V W:=by
 rw [show (10000:Nat)=9999+1 from rfl,run_equalIn_struct W 9999 98 _ _ (by kernel_rfl) (by kernel_rfl)];obtain ⟨x0,x1,x2,x3,x4⟩:=X;obtain ⟨y0,y1,y2,y3,y4⟩:=Y;simp only [IrbV.mk.injEq] at hV;simp [Program.fieldsOf,Tryz.underlying98,Op.eqFields,go_sem,irbC]
 cases V with
 |true=>
  have e:=hV.1 rfl;simp [e]
 |false=>
  have e:=fun g=>(show False by have:=hV.2 g;cases this)
  repeat' split
  all_goals simp_all
def topsOk (N M:NV):Prop:=N.devices=M.devices∧N.links=M.links∧N.statics=M.statics∧N.irbs=M.irbs
noncomputable def topB (N M:NV):Bool:=@decide (topsOk N M) (Classical.propDecidable _)
theorem topB_no {N M:NV} (h:¬topsOk N M):topB N M=false:=by
 unfold topB;exact @decide_eq_false _ (Classical.propDecidable _) h
theorem topB_yes {N M:NV} (h:topsOk N M):topB N M=true:=by
 unfold topB;exact @decide_eq_true _ (Classical.propDecidable _) h
theorem topB_iff (N M:NV):topB N M=true↔topsOk N M:=by
 unfold topB;exact @decide_eq_true_iff _ (Classical.propDecidable _)
theorem tops_any (N M:NV) (S S2:NSl3) (w:World) (h:NRead w (vAp w) N S) (h2:NRead w (vAp w) M S2):Calls Tryz.prog 33 #[vAm S,vAm S2] w fun e w'=>e=.returned (.bool (topB N M))∧Below w.heap.size w w':=by
 have H_dv:=hid h.dv;have G_dv:=hid h2.dv;have LE_dv:=hid h.dv.len;have LF_dv:=hid h2.dv.len;have hle_dv:=h.dv.le;have hcap_dv:=h.dv.cap;have gle_dv:=h2.dv.le;have gcap_dv:=h2.dv.cap;have H_lk:=hid h.lk;have G_lk:=hid h2.lk;have LE_lk:=hid h.lk.len;have LF_lk:=hid h2.lk.len;have hle_lk:=h.lk.le;have hcap_lk:=h.lk.cap;have gle_lk:=h2.lk.le;have gcap_lk:=h2.lk.cap;have H_st:=hid h.st
 have G_st:=hid h2.st;have LE_st:=hid h.st.len;have LF_st:=hid h2.st.len;have hle_st:=h.st.le;have hcap_st:=h.st.cap;have gle_st:=h2.st.le;have gcap_st:=h2.st.cap;have H_ir:=hid h.ir;have G_ir:=hid h2.ir;have LE_ir:=hid h.ir.len;have LF_ir:=hid h2.ir.len;have hle_ir:=h.ir.le;have hcap_ir:=h.ir.cap;have gle_ir:=h2.ir.le;have gcap_ir:=h2.ir.cap;have NO:=hid (@topB_no N M)
 have YES:=hid (@topB_yes N M);have NB:=hid ((NBox.new w S 31).below ((Below.refl _ _).alloc (Nat.le_refl _) (.cells (nA S2) 31)));have NC:=hid (NBox.new (w.alloc (.cells (nA S) 31)) S2 31);have B0:=hid (vAj w (.cells (nA S) 31) (.cells (nA S2) 31));generalize topB N M=V at *;clear h h2;unfold vAm
 by_cases c_dv:S.dv.n=S2.dv.n
 rotate_left
 · have z_dv:((S.dv.n:Int) != (S2.dv.n:Int))=true:=by simp;omega
   have EV:=hid (NO.out (fun g=>c_dv (by rw [←LE_dv.out,←LF_dv.out];exact congrArg List.length (show N.devices=M.devices from g.1))));clear c_dv
   go_enter Tryz.func33,Tryz.ntmps33
   go_wp2;go_ret;exact ⟨by rw [EV.out];rfl,B0.out⟩
 have z_dv:((S.dv.n:Int) != (S2.dv.n:Int))=false:=by simp;omega
 have EQ_dv:=hid c_dv;clear c_dv
 by_cases c_lk:S.lk.n=S2.lk.n
 rotate_left
 · have z_lk:((S.lk.n:Int) != (S2.lk.n:Int))=true:=by simp;omega
   have EV:=hid (NO.out (fun g=>c_lk (by rw [←LE_lk.out,←LF_lk.out];exact congrArg List.length (show N.links=M.links from g.2.1))));clear c_lk
   go_enter Tryz.func33,Tryz.ntmps33
   go_wp2;go_ret;exact ⟨by rw [EV.out];rfl,B0.out⟩
 have z_lk:((S.lk.n:Int) != (S2.lk.n:Int))=false:=by simp;omega
 have EQ_lk:=hid c_lk;clear c_lk
 by_cases c_st:S.st.n=S2.st.n
 rotate_left
 · have z_st:((S.st.n:Int) != (S2.st.n:Int))=true:=by simp;omega
   have EV:=hid (NO.out (fun g=>c_st (by rw [←LE_st.out,←LF_st.out];exact congrArg List.length (show N.statics=M.statics from g.2.2.1))));clear c_st
   go_enter Tryz.func33,Tryz.ntmps33
   go_wp2;go_ret;exact ⟨by rw [EV.out];rfl,B0.out⟩
 have z_st:((S.st.n:Int) != (S2.st.n:Int))=false:=by simp;omega
 have EQ_st:=hid c_st;clear c_st
 by_cases c_ir:S.ir.n=S2.ir.n
 rotate_left
 · have z_ir:((S.ir.n:Int) != (S2.ir.n:Int))=true:=by simp;omega
   have EV:=hid (NO.out (fun g=>c_ir (by rw [←LE_ir.out,←LF_ir.out];exact congrArg List.length (show N.irbs=M.irbs from g.2.2.2))));clear c_ir
   go_enter Tryz.func33,Tryz.ntmps33
   go_wp2;go_ret;exact ⟨by rw [EV.out];rfl,B0.out⟩
 have z_ir:((S.ir.n:Int) != (S2.ir.n:Int))=false:=by simp;omega
 have EQ_ir:=hid c_ir;clear c_ir
 go_enter Tryz.func33,Tryz.ntmps33
 go_upto_block 0 with fail
 obtain ⟨w1,hw1⟩:∃w1,(w.alloc (.cells (nA S) 31)).alloc (.cells (nA S2) 31)=w1:=⟨_,rfl⟩
 have hz:(w.alloc (.cells (nA S) 31)).heap.size=w.heap.size+1:=by simp
 rw [hz] at NC;rw [hw1] at NB NC B0 ⊢;have NBo:=NB.out;have NCo:=NC.out;have n0:=NBo.c0;have m0:=NCo.c0;have n2:=NBo.c2;have m2:=NCo.c2;have n4:=NBo.c4;have m4:=NCo.c4;have n7:=NBo.c7;have m7:=NCo.c7;clear hw1 hz NBo NCo
 go_cut [] (fun wx=>(∀j,j<S.dv.n→N.devices.getD j DevV.zero=M.devices.getD j DevV.zero)∧∃q,w1.drewN q=wx)
 case first=>
  go_wp2_with fail
  go_loopw [5] (fun i wr=>∃k q:Nat,i=.int .i64 k∧k≤S.dv.n∧wr=w1.drewN q∧∀j,j<k→N.devices.getD j DevV.zero=M.devices.getD j DevV.zero) (fun i _=>match i with| .int _ y=>(S.dv.n - y).toNat|_=>0)
  case atStart=>exact ⟨0,0,rfl,by omega,rfl,fun j hj=>absurd hj (by omega)⟩
  case round=>
  obtain ⟨k,q,rfl,hk,rfl,hall⟩:=hrel;have AL:=hid hall;clear hall
  by_cases hlt:k<S.dv.n
  rotate_left
  · have lt2:¬(k:Int)<(S.dv.n:Int):=by omega
    go_wp2
    go_meet
    exact ⟨fun j hj=>AL.out j (by omega),_,rfl⟩
  obtain ⟨b0,o0,vs,e0,_,hb0,hvs,r0⟩:=vAi H_dv.out k hlt DevV.zero;obtain ⟨b1,o1,us,e1,_,hb1,hus,r1⟩:=vAi G_dv.out k (by have:=EQ_dv.out;omega) DevV.zero;have hvs:vs=vGt (N.devices.getD k DevV.zero):=hvs;have hus:us=vGt (M.devices.getD k DevV.zero):=hus;subst hvs hus;obtain ⟨X,hX⟩:∃X,N.devices.getD k DevV.zero=X:=⟨_,rfl⟩;obtain ⟨Y,hY⟩:∃Y,M.devices.getD k DevV.zero=Y:=⟨_,rfl⟩;rw [hX] at r0;rw [hY] at r1
  have R0:=vAb r0 (B0.out.block b0 hb0);have R1:=vAb r1 (B0.out.block b1 hb1);have d0:=R0 0 _ rfl;have e0_:=R1 0 _ rfl;have d1:=R0 1 _ rfl;have e1_:=R1 1 _ rfl;have d2:=R0 2 _ rfl;have e2_:=R1 2 _ rfl;have d3:=R0 3 _ rfl;have e3_:=R1 3 _ rfl;have d4:=R0 4 _ rfl;have e4_:=R1 4 _ rfl;simp only [Nat.add_zero] at d0 e0_;rw [show o0+k * devR.n=o0+k * 5 from rfl] at d0 d1 d2 d3 d4;rw [show o1+k * devR.n=o1+k * 5 from rfl] at e0_ e1_ e2_ e3_ e4_
  have lt2:(k:Int)<(S.dv.n:Int):=by omega
  have lt3:(k:Int)<(S2.dv.n:Int):=by have:=EQ_dv.out;omega
  have HX:=hid hX;have HY:=hid hY;have n_:=n0;have m_:=m0;rw [e0] at n_;rw [e1] at m_;clear r0 r1 R0 R1 hX hY e0 e1 n0 m0
  go_upto_region 6 with fail
  have NE:=hid (show ¬X=Y→V=false from fun hn=>NO.out (fun g=>hn (by rw [←HX.out,←HY.out,show N.devices=M.devices from g.1])))
  have ALk:=hid (show X=Y→∀j,j<k+1→N.devices.getD j DevV.zero=M.devices.getD j DevV.zero from fun e j hj=>by
   rcases Nat.lt_or_ge j k with h'|h'
   · exact AL.out j h'
   · obtain rfl:j=k:=by omega
     rw [HX.out,HY.out,e])
  obtain ⟨B,hB⟩:∃B:Bool,B=true↔X=Y:=⟨@decide (X=Y) (Classical.propDecidable _),@decide_eq_true_iff _ (Classical.propDecidable _)⟩
  have XE:=fun W=>eq_dev X Y B hB W
  unfold vGt at XE;have HB1:=hid (show B=true→X=Y from hB.1);have HB2:=hid (show B=false→¬X=Y from fun e g=>by have:=hB.2 g;rw [e] at this;cases this);clear hB
  cases B
  all_goals
   refine vAe (fun wx=>∃q,wx=w1.drewN q) (by kernel_rfl) (by kernel_rfl) ⟨q+1,rfl⟩ ?_
   repeat
    first
     |(refine Seq.pass rfl ?_;simp only [Act.put,List.setIfInBounds_toArray,List.set_cons_zero,List.set_cons_succ])
     |(refine Seq.run ?_ rfl (fun wx hx=>?_) ?_
       rotate_left
       · obtain ⟨qx,rfl⟩:=hx
         go_simp
         (refine StepRun.val ?_;exact ⟨_,rfl⟩)
       simp only [Act.put,List.setIfInBounds_toArray,List.set_cons_zero,List.set_cons_succ])
   refine Seq.last (fun w7 h7=>?_);obtain ⟨q7,rfl⟩:=h7;go_wp2
   first
    |(go_ret
      exact ⟨by rw [NE.out (HB2.out (by simp))];rfl,vAd B0.out _⟩)
    |(go_roundw
      case rel=>exact ⟨k+1,_,by simp,by omega,rfl,ALk.out (HB1.out (by simp))⟩
      case measure=>simp only [];omega)
 case rest=>
 obtain ⟨hall0,q0,rfl⟩:=hcut;have ALL0:=hid hall0;clear hall0
 go_upto_block 2 with fail
 go_cut [] (fun wx=>(∀j,j<S.lk.n→N.links.getD j LinkV.zero=M.links.getD j LinkV.zero)∧∃q,w1.drewN q=wx)
 case first=>
  go_wp2_with fail
  go_loopw [6] (fun i wr=>∃k q:Nat,i=.int .i64 k∧k≤S.lk.n∧wr=w1.drewN q∧∀j,j<k→N.links.getD j LinkV.zero=M.links.getD j LinkV.zero) (fun i _=>match i with| .int _ y=>(S.lk.n - y).toNat|_=>0)
  case atStart=>exact ⟨0,q0,rfl,by omega,rfl,fun j hj=>absurd hj (by omega)⟩
  case round=>
  obtain ⟨k,q,rfl,hk,rfl,hall⟩:=hrel;have AL:=hid hall;clear hall
  by_cases hlt:k<S.lk.n
  rotate_left
  · have lt2:¬(k:Int)<(S.lk.n:Int):=by omega
    go_wp2
    go_meet
    exact ⟨fun j hj=>AL.out j (by omega),_,rfl⟩
  obtain ⟨b0,o0,vs,e0,_,hb0,hvs,r0⟩:=vAi H_lk.out k hlt LinkV.zero;obtain ⟨b1,o1,us,e1,_,hb1,hus,r1⟩:=vAi G_lk.out k (by have:=EQ_lk.out;omega) LinkV.zero;have hvs:vs=vHl (N.links.getD k LinkV.zero):=hvs;have hus:us=vHl (M.links.getD k LinkV.zero):=hus;subst hvs hus;obtain ⟨X,hX⟩:∃X,N.links.getD k LinkV.zero=X:=⟨_,rfl⟩;obtain ⟨Y,hY⟩:∃Y,M.links.getD k LinkV.zero=Y:=⟨_,rfl⟩;rw [hX] at r0;rw [hY] at r1
  have R0:=vAb r0 (B0.out.block b0 hb0);have R1:=vAb r1 (B0.out.block b1 hb1);have d0:=R0 0 _ rfl;have e0_:=R1 0 _ rfl;have d1:=R0 1 _ rfl;have e1_:=R1 1 _ rfl;have d2:=R0 2 _ rfl;have e2_:=R1 2 _ rfl;simp only [Nat.add_zero] at d0 e0_;rw [show o0+k * linkR.n=o0+k * 3 from rfl] at d0 d1 d2;rw [show o1+k * linkR.n=o1+k * 3 from rfl] at e0_ e1_ e2_
  have lt2:(k:Int)<(S.lk.n:Int):=by omega
  have lt3:(k:Int)<(S2.lk.n:Int):=by have:=EQ_lk.out;omega
  have HX:=hid hX;have HY:=hid hY;have n_:=n2;have m_:=m2;rw [e0] at n_;rw [e1] at m_;clear r0 r1 R0 R1 hX hY e0 e1 n2 m2
  go_upto_region 11 with fail
  have NE:=hid (show ¬X=Y→V=false from fun hn=>NO.out (fun g=>hn (by rw [←HX.out,←HY.out,show N.links=M.links from g.2.1])))
  have ALk:=hid (show X=Y→∀j,j<k+1→N.links.getD j LinkV.zero=M.links.getD j LinkV.zero from fun e j hj=>by
   rcases Nat.lt_or_ge j k with h'|h'
   · exact AL.out j h'
   · obtain rfl:j=k:=by omega
     rw [HX.out,HY.out,e])
  obtain ⟨B,hB⟩:∃B:Bool,B=true↔X=Y:=⟨@decide (X=Y) (Classical.propDecidable _),@decide_eq_true_iff _ (Classical.propDecidable _)⟩
  have XE:=fun W=>eq_link X Y B hB W
  unfold vHl at XE;have HB1:=hid (show B=true→X=Y from hB.1);have HB2:=hid (show B=false→¬X=Y from fun e g=>by have:=hB.2 g;rw [e] at this;cases this);clear hB
  cases B
  all_goals
   refine vAe (fun wx=>∃q,wx=w1.drewN q) (by kernel_rfl) (by kernel_rfl) ⟨q+1,rfl⟩ ?_
   repeat
    first
     |(refine Seq.pass rfl ?_;simp only [Act.put,List.setIfInBounds_toArray,List.set_cons_zero,List.set_cons_succ])
     |(refine Seq.run ?_ rfl (fun wx hx=>?_) ?_
       rotate_left
       · obtain ⟨qx,rfl⟩:=hx
         go_simp
         (refine StepRun.val ?_;exact ⟨_,rfl⟩)
       simp only [Act.put,List.setIfInBounds_toArray,List.set_cons_zero,List.set_cons_succ])
   refine Seq.last (fun w7 h7=>?_);obtain ⟨q7,rfl⟩:=h7;go_wp2
   first
    |(go_ret
      exact ⟨by rw [NE.out (HB2.out (by simp))];rfl,vAd B0.out _⟩)
    |(go_roundw
      case rel=>exact ⟨k+1,_,by simp,by omega,rfl,ALk.out (HB1.out (by simp))⟩
      case measure=>simp only [];omega)
 case rest=>
 obtain ⟨hall1,q0,rfl⟩:=hcut;have ALL1:=hid hall1;clear hall1
 go_upto_block 4 with fail
 go_cut [] (fun wx=>(∀j,j<S.st.n→N.statics.getD j StatV.zero=M.statics.getD j StatV.zero)∧∃q,w1.drewN q=wx)
 case first=>
  go_wp2_with fail
  go_loopw [7] (fun i wr=>∃k q:Nat,i=.int .i64 k∧k≤S.st.n∧wr=w1.drewN q∧∀j,j<k→N.statics.getD j StatV.zero=M.statics.getD j StatV.zero) (fun i _=>match i with| .int _ y=>(S.st.n - y).toNat|_=>0)
  case atStart=>exact ⟨0,q0,rfl,by omega,rfl,fun j hj=>absurd hj (by omega)⟩
  case round=>
  obtain ⟨k,q,rfl,hk,rfl,hall⟩:=hrel;have AL:=hid hall;clear hall
  by_cases hlt:k<S.st.n
  rotate_left
  · have lt2:¬(k:Int)<(S.st.n:Int):=by omega
    go_wp2
    go_meet
    exact ⟨fun j hj=>AL.out j (by omega),_,rfl⟩
  obtain ⟨b0,o0,vs,e0,_,hb0,hvs,r0⟩:=vAi H_st.out k hlt StatV.zero;obtain ⟨b1,o1,us,e1,_,hb1,hus,r1⟩:=vAi G_st.out k (by have:=EQ_st.out;omega) StatV.zero;have hvs:vs=statC (N.statics.getD k StatV.zero):=hvs;have hus:us=statC (M.statics.getD k StatV.zero):=hus;subst hvs hus;obtain ⟨X,hX⟩:∃X,N.statics.getD k StatV.zero=X:=⟨_,rfl⟩;obtain ⟨Y,hY⟩:∃Y,M.statics.getD k StatV.zero=Y:=⟨_,rfl⟩;rw [hX] at r0
  rw [hY] at r1;have R0:=vAb r0 (B0.out.block b0 hb0);have R1:=vAb r1 (B0.out.block b1 hb1);have d0:=R0 0 _ rfl;have e0_:=R1 0 _ rfl;have d1:=R0 1 _ rfl;have e1_:=R1 1 _ rfl;have d2:=R0 2 _ rfl;have e2_:=R1 2 _ rfl;have d3:=R0 3 _ rfl;have e3_:=R1 3 _ rfl;simp only [Nat.add_zero] at d0 e0_;rw [show o0+k * statR.n=o0+k * 4 from rfl] at d0 d1 d2 d3;rw [show o1+k * statR.n=o1+k * 4 from rfl] at e0_ e1_ e2_ e3_
  have lt2:(k:Int)<(S.st.n:Int):=by omega
  have lt3:(k:Int)<(S2.st.n:Int):=by have:=EQ_st.out;omega
  have HX:=hid hX;have HY:=hid hY;have n_:=n4;have m_:=m4;rw [e0] at n_;rw [e1] at m_;clear r0 r1 R0 R1 hX hY e0 e1 n4 m4
  go_upto_region 16 with fail
  have NE:=hid (show ¬X=Y→V=false from fun hn=>NO.out (fun g=>hn (by rw [←HX.out,←HY.out,show N.statics=M.statics from g.2.2.1])))
  have ALk:=hid (show X=Y→∀j,j<k+1→N.statics.getD j StatV.zero=M.statics.getD j StatV.zero from fun e j hj=>by
   rcases Nat.lt_or_ge j k with h'|h'
   · exact AL.out j h'
   · obtain rfl:j=k:=by omega
     rw [HX.out,HY.out,e])
  obtain ⟨B,hB⟩:∃B:Bool,B=true↔X=Y:=⟨@decide (X=Y) (Classical.propDecidable _),@decide_eq_true_iff _ (Classical.propDecidable _)⟩
  have XE:=fun W=>eq_stat X Y B hB W
  unfold statC at XE;have HB1:=hid (show B=true→X=Y from hB.1);have HB2:=hid (show B=false→¬X=Y from fun e g=>by have:=hB.2 g;rw [e] at this;cases this);clear hB
  cases B
  all_goals
   refine vAe (fun wx=>∃q,wx=w1.drewN q) (by kernel_rfl) (by kernel_rfl) ⟨q+1,rfl⟩ ?_
   repeat
    first
     |(refine Seq.pass rfl ?_;simp only [Act.put,List.setIfInBounds_toArray,List.set_cons_zero,List.set_cons_succ])
     |(refine Seq.run ?_ rfl (fun wx hx=>?_) ?_
       rotate_left
       · obtain ⟨qx,rfl⟩:=hx
         go_simp
         (refine StepRun.val ?_;exact ⟨_,rfl⟩)
       simp only [Act.put,List.setIfInBounds_toArray,List.set_cons_zero,List.set_cons_succ])
   refine Seq.last (fun w7 h7=>?_);obtain ⟨q7,rfl⟩:=h7;go_wp2
   first
    |(go_ret
      exact ⟨by rw [NE.out (HB2.out (by simp))];rfl,vAd B0.out _⟩)
    |(go_roundw
      case rel=>exact ⟨k+1,_,by simp,by omega,rfl,ALk.out (HB1.out (by simp))⟩
      case measure=>simp only [];omega)
 case rest=>
 obtain ⟨hall2,q0,rfl⟩:=hcut;have ALL2:=hid hall2;clear hall2
 go_upto_block 6 with fail
 go_cut [] (fun wx=>(∀j,j<S.ir.n→N.irbs.getD j IrbV.zero=M.irbs.getD j IrbV.zero)∧∃q,w1.drewN q=wx)
 case first=>
  go_wp2_with fail
  go_loopw [8] (fun i wr=>∃k q:Nat,i=.int .i64 k∧k≤S.ir.n∧wr=w1.drewN q∧∀j,j<k→N.irbs.getD j IrbV.zero=M.irbs.getD j IrbV.zero) (fun i _=>match i with| .int _ y=>(S.ir.n - y).toNat|_=>0)
  case atStart=>exact ⟨0,q0,rfl,by omega,rfl,fun j hj=>absurd hj (by omega)⟩
  case round=>
  obtain ⟨k,q,rfl,hk,rfl,hall⟩:=hrel;have AL:=hid hall;clear hall
  by_cases hlt:k<S.ir.n
  rotate_left
  · have lt2:¬(k:Int)<(S.ir.n:Int):=by omega
    go_wp2
    go_meet
    exact ⟨fun j hj=>AL.out j (by omega),_,rfl⟩
  obtain ⟨b0,o0,vs,e0,_,hb0,hvs,r0⟩:=vAi H_ir.out k hlt IrbV.zero;obtain ⟨b1,o1,us,e1,_,hb1,hus,r1⟩:=vAi G_ir.out k (by have:=EQ_ir.out;omega) IrbV.zero;have hvs:vs=irbC (N.irbs.getD k IrbV.zero):=hvs;have hus:us=irbC (M.irbs.getD k IrbV.zero):=hus;subst hvs hus;obtain ⟨X,hX⟩:∃X,N.irbs.getD k IrbV.zero=X:=⟨_,rfl⟩;obtain ⟨Y,hY⟩:∃Y,M.irbs.getD k IrbV.zero=Y:=⟨_,rfl⟩;rw [hX] at r0;rw [hY] at r1
  have R0:=vAb r0 (B0.out.block b0 hb0);have R1:=vAb r1 (B0.out.block b1 hb1);have d0:=R0 0 _ rfl;have e0_:=R1 0 _ rfl;have d1:=R0 1 _ rfl;have e1_:=R1 1 _ rfl;have d2:=R0 2 _ rfl;have e2_:=R1 2 _ rfl;have d3:=R0 3 _ rfl;have e3_:=R1 3 _ rfl;have d4:=R0 4 _ rfl;have e4_:=R1 4 _ rfl;simp only [Nat.add_zero] at d0 e0_;rw [show o0+k * irbR.n=o0+k * 5 from rfl] at d0 d1 d2 d3 d4;rw [show o1+k * irbR.n=o1+k * 5 from rfl] at e0_ e1_ e2_ e3_ e4_
  have lt2:(k:Int)<(S.ir.n:Int):=by omega
  have lt3:(k:Int)<(S2.ir.n:Int):=by have:=EQ_ir.out;omega
  have HX:=hid hX;have HY:=hid hY;have n_:=n7;have m_:=m7;rw [e0] at n_;rw [e1] at m_;clear r0 r1 R0 R1 hX hY e0 e1 n7 m7
  go_upto_region 21 with fail
  have NE:=hid (show ¬X=Y→V=false from fun hn=>NO.out (fun g=>hn (by rw [←HX.out,←HY.out,show N.irbs=M.irbs from g.2.2.2])))
  have ALk:=hid (show X=Y→∀j,j<k+1→N.irbs.getD j IrbV.zero=M.irbs.getD j IrbV.zero from fun e j hj=>by
   rcases Nat.lt_or_ge j k with h'|h'
   · exact AL.out j h'
   · obtain rfl:j=k:=by omega
     rw [HX.out,HY.out,e])
  obtain ⟨B,hB⟩:∃B:Bool,B=true↔X=Y:=⟨@decide (X=Y) (Classical.propDecidable _),@decide_eq_true_iff _ (Classical.propDecidable _)⟩
  have XE:=fun W=>eq_irb X Y B hB W
  unfold irbC at XE;have HB1:=hid (show B=true→X=Y from hB.1);have HB2:=hid (show B=false→¬X=Y from fun e g=>by have:=hB.2 g;rw [e] at this;cases this);clear hB
  cases B
  all_goals
   refine vAe (fun wx=>∃q,wx=w1.drewN q) (by kernel_rfl) (by kernel_rfl) ⟨q+1,rfl⟩ ?_
   repeat
    first
     |(refine Seq.pass rfl ?_;simp only [Act.put,List.setIfInBounds_toArray,List.set_cons_zero,List.set_cons_succ])
     |(refine Seq.run ?_ rfl (fun wx hx=>?_) ?_
       rotate_left
       · obtain ⟨qx,rfl⟩:=hx
         go_simp
         (refine StepRun.val ?_;exact ⟨_,rfl⟩)
       simp only [Act.put,List.setIfInBounds_toArray,List.set_cons_zero,List.set_cons_succ])
   refine Seq.last (fun w7 h7=>?_);obtain ⟨q7,rfl⟩:=h7;go_wp2
   first
    |(go_ret
      exact ⟨by rw [NE.out (HB2.out (by simp))];rfl,vAd B0.out _⟩)
    |(go_roundw
      case rel=>exact ⟨k+1,_,by simp,by omega,rfl,ALk.out (HB1.out (by simp))⟩
      case measure=>simp only [];omega)
 case rest=>
 obtain ⟨hall3,q0,rfl⟩:=hcut;have ALL3:=hid hall3;clear hall3;have EV:=hid (YES.out ⟨vEf DevV.zero (by rw [LE_dv.out,LF_dv.out,EQ_dv.out]) (fun j hj=>ALL0.out j (by rw [LE_dv.out] at hj;exact hj)),vEf LinkV.zero (by rw [LE_lk.out,LF_lk.out,EQ_lk.out]) (fun j hj=>ALL1.out j (by rw [LE_lk.out] at hj;exact hj)),vEf StatV.zero (by rw [LE_st.out,LF_st.out,EQ_st.out]) (fun j hj=>ALL2.out j (by rw [LE_st.out] at hj;exact hj)),vEf IrbV.zero (by rw [LE_ir.out,LF_ir.out,EQ_ir.out]) (fun j hj=>ALL3.out j (by rw [LE_ir.out] at hj;exact hj))⟩)
 go_wp2;go_ret;exact ⟨by rw [EV.out];rfl,vAd B0.out _⟩
theorem tops_of {N M:NV} (h:N=M):topsOk N M:=by subst h;exact ⟨rfl,rfl,rfl,rfl⟩
theorem num_take (ps qs:List Int) (k:Nat) (h0:k<ps.length) (h1:k<qs.length) (g:ps.take k=qs.take k):ps.take (k+1)=qs.take (k+1)↔ps.getD k 0=qs.getD k 0:=by
 have e0:ps.getD k 0=ps[k]:=by simp [List.getD,h0]
 have e1:qs.getD k 0=qs[k]:=by simp [List.getD,h1]
 rw [List.take_succ_eq_append_getElem h0,List.take_succ_eq_append_getElem h1,g,e0,e1];exact ⟨fun e=>by injection List.append_cancel_left e,fun e=>by rw [e]⟩
theorem vFv (A:Option Addr) (n c:Nat) (ps:List Int) (B:Option Addr) (m d:Nat) (qs:List Int) (w:World) (h:ISl w .i64 A n c ps) (g:ISl w .i64 B m d qs) (v:Bool) (hv:v=true↔ps=qs):
 Calls Tryz.prog 34 #[.slice A n c,.slice B m d] w fun e w'=>e=.returned (.bool v)∧Below w.heap.size w w':=by
 have hl:=h.len;have gl:=g.len;have hcap:=h.cap;have hle:=h.le;have gcap:=g.cap;have gle:=g.le;have V1:=hid (show ps=qs→v=true from hv.2);have V0:=hid (show ¬ps=qs→v=false from fun hn=>by cases v with|false=>rfl|true=>exact absurd (hv.1 rfl) hn)
 by_cases hnm:n=m
 · subst hnm
   have H:=hid h;have G:=hid g;have HL:=hid hl;have GL:=hid gl;clear h g hv hl gl
   go_enter Tryz.func34,Tryz.ntmps34
   go_wp2
   go_loopw [5] (fun i wr=>∃k q:Nat,i=.int .i64 k∧wr=w.drewN q∧k≤n∧ps.take k=qs.take k) (fun i _=>match i with| .int _ x=>(n - x).toNat|_=>0)
   case atStart=>exact ⟨0,0,rfl,rfl,by omega,by simp⟩
   case round=>
    obtain ⟨k,q,rfl,rfl,hk,hf⟩:=hrel;have HF:=hid hf;clear hf
    by_cases hlt:k<n
    · obtain ⟨b0,o0,rfl,hb0,hc0⟩:=H.out.2.2.2 (by omega)
      obtain ⟨b1,o1,rfl,hb1,hc1⟩:=G.out.2.2.2 (by omega);have c0:=hc0 k hlt;have c1:=hc1 k hlt;have T:=hid (num_take ps qs k (by rw [HL.out];exact hlt) (by rw [GL.out];exact hlt) HF.out)
      have i0:(k:Int)<(n:Int):=by omega
      generalize hx:ps.getD k 0=x at *;generalize hy:qs.getD k 0=y at *;have HX:=hid hx;have HY:=hid hy;clear hc0 hc1 hx hy
      by_cases e:x=y
      · have s1:(x == y)=true:=by simpa using e
        have s2:(x != y)=false:=by simpa using e
        have R:=hid (T.out.2 e);clear e;go_wp2
        go_quiet (fail)
        go_wp2
        go_roundw
        case rel=>exact ⟨k+1,q+nq,by simp,rfl,by omega,R.out⟩
        case measure=>simp only [];omega
      · have s1:(x == y)=false:=by simpa using e
        have s2:(x != y)=true:=by simpa using e
        have R:=hid (V0.out (fun e2=>e (by rw [←HX.out,←HY.out,e2])));clear e;go_wp2
        go_quiet (fail)
        go_wp2;go_ret;exact ⟨by rw [R.out];rfl,vAd (vAd (Below.refl _ _) _) _⟩
    · have R:=hid (V1.out (by
       have e1:ps.take k=ps:=List.take_of_length_le (by rw [HL.out];omega);have e2:qs.take k=qs:=List.take_of_length_le (by rw [GL.out];omega)
       rw [←e1,←e2,HF.out]))
      go_wp2;go_ret;exact ⟨by rw [R.out];rfl,vAd (Below.refl _ _) _⟩
 · have R:=hid (V0.out (fun e=>hnm (by rw [←hl,←gl,e])))
   have ne:((n:Int) != (m:Int))=true:=by simp;omega
   clear h g hv hl gl
   go_enter Tryz.func34,Tryz.ntmps34
   go_wp2;go_ret;exact ⟨by rw [R.out];rfl,Below.refl _ _⟩
theorem raddrs2_any (A:Option Addr) (n c:Nat) (ps:List Int) (B:Option Addr) (m d:Nat) (qs:List Int) (w:World) (h:ISl w .u32 A n c ps) (g:ISl w .u32 B m d qs) (v:Bool) (hv:v=true↔ps=qs):
 Calls Tryz.prog 35 #[.slice A n c,.slice B m d] w fun e w'=>e=.returned (.bool v)∧Below w.heap.size w w':=by
 have hl:=h.len;have gl:=g.len;have hcap:=h.cap;have hle:=h.le;have gcap:=g.cap;have gle:=g.le;have V1:=hid (show ps=qs→v=true from hv.2);have V0:=hid (show ¬ps=qs→v=false from fun hn=>by cases v with|false=>rfl|true=>exact absurd (hv.1 rfl) hn)
 by_cases hnm:n=m
 · subst hnm
   have H:=hid h;have G:=hid g;have HL:=hid hl;have GL:=hid gl;clear h g hv hl gl
   go_enter Tryz.func35,Tryz.ntmps35
   go_wp2
   go_loopw [5] (fun i wr=>∃k q:Nat,i=.int .i64 k∧wr=w.drewN q∧k≤n∧ps.take k=qs.take k) (fun i _=>match i with| .int _ x=>(n - x).toNat|_=>0)
   case atStart=>exact ⟨0,0,rfl,rfl,by omega,by simp⟩
   case round=>
    obtain ⟨k,q,rfl,rfl,hk,hf⟩:=hrel;have HF:=hid hf;clear hf
    by_cases hlt:k<n
    · obtain ⟨b0,o0,rfl,hb0,hc0⟩:=H.out.2.2.2 (by omega)
      obtain ⟨b1,o1,rfl,hb1,hc1⟩:=G.out.2.2.2 (by omega);have c0:=hc0 k hlt;have c1:=hc1 k hlt;have T:=hid (num_take ps qs k (by rw [HL.out];exact hlt) (by rw [GL.out];exact hlt) HF.out)
      have i0:(k:Int)<(n:Int):=by omega
      generalize hx:ps.getD k 0=x at *;generalize hy:qs.getD k 0=y at *;have HX:=hid hx;have HY:=hid hy;clear hc0 hc1 hx hy
      by_cases e:x=y
      · have s1:(x == y)=true:=by simpa using e
        have s2:(x != y)=false:=by simpa using e
        have R:=hid (T.out.2 e);clear e;go_wp2
        go_quiet (fail)
        go_wp2
        go_roundw
        case rel=>exact ⟨k+1,q+nq,by simp,rfl,by omega,R.out⟩
        case measure=>simp only [];omega
      · have s1:(x == y)=false:=by simpa using e
        have s2:(x != y)=true:=by simpa using e
        have R:=hid (V0.out (fun e2=>e (by rw [←HX.out,←HY.out,e2])));clear e;go_wp2
        go_quiet (fail)
        go_wp2;go_ret;exact ⟨by rw [R.out];rfl,vAd (vAd (Below.refl _ _) _) _⟩
    · have R:=hid (V1.out (by
       have e1:ps.take k=ps:=List.take_of_length_le (by rw [HL.out];omega);have e2:qs.take k=qs:=List.take_of_length_le (by rw [GL.out];omega)
       rw [←e1,←e2,HF.out]))
      go_wp2;go_ret;exact ⟨by rw [R.out];rfl,vAd (Below.refl _ _) _⟩
 · have R:=hid (V0.out (fun e=>hnm (by rw [←hl,←gl,e])))
   have ne:((n:Int) != (m:Int))=true:=by simp;omega
   clear h g hv hl gl
   go_enter Tryz.func35,Tryz.ntmps35
   go_wp2;go_ret;exact ⟨by rw [R.out];rfl,Below.refl _ _⟩
end Go.Proofs.YtgmflecelnefcaaGreat
