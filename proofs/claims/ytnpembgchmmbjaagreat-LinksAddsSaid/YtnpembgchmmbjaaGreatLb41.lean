import Derived.Test.YtnpembgchmmbjaaGreatLb13
import Derived.Test.YtnpembgchmmbjaaGreatLb30
import Derived.RegionTactic
set_option maxRecDepth 100000
set_option maxHeartbeats 40000000
namespace Go.Proofs.YtnpembgchmmbjaaGreat
open Go.RowKit
theorem vDp (s t:SlV) (xs ys:List Int) (w:World) (h:ISl w .i64 s.A s.n s.c xs) (h2:ISl w .i64 t.A t.n t.c ys):
 Calls Tryz.prog 27 #[.slice s.A s.n s.c,.slice t.A t.n t.c] w fun e w'=>e=.returned (.bool (xs == ys))∧Drew w w':=by
 obtain ⟨A,n,c⟩:=s;obtain ⟨B,n2,c2⟩:=t;dsimp only at h h2 ⊢;have hle:=h.le;have hcap:=h.cap;have hle2:=h2.le;have hcap2:=h2.cap;have H:=Lib.hid h;have H2:=Lib.hid h2;clear h h2
 by_cases hne:n=n2
 · subst hne
   by_cases hn:0<n
   · obtain ⟨b,off,rfl,hb,hc⟩:=H.out.2.2.2 hn
     obtain ⟨b2,off2,rfl,hb2,hc2⟩:=H2.out.2.2.2 hn;have HC:=Lib.hid hc;have HC2:=Lib.hid hc2;clear hc hc2
     go_enter Tryz.func27,Tryz.ntmps27
     go_wp2
     go_loopw [5] (fun i wr=>∃k:Nat,k≤n∧i=.int .i64 (k:Int)∧(∀j,j<k→xs.getD j 0=ys.getD j 0)∧Drew w wr) (fun i _=>n - (intOf i).toNat)
     case atStart=>exact ⟨0,by omega,rfl,fun j hj=>absurd hj (by omega),Drew.refl _⟩
     case round=>
      obtain ⟨k,hk,rfl,hal,m,rfl⟩:=hrel;have AL:=Lib.hid hal;clear hal
      by_cases hlt:k<n
      · have c0:w.cell? ⟨b,off+k,none⟩=some (.int .i64 (xs.getD k 0)):=HC.out k hlt
        have c1:w.cell? ⟨b2,off2+k,none⟩=some (.int .i64 (ys.getD k 0)):=HC2.out k hlt;generalize hx:xs.getD k 0=x at c0;generalize hy:ys.getD k 0=y at c1;have HX:=Lib.hid hx;have HY:=Lib.hid hy;clear hx hy
        by_cases hxy:x=y
        · subst hxy
          go_wp2
          go_quiet (fail)
          go_wp2
          go_roundw
          case rel=>exact ⟨k+1,by omega,by go_num,fun j hj=>by
           by_cases e:j=k
           · subst e;rw [HX.out,HY.out]
           · exact AL.out j (by omega),⟨m+nq,rfl⟩⟩
          case measure=>simp [intOf];omega
        · have E:=Lib.hid (show (xs == ys)=false by
           rw [beq_eq_false_iff_ne];intro e;subst e
           exact hxy (HX.out.symm.trans HY.out))
          go_wp2
          go_quiet (fail)
          go_wp2;go_ret;exact ⟨by rw [E.out];rfl,⟨m+nq,by rw [vDj]⟩⟩
      · obtain rfl:k=n:=by omega
        have E:=Lib.hid (show (xs == ys)=true by rw [beq_iff_eq];exact vFw H.out.len H2.out.len AL.out);go_wp2;go_ret;exact ⟨by rw [E.out];rfl,⟨m,rfl⟩⟩
   · obtain rfl:n=0:=by omega
     obtain rfl:xs=[]:=List.eq_nil_of_length_eq_zero H.out.len;obtain rfl:ys=[]:=List.eq_nil_of_length_eq_zero H2.out.len
     go_enter Tryz.func27,Tryz.ntmps27
     go_wp2
     go_loop [5] (fun i=>i=.int .i64 0) (fun i=>0)
     case atStart=>rfl
     case round=>
      subst hrel;go_wp2;go_ret;exact ⟨rfl,Drew.refl _⟩
 · have E:=Lib.hid (show (xs == ys)=false by
    rw [beq_eq_false_iff_ne];intro e;subst e
    exact hne (H.out.len.symm.trans H2.out.len))
   go_enter Tryz.func27,Tryz.ntmps27
   go_wp2;go_ret;exact ⟨by rw [E.out];rfl,Drew.refl _⟩
theorem req_uint32 (s t:SlV) (xs ys:List Int) (w:World) (h:ISl w .u32 s.A s.n s.c xs) (h2:ISl w .u32 t.A t.n t.c ys):
 Calls Tryz.prog 28 #[.slice s.A s.n s.c,.slice t.A t.n t.c] w fun e w'=>e=.returned (.bool (xs == ys))∧Drew w w':=by
 obtain ⟨A,n,c⟩:=s;obtain ⟨B,n2,c2⟩:=t;dsimp only at h h2 ⊢;have hle:=h.le;have hcap:=h.cap;have hle2:=h2.le;have hcap2:=h2.cap;have H:=Lib.hid h;have H2:=Lib.hid h2;clear h h2
 by_cases hne:n=n2
 · subst hne
   by_cases hn:0<n
   · obtain ⟨b,off,rfl,hb,hc⟩:=H.out.2.2.2 hn
     obtain ⟨b2,off2,rfl,hb2,hc2⟩:=H2.out.2.2.2 hn;have HC:=Lib.hid hc;have HC2:=Lib.hid hc2;clear hc hc2
     go_enter Tryz.func28,Tryz.ntmps28
     go_wp2
     go_loopw [5] (fun i wr=>∃k:Nat,k≤n∧i=.int .i64 (k:Int)∧(∀j,j<k→xs.getD j 0=ys.getD j 0)∧Drew w wr) (fun i _=>n - (intOf i).toNat)
     case atStart=>exact ⟨0,by omega,rfl,fun j hj=>absurd hj (by omega),Drew.refl _⟩
     case round=>
      obtain ⟨k,hk,rfl,hal,m,rfl⟩:=hrel;have AL:=Lib.hid hal;clear hal
      by_cases hlt:k<n
      · have c0:w.cell? ⟨b,off+k,none⟩=some (.int .u32 (xs.getD k 0)):=HC.out k hlt
        have c1:w.cell? ⟨b2,off2+k,none⟩=some (.int .u32 (ys.getD k 0)):=HC2.out k hlt;generalize hx:xs.getD k 0=x at c0;generalize hy:ys.getD k 0=y at c1;have HX:=Lib.hid hx;have HY:=Lib.hid hy;clear hx hy
        by_cases hxy:x=y
        · subst hxy
          go_wp2
          go_quiet (fail)
          go_wp2
          go_roundw
          case rel=>exact ⟨k+1,by omega,by go_num,fun j hj=>by
           by_cases e:j=k
           · subst e;rw [HX.out,HY.out]
           · exact AL.out j (by omega),⟨m+nq,rfl⟩⟩
          case measure=>simp [intOf];omega
        · have E:=Lib.hid (show (xs == ys)=false by
           rw [beq_eq_false_iff_ne];intro e;subst e
           exact hxy (HX.out.symm.trans HY.out))
          go_wp2
          go_quiet (fail)
          go_wp2;go_ret;exact ⟨by rw [E.out];rfl,⟨m+nq,by rw [vDj]⟩⟩
      · obtain rfl:k=n:=by omega
        have E:=Lib.hid (show (xs == ys)=true by rw [beq_iff_eq];exact vFw H.out.len H2.out.len AL.out);go_wp2;go_ret;exact ⟨by rw [E.out];rfl,⟨m,rfl⟩⟩
   · obtain rfl:n=0:=by omega
     obtain rfl:xs=[]:=List.eq_nil_of_length_eq_zero H.out.len;obtain rfl:ys=[]:=List.eq_nil_of_length_eq_zero H2.out.len
     go_enter Tryz.func28,Tryz.ntmps28
     go_wp2
     go_loop [5] (fun i=>i=.int .i64 0) (fun i=>0)
     case atStart=>rfl
     case round=>
      subst hrel;go_wp2;go_ret;exact ⟨rfl,Drew.refl _⟩
 · have E:=Lib.hid (show (xs == ys)=false by
    rw [beq_eq_false_iff_ne];intro e;subst e
    exact hne (H.out.len.symm.trans H2.out.len))
   go_enter Tryz.func28,Tryz.ntmps28
   go_wp2;go_ret;exact ⟨by rw [E.out];rfl,Drew.refl _⟩
theorem rs_0 (f0:Int) (g0:Int) (f1:Int) (g1:Int) (f2:List UInt8) (g2:List UInt8) (f3:List UInt8) (g3:List UInt8) (f4:List UInt8) (g4:List UInt8) (f5:List UInt8) (g5:List UInt8) (f6:List UInt8) (g6:List UInt8) (f7:Int) (g7:Int) (f8:Int) (g8:Int) (f9:Int) (g9:Int) (f10:Int) (g10:Int) (f11:Int) (g11:Int) (f12:Int) (g12:Int) (s1 s2 s3 s4 t1 t2 t3 t4:SlV) (w:World) (e:f0≠g0):
 Calls Tryz.prog 141 #[.agg #[.int .i64 f0,.int .i64 f1,.string (str f2),.string (str f3),.string (str f4),.string (str f5),.string (str f6),.int .u64 f7,.int .u32 f8,.int .i64 f9,.int .i64 f10,.int .i64 f11,.int .i64 f12,.slice s1.A s1.n s1.c,.slice s2.A s2.n s2.c,.slice s3.A s3.n s3.c,.slice s4.A s4.n s4.c],.agg #[.int .i64 g0,.int .i64 g1,.string (str g2),.string (str g3),.string (str g4),.string (str g5),.string (str g6),.int .u64 g7,.int .u32 g8,.int .i64 g9,.int .i64 g10,.int .i64 g11,.int .i64 g12,.slice t1.A t1.n t1.c,.slice t2.A t2.n t2.c,.slice t3.A t3.n t3.c,.slice t4.A t4.n t4.c]] w fun e w'=>e=.returned (.bool false)∧Below w.heap.size w w':=by
 have d0:(f0 == g0)=false:=by rw [beq_eq_false_iff_ne];exact e
 clear e
 go_enter Tryz.func141,Tryz.ntmps141
 go_wp2;go_ret;exact ⟨rfl,vAi _ _ _⟩
theorem rs_1 (f0:Int) (f1:Int) (g1:Int) (f2:List UInt8) (g2:List UInt8) (f3:List UInt8) (g3:List UInt8) (f4:List UInt8) (g4:List UInt8) (f5:List UInt8) (g5:List UInt8) (f6:List UInt8) (g6:List UInt8) (f7:Int) (g7:Int) (f8:Int) (g8:Int) (f9:Int) (g9:Int) (f10:Int) (g10:Int) (f11:Int) (g11:Int) (f12:Int) (g12:Int) (s1 s2 s3 s4 t1 t2 t3 t4:SlV) (w:World) (e:f1≠g1):
 Calls Tryz.prog 141 #[.agg #[.int .i64 f0,.int .i64 f1,.string (str f2),.string (str f3),.string (str f4),.string (str f5),.string (str f6),.int .u64 f7,.int .u32 f8,.int .i64 f9,.int .i64 f10,.int .i64 f11,.int .i64 f12,.slice s1.A s1.n s1.c,.slice s2.A s2.n s2.c,.slice s3.A s3.n s3.c,.slice s4.A s4.n s4.c],.agg #[.int .i64 f0,.int .i64 g1,.string (str g2),.string (str g3),.string (str g4),.string (str g5),.string (str g6),.int .u64 g7,.int .u32 g8,.int .i64 g9,.int .i64 g10,.int .i64 g11,.int .i64 g12,.slice t1.A t1.n t1.c,.slice t2.A t2.n t2.c,.slice t3.A t3.n t3.c,.slice t4.A t4.n t4.c]] w fun e w'=>e=.returned (.bool false)∧Below w.heap.size w w':=by
 have d1:(f1 == g1)=false:=by rw [beq_eq_false_iff_ne];exact e
 clear e
 go_enter Tryz.func141,Tryz.ntmps141
 go_wp2;go_ret;exact ⟨rfl,vAi _ _ _⟩
theorem rs_2 (f0:Int) (f1:Int) (f2:List UInt8) (g2:List UInt8) (f3:List UInt8) (g3:List UInt8) (f4:List UInt8) (g4:List UInt8) (f5:List UInt8) (g5:List UInt8) (f6:List UInt8) (g6:List UInt8) (f7:Int) (g7:Int) (f8:Int) (g8:Int) (f9:Int) (g9:Int) (f10:Int) (g10:Int) (f11:Int) (g11:Int) (f12:Int) (g12:Int) (s1 s2 s3 s4 t1 t2 t3 t4:SlV) (w:World) (e:f2≠g2):
 Calls Tryz.prog 141 #[.agg #[.int .i64 f0,.int .i64 f1,.string (str f2),.string (str f3),.string (str f4),.string (str f5),.string (str f6),.int .u64 f7,.int .u32 f8,.int .i64 f9,.int .i64 f10,.int .i64 f11,.int .i64 f12,.slice s1.A s1.n s1.c,.slice s2.A s2.n s2.c,.slice s3.A s3.n s3.c,.slice s4.A s4.n s4.c],.agg #[.int .i64 f0,.int .i64 f1,.string (str g2),.string (str g3),.string (str g4),.string (str g5),.string (str g6),.int .u64 g7,.int .u32 g8,.int .i64 g9,.int .i64 g10,.int .i64 g11,.int .i64 g12,.slice t1.A t1.n t1.c,.slice t2.A t2.n t2.c,.slice t3.A t3.n t3.c,.slice t4.A t4.n t4.c]] w fun e w'=>e=.returned (.bool false)∧Below w.heap.size w w':=by
 have d2:(f2 == g2)=false:=by rw [beq_eq_false_iff_ne];exact e
 clear e
 go_enter Tryz.func141,Tryz.ntmps141
 go_wp2;go_ret;exact ⟨rfl,vAi _ _ _⟩
theorem rs_3 (f0:Int) (f1:Int) (f2:List UInt8) (f3:List UInt8) (g3:List UInt8) (f4:List UInt8) (g4:List UInt8) (f5:List UInt8) (g5:List UInt8) (f6:List UInt8) (g6:List UInt8) (f7:Int) (g7:Int) (f8:Int) (g8:Int) (f9:Int) (g9:Int) (f10:Int) (g10:Int) (f11:Int) (g11:Int) (f12:Int) (g12:Int) (s1 s2 s3 s4 t1 t2 t3 t4:SlV) (w:World) (e:f3≠g3):
 Calls Tryz.prog 141 #[.agg #[.int .i64 f0,.int .i64 f1,.string (str f2),.string (str f3),.string (str f4),.string (str f5),.string (str f6),.int .u64 f7,.int .u32 f8,.int .i64 f9,.int .i64 f10,.int .i64 f11,.int .i64 f12,.slice s1.A s1.n s1.c,.slice s2.A s2.n s2.c,.slice s3.A s3.n s3.c,.slice s4.A s4.n s4.c],.agg #[.int .i64 f0,.int .i64 f1,.string (str f2),.string (str g3),.string (str g4),.string (str g5),.string (str g6),.int .u64 g7,.int .u32 g8,.int .i64 g9,.int .i64 g10,.int .i64 g11,.int .i64 g12,.slice t1.A t1.n t1.c,.slice t2.A t2.n t2.c,.slice t3.A t3.n t3.c,.slice t4.A t4.n t4.c]] w fun e w'=>e=.returned (.bool false)∧Below w.heap.size w w':=by
 have d2:(f2 == f2)=true:=beq_self_eq_true _
 have d3:(f3 == g3)=false:=by rw [beq_eq_false_iff_ne];exact e
 clear e
 go_enter Tryz.func141,Tryz.ntmps141
 go_wp2;go_ret;exact ⟨rfl,vAi _ _ _⟩
theorem rs_4 (f0:Int) (f1:Int) (f2:List UInt8) (f3:List UInt8) (f4:List UInt8) (g4:List UInt8) (f5:List UInt8) (g5:List UInt8) (f6:List UInt8) (g6:List UInt8) (f7:Int) (g7:Int) (f8:Int) (g8:Int) (f9:Int) (g9:Int) (f10:Int) (g10:Int) (f11:Int) (g11:Int) (f12:Int) (g12:Int) (s1 s2 s3 s4 t1 t2 t3 t4:SlV) (w:World) (e:f4≠g4):
 Calls Tryz.prog 141 #[.agg #[.int .i64 f0,.int .i64 f1,.string (str f2),.string (str f3),.string (str f4),.string (str f5),.string (str f6),.int .u64 f7,.int .u32 f8,.int .i64 f9,.int .i64 f10,.int .i64 f11,.int .i64 f12,.slice s1.A s1.n s1.c,.slice s2.A s2.n s2.c,.slice s3.A s3.n s3.c,.slice s4.A s4.n s4.c],.agg #[.int .i64 f0,.int .i64 f1,.string (str f2),.string (str f3),.string (str g4),.string (str g5),.string (str g6),.int .u64 g7,.int .u32 g8,.int .i64 g9,.int .i64 g10,.int .i64 g11,.int .i64 g12,.slice t1.A t1.n t1.c,.slice t2.A t2.n t2.c,.slice t3.A t3.n t3.c,.slice t4.A t4.n t4.c]] w fun e w'=>e=.returned (.bool false)∧Below w.heap.size w w':=by
 have d2:(f2 == f2)=true:=beq_self_eq_true _;have d3:(f3 == f3)=true:=beq_self_eq_true _
 have d4:(f4 == g4)=false:=by rw [beq_eq_false_iff_ne];exact e
 clear e
 go_enter Tryz.func141,Tryz.ntmps141
 go_wp2;go_ret;exact ⟨rfl,vAi _ _ _⟩
theorem rs_5 (f0:Int) (f1:Int) (f2:List UInt8) (f3:List UInt8) (f4:List UInt8) (f5:List UInt8) (g5:List UInt8) (f6:List UInt8) (g6:List UInt8) (f7:Int) (g7:Int) (f8:Int) (g8:Int) (f9:Int) (g9:Int) (f10:Int) (g10:Int) (f11:Int) (g11:Int) (f12:Int) (g12:Int) (s1 s2 s3 s4 t1 t2 t3 t4:SlV) (w:World) (e:f5≠g5):
 Calls Tryz.prog 141 #[.agg #[.int .i64 f0,.int .i64 f1,.string (str f2),.string (str f3),.string (str f4),.string (str f5),.string (str f6),.int .u64 f7,.int .u32 f8,.int .i64 f9,.int .i64 f10,.int .i64 f11,.int .i64 f12,.slice s1.A s1.n s1.c,.slice s2.A s2.n s2.c,.slice s3.A s3.n s3.c,.slice s4.A s4.n s4.c],.agg #[.int .i64 f0,.int .i64 f1,.string (str f2),.string (str f3),.string (str f4),.string (str g5),.string (str g6),.int .u64 g7,.int .u32 g8,.int .i64 g9,.int .i64 g10,.int .i64 g11,.int .i64 g12,.slice t1.A t1.n t1.c,.slice t2.A t2.n t2.c,.slice t3.A t3.n t3.c,.slice t4.A t4.n t4.c]] w fun e w'=>e=.returned (.bool false)∧Below w.heap.size w w':=by
 have d2:(f2 == f2)=true:=beq_self_eq_true _;have d3:(f3 == f3)=true:=beq_self_eq_true _;have d4:(f4 == f4)=true:=beq_self_eq_true _
 have d5:(f5 == g5)=false:=by rw [beq_eq_false_iff_ne];exact e
 clear e
 go_enter Tryz.func141,Tryz.ntmps141
 go_wp2;go_ret;exact ⟨rfl,vAi _ _ _⟩
theorem rs_6 (f0:Int) (f1:Int) (f2:List UInt8) (f3:List UInt8) (f4:List UInt8) (f5:List UInt8) (f6:List UInt8) (g6:List UInt8) (f7:Int) (g7:Int) (f8:Int) (g8:Int) (f9:Int) (g9:Int) (f10:Int) (g10:Int) (f11:Int) (g11:Int) (f12:Int) (g12:Int) (s1 s2 s3 s4 t1 t2 t3 t4:SlV) (w:World) (e:f6≠g6):
 Calls Tryz.prog 141 #[.agg #[.int .i64 f0,.int .i64 f1,.string (str f2),.string (str f3),.string (str f4),.string (str f5),.string (str f6),.int .u64 f7,.int .u32 f8,.int .i64 f9,.int .i64 f10,.int .i64 f11,.int .i64 f12,.slice s1.A s1.n s1.c,.slice s2.A s2.n s2.c,.slice s3.A s3.n s3.c,.slice s4.A s4.n s4.c],.agg #[.int .i64 f0,.int .i64 f1,.string (str f2),.string (str f3),.string (str f4),.string (str f5),.string (str g6),.int .u64 g7,.int .u32 g8,.int .i64 g9,.int .i64 g10,.int .i64 g11,.int .i64 g12,.slice t1.A t1.n t1.c,.slice t2.A t2.n t2.c,.slice t3.A t3.n t3.c,.slice t4.A t4.n t4.c]] w fun e w'=>e=.returned (.bool false)∧Below w.heap.size w w':=by
 have d2:(f2 == f2)=true:=beq_self_eq_true _;have d3:(f3 == f3)=true:=beq_self_eq_true _;have d4:(f4 == f4)=true:=beq_self_eq_true _;have d5:(f5 == f5)=true:=beq_self_eq_true _
 have d6:(f6 == g6)=false:=by rw [beq_eq_false_iff_ne];exact e
 clear e
 go_enter Tryz.func141,Tryz.ntmps141
 go_wp2;go_ret;exact ⟨rfl,vAi _ _ _⟩
theorem rs_7 (f0:Int) (f1:Int) (f2:List UInt8) (f3:List UInt8) (f4:List UInt8) (f5:List UInt8) (f6:List UInt8) (f7:Int) (g7:Int) (f8:Int) (g8:Int) (f9:Int) (g9:Int) (f10:Int) (g10:Int) (f11:Int) (g11:Int) (f12:Int) (g12:Int) (s1 s2 s3 s4 t1 t2 t3 t4:SlV) (w:World) (e:f7≠g7):
 Calls Tryz.prog 141 #[.agg #[.int .i64 f0,.int .i64 f1,.string (str f2),.string (str f3),.string (str f4),.string (str f5),.string (str f6),.int .u64 f7,.int .u32 f8,.int .i64 f9,.int .i64 f10,.int .i64 f11,.int .i64 f12,.slice s1.A s1.n s1.c,.slice s2.A s2.n s2.c,.slice s3.A s3.n s3.c,.slice s4.A s4.n s4.c],.agg #[.int .i64 f0,.int .i64 f1,.string (str f2),.string (str f3),.string (str f4),.string (str f5),.string (str f6),.int .u64 g7,.int .u32 g8,.int .i64 g9,.int .i64 g10,.int .i64 g11,.int .i64 g12,.slice t1.A t1.n t1.c,.slice t2.A t2.n t2.c,.slice t3.A t3.n t3.c,.slice t4.A t4.n t4.c]] w fun e w'=>e=.returned (.bool false)∧Below w.heap.size w w':=by
 have d2:(f2 == f2)=true:=beq_self_eq_true _;have d3:(f3 == f3)=true:=beq_self_eq_true _;have d4:(f4 == f4)=true:=beq_self_eq_true _;have d5:(f5 == f5)=true:=beq_self_eq_true _;have d6:(f6 == f6)=true:=beq_self_eq_true _
 have d7:(f7 == g7)=false:=by rw [beq_eq_false_iff_ne];exact e
 clear e
 go_enter Tryz.func141,Tryz.ntmps141
 go_wp2;go_ret;exact ⟨rfl,vAi _ _ _⟩
theorem rs_8 (f0:Int) (f1:Int) (f2:List UInt8) (f3:List UInt8) (f4:List UInt8) (f5:List UInt8) (f6:List UInt8) (f7:Int) (f8:Int) (g8:Int) (f9:Int) (g9:Int) (f10:Int) (g10:Int) (f11:Int) (g11:Int) (f12:Int) (g12:Int) (s1 s2 s3 s4 t1 t2 t3 t4:SlV) (w:World) (e:f8≠g8):
 Calls Tryz.prog 141 #[.agg #[.int .i64 f0,.int .i64 f1,.string (str f2),.string (str f3),.string (str f4),.string (str f5),.string (str f6),.int .u64 f7,.int .u32 f8,.int .i64 f9,.int .i64 f10,.int .i64 f11,.int .i64 f12,.slice s1.A s1.n s1.c,.slice s2.A s2.n s2.c,.slice s3.A s3.n s3.c,.slice s4.A s4.n s4.c],.agg #[.int .i64 f0,.int .i64 f1,.string (str f2),.string (str f3),.string (str f4),.string (str f5),.string (str f6),.int .u64 f7,.int .u32 g8,.int .i64 g9,.int .i64 g10,.int .i64 g11,.int .i64 g12,.slice t1.A t1.n t1.c,.slice t2.A t2.n t2.c,.slice t3.A t3.n t3.c,.slice t4.A t4.n t4.c]] w fun e w'=>e=.returned (.bool false)∧Below w.heap.size w w':=by
 have d2:(f2 == f2)=true:=beq_self_eq_true _;have d3:(f3 == f3)=true:=beq_self_eq_true _;have d4:(f4 == f4)=true:=beq_self_eq_true _;have d5:(f5 == f5)=true:=beq_self_eq_true _;have d6:(f6 == f6)=true:=beq_self_eq_true _
 have d8:(f8 == g8)=false:=by rw [beq_eq_false_iff_ne];exact e
 clear e
 go_enter Tryz.func141,Tryz.ntmps141
 go_wp2;go_ret;exact ⟨rfl,vAi _ _ _⟩
theorem rs_9 (f0:Int) (f1:Int) (f2:List UInt8) (f3:List UInt8) (f4:List UInt8) (f5:List UInt8) (f6:List UInt8) (f7:Int) (f8:Int) (f9:Int) (g9:Int) (f10:Int) (g10:Int) (f11:Int) (g11:Int) (f12:Int) (g12:Int) (s1 s2 s3 s4 t1 t2 t3 t4:SlV) (w:World) (e:f9≠g9):
 Calls Tryz.prog 141 #[.agg #[.int .i64 f0,.int .i64 f1,.string (str f2),.string (str f3),.string (str f4),.string (str f5),.string (str f6),.int .u64 f7,.int .u32 f8,.int .i64 f9,.int .i64 f10,.int .i64 f11,.int .i64 f12,.slice s1.A s1.n s1.c,.slice s2.A s2.n s2.c,.slice s3.A s3.n s3.c,.slice s4.A s4.n s4.c],.agg #[.int .i64 f0,.int .i64 f1,.string (str f2),.string (str f3),.string (str f4),.string (str f5),.string (str f6),.int .u64 f7,.int .u32 f8,.int .i64 g9,.int .i64 g10,.int .i64 g11,.int .i64 g12,.slice t1.A t1.n t1.c,.slice t2.A t2.n t2.c,.slice t3.A t3.n t3.c,.slice t4.A t4.n t4.c]] w fun e w'=>e=.returned (.bool false)∧Below w.heap.size w w':=by
 have d2:(f2 == f2)=true:=beq_self_eq_true _;have d3:(f3 == f3)=true:=beq_self_eq_true _;have d4:(f4 == f4)=true:=beq_self_eq_true _;have d5:(f5 == f5)=true:=beq_self_eq_true _;have d6:(f6 == f6)=true:=beq_self_eq_true _
 have d9:(f9 == g9)=false:=by rw [beq_eq_false_iff_ne];exact e
 clear e
 go_enter Tryz.func141,Tryz.ntmps141
 go_wp2;go_ret;exact ⟨rfl,vAi _ _ _⟩
theorem rs_10 (f0:Int) (f1:Int) (f2:List UInt8) (f3:List UInt8) (f4:List UInt8) (f5:List UInt8) (f6:List UInt8) (f7:Int) (f8:Int) (f9:Int) (f10:Int) (g10:Int) (f11:Int) (g11:Int) (f12:Int) (g12:Int) (s1 s2 s3 s4 t1 t2 t3 t4:SlV) (w:World) (e:f10≠g10):
 Calls Tryz.prog 141 #[.agg #[.int .i64 f0,.int .i64 f1,.string (str f2),.string (str f3),.string (str f4),.string (str f5),.string (str f6),.int .u64 f7,.int .u32 f8,.int .i64 f9,.int .i64 f10,.int .i64 f11,.int .i64 f12,.slice s1.A s1.n s1.c,.slice s2.A s2.n s2.c,.slice s3.A s3.n s3.c,.slice s4.A s4.n s4.c],.agg #[.int .i64 f0,.int .i64 f1,.string (str f2),.string (str f3),.string (str f4),.string (str f5),.string (str f6),.int .u64 f7,.int .u32 f8,.int .i64 f9,.int .i64 g10,.int .i64 g11,.int .i64 g12,.slice t1.A t1.n t1.c,.slice t2.A t2.n t2.c,.slice t3.A t3.n t3.c,.slice t4.A t4.n t4.c]] w fun e w'=>e=.returned (.bool false)∧Below w.heap.size w w':=by
 have d2:(f2 == f2)=true:=beq_self_eq_true _;have d3:(f3 == f3)=true:=beq_self_eq_true _;have d4:(f4 == f4)=true:=beq_self_eq_true _;have d5:(f5 == f5)=true:=beq_self_eq_true _;have d6:(f6 == f6)=true:=beq_self_eq_true _
 have d10:(f10 == g10)=false:=by rw [beq_eq_false_iff_ne];exact e
 clear e
 go_enter Tryz.func141,Tryz.ntmps141
 go_wp2;go_ret;exact ⟨rfl,vAi _ _ _⟩
theorem rs_11 (f0:Int) (f1:Int) (f2:List UInt8) (f3:List UInt8) (f4:List UInt8) (f5:List UInt8) (f6:List UInt8) (f7:Int) (f8:Int) (f9:Int) (f10:Int) (f11:Int) (g11:Int) (f12:Int) (g12:Int) (s1 s2 s3 s4 t1 t2 t3 t4:SlV) (w:World) (e:f11≠g11):
 Calls Tryz.prog 141 #[.agg #[.int .i64 f0,.int .i64 f1,.string (str f2),.string (str f3),.string (str f4),.string (str f5),.string (str f6),.int .u64 f7,.int .u32 f8,.int .i64 f9,.int .i64 f10,.int .i64 f11,.int .i64 f12,.slice s1.A s1.n s1.c,.slice s2.A s2.n s2.c,.slice s3.A s3.n s3.c,.slice s4.A s4.n s4.c],.agg #[.int .i64 f0,.int .i64 f1,.string (str f2),.string (str f3),.string (str f4),.string (str f5),.string (str f6),.int .u64 f7,.int .u32 f8,.int .i64 f9,.int .i64 f10,.int .i64 g11,.int .i64 g12,.slice t1.A t1.n t1.c,.slice t2.A t2.n t2.c,.slice t3.A t3.n t3.c,.slice t4.A t4.n t4.c]] w fun e w'=>e=.returned (.bool false)∧Below w.heap.size w w':=by
 have d2:(f2 == f2)=true:=beq_self_eq_true _;have d3:(f3 == f3)=true:=beq_self_eq_true _;have d4:(f4 == f4)=true:=beq_self_eq_true _;have d5:(f5 == f5)=true:=beq_self_eq_true _;have d6:(f6 == f6)=true:=beq_self_eq_true _
 have d11:(f11 == g11)=false:=by rw [beq_eq_false_iff_ne];exact e
 clear e
 go_enter Tryz.func141,Tryz.ntmps141
 go_wp2;go_ret;exact ⟨rfl,vAi _ _ _⟩
theorem rs_12 (f0:Int) (f1:Int) (f2:List UInt8) (f3:List UInt8) (f4:List UInt8) (f5:List UInt8) (f6:List UInt8) (f7:Int) (f8:Int) (f9:Int) (f10:Int) (f11:Int) (f12:Int) (g12:Int) (s1 s2 s3 s4 t1 t2 t3 t4:SlV) (w:World) (e:f12≠g12):
 Calls Tryz.prog 141 #[.agg #[.int .i64 f0,.int .i64 f1,.string (str f2),.string (str f3),.string (str f4),.string (str f5),.string (str f6),.int .u64 f7,.int .u32 f8,.int .i64 f9,.int .i64 f10,.int .i64 f11,.int .i64 f12,.slice s1.A s1.n s1.c,.slice s2.A s2.n s2.c,.slice s3.A s3.n s3.c,.slice s4.A s4.n s4.c],.agg #[.int .i64 f0,.int .i64 f1,.string (str f2),.string (str f3),.string (str f4),.string (str f5),.string (str f6),.int .u64 f7,.int .u32 f8,.int .i64 f9,.int .i64 f10,.int .i64 f11,.int .i64 g12,.slice t1.A t1.n t1.c,.slice t2.A t2.n t2.c,.slice t3.A t3.n t3.c,.slice t4.A t4.n t4.c]] w fun e w'=>e=.returned (.bool false)∧Below w.heap.size w w':=by
 have d2:(f2 == f2)=true:=beq_self_eq_true _;have d3:(f3 == f3)=true:=beq_self_eq_true _;have d4:(f4 == f4)=true:=beq_self_eq_true _;have d5:(f5 == f5)=true:=beq_self_eq_true _;have d6:(f6 == f6)=true:=beq_self_eq_true _
 have d12:(f12 == g12)=false:=by rw [beq_eq_false_iff_ne];exact e
 clear e
 go_enter Tryz.func141,Tryz.ntmps141
 go_wp2;go_ret;exact ⟨rfl,vAi _ _ _⟩
theorem rs_13 (f0:Int) (f1:Int) (f2:List UInt8) (f3:List UInt8) (f4:List UInt8) (f5:List UInt8) (f6:List UInt8) (f7:Int) (f8:Int) (f9:Int) (f10:Int) (f11:Int) (f12:Int) (f13:List Int) (g13:List Int) (s1 s2 s3 s4 t1 t2 t3 t4:SlV) (w:World) (h13:ISl w .i64 s1.A s1.n s1.c f13) (k13:ISl w .i64 t1.A t1.n t1.c g13) (e:f13≠g13):
 Calls Tryz.prog 141 #[.agg #[.int .i64 f0,.int .i64 f1,.string (str f2),.string (str f3),.string (str f4),.string (str f5),.string (str f6),.int .u64 f7,.int .u32 f8,.int .i64 f9,.int .i64 f10,.int .i64 f11,.int .i64 f12,.slice s1.A s1.n s1.c,.slice s2.A s2.n s2.c,.slice s3.A s3.n s3.c,.slice s4.A s4.n s4.c],.agg #[.int .i64 f0,.int .i64 f1,.string (str f2),.string (str f3),.string (str f4),.string (str f5),.string (str f6),.int .u64 f7,.int .u32 f8,.int .i64 f9,.int .i64 f10,.int .i64 f11,.int .i64 f12,.slice t1.A t1.n t1.c,.slice t2.A t2.n t2.c,.slice t3.A t3.n t3.c,.slice t4.A t4.n t4.c]] w fun e w'=>e=.returned (.bool false)∧Below w.heap.size w w':=by
 have H13:=Lib.hid h13;have G13:=Lib.hid k13;clear h13 k13;have d2:(f2 == f2)=true:=beq_self_eq_true _;have d3:(f3 == f3)=true:=beq_self_eq_true _;have d4:(f4 == f4)=true:=beq_self_eq_true _;have d5:(f5 == f5)=true:=beq_self_eq_true _;have d6:(f6 == f6)=true:=beq_self_eq_true _;have D13:=Lib.hid (show (f13 == g13)=false by rw [beq_eq_false_iff_ne];exact e);clear e
 go_enter Tryz.func141,Tryz.ntmps141
 go_wp2_with (go_at_call 27;(with_reducible refine (vDp s1 t1 f13 g13 _ ((H13.out.alloc _).alloc _) ((G13.out.alloc _).alloc _)).mono ?_);rintro e w13 ⟨rfl,m13,rfl⟩;rw [D13.out]);go_ret;exact ⟨rfl,vAd (vAi _ _ _) _⟩
end Go.Proofs.YtnpembgchmmbjaaGreat
