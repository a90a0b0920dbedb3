import Derived.Test.YtkpbbfehglihlaaGreatDoorDs01
import Derived.Test.YtkpbbfehglihlaaGreatDoorDs03
import Derived.Test.YtkpbbfehglihlaaGreatDoorDs12
import Derived.Test.YtkpbbfehglihlaaGreatDoorDs13
set_option maxRecDepth 100000
set_option maxHeartbeats 40000000
namespace Go.Proofs.YtkpbbfehglihlaaGreatDoor
open Go.Lib (hid)
open Go.RowKit
abbrev lF (f0 f1:Int) (f2 f3 f4 f5 f6:List UInt8) (f7 f8 f9 f10 f11 f12:Int) (s1 s2 s3 s4:SlV):Value:=.agg #[.int .i64 f0,.int .i64 f1,.string (str f2),.string (str f3),.string (str f4),.string (str f5),.string (str f6),.int .u64 f7,.int .u32 f8,.int .i64 f9,.int .i64 f10,.int .i64 f11,.int .i64 f12,.slice s1.A s1.n s1.c,.slice s2.A s2.n s2.c,.slice s3.A s3.n s3.c,.slice s4.A s4.n s4.c]
theorem vDl (s t:SlV) (xs ys:List Int) (w:World) (h:ISl w .i64 s.A s.n s.c xs) (h2:ISl w .i64 t.A t.n t.c ys):
 Calls Tryz.prog 17 #[.slice s.A s.n s.c,.slice t.A t.n t.c] w fun e w'=>e=.returned (.bool (xs == ys))∧Drew w w':=by
 obtain ⟨A,n,c⟩:=s;obtain ⟨B,n2,c2⟩:=t;dsimp only at h h2 ⊢;have hle:=h.le;have hcap:=h.cap;have hle2:=h2.le;have hcap2:=h2.cap;have H:=hid h;have H2:=hid h2;clear h h2
 by_cases hne:n=n2
 · subst hne
   by_cases hn:0<n
   · obtain ⟨b,off,rfl,hb,hc⟩:=H.out.2.2.2 hn
     obtain ⟨b2,off2,rfl,hb2,hc2⟩:=H2.out.2.2.2 hn;have HC:=hid hc;have HC2:=hid hc2;clear hc hc2
     go_enter Tryz.func17,Tryz.ntmps17
     go_wp2
     go_loopw [5] (fun i wr=>∃k:Nat,k≤n∧i=.int .i64 (k:Int)∧(∀j,j<k→xs.getD j 0=ys.getD j 0)∧Drew w wr) (fun i _=>n - (intOf i).toNat)
     case atStart=>exact ⟨0,by omega,rfl,fun j hj=>absurd hj (by omega),Drew.refl _⟩
     case round=>
      obtain ⟨k,hk,rfl,hal,m,rfl⟩:=hrel;have AL:=hid hal;clear hal
      by_cases hlt:k<n
      · have c0:w.cell? ⟨b,off+k,none⟩=some (.int .i64 (xs.getD k 0)):=HC.out k hlt
        have c1:w.cell? ⟨b2,off2+k,none⟩=some (.int .i64 (ys.getD k 0)):=HC2.out k hlt;generalize hx:xs.getD k 0=x at c0;generalize hy:ys.getD k 0=y at c1;have HX:=hid hx;have HY:=hid hy;clear hx hy
        by_cases hxy:x=y
        · subst hxy
          go_wp2
          go_quiet (fail)
          go_wp2
          go_roundw
          case rel=>exact ⟨k+1,by omega,by go_num,fun j hj=>by
           by_cases e:j=k
           · subst e;rw [HX.out,HY.out]
           · exact AL.out j (by omega),⟨m+nq,rfl⟩⟩
          case measure=>simp [intOf];omega
        · have E:=hid (show (xs == ys)=false by
           rw [beq_eq_false_iff_ne];intro e;subst e
           exact hxy (HX.out.symm.trans HY.out))
          go_wp2
          go_quiet (fail)
          go_wp2;go_ret;exact ⟨by rw [E.out];rfl,⟨m+nq,by rw [vDc]⟩⟩
      · obtain rfl:k=n:=by omega
        have E:=hid (show (xs == ys)=true by rw [beq_iff_eq];exact vFt H.out.len H2.out.len AL.out);go_wp2;go_ret;exact ⟨by rw [E.out];rfl,⟨m,rfl⟩⟩
   · obtain rfl:n=0:=by omega
     obtain rfl:xs=[]:=List.eq_nil_of_length_eq_zero H.out.len;obtain rfl:ys=[]:=List.eq_nil_of_length_eq_zero H2.out.len
     go_enter Tryz.func17,Tryz.ntmps17
     go_wp2
     go_loop [5] (fun i=>i=.int .i64 0) (fun i=>0)
     case atStart=>rfl
     case round=>
      subst hrel;go_wp2;go_ret;exact ⟨rfl,Drew.refl _⟩
 · have E:=hid (show (xs == ys)=false by
    rw [beq_eq_false_iff_ne];intro e;subst e
    exact hne (H.out.len.symm.trans H2.out.len))
   go_enter Tryz.func17,Tryz.ntmps17
   go_wp2;go_ret;exact ⟨by rw [E.out];rfl,Drew.refl _⟩
theorem req_uint32 (s t:SlV) (xs ys:List Int) (w:World) (h:ISl w .u32 s.A s.n s.c xs) (h2:ISl w .u32 t.A t.n t.c ys):
 Calls Tryz.prog 37 #[.slice s.A s.n s.c,.slice t.A t.n t.c] w fun e w'=>e=.returned (.bool (xs == ys))∧Drew w w':=by
 obtain ⟨A,n,c⟩:=s;obtain ⟨B,n2,c2⟩:=t;dsimp only at h h2 ⊢;have hle:=h.le;have hcap:=h.cap;have hle2:=h2.le;have hcap2:=h2.cap;have H:=hid h;have H2:=hid h2;clear h h2
 by_cases hne:n=n2
 · subst hne
   by_cases hn:0<n
   · obtain ⟨b,off,rfl,hb,hc⟩:=H.out.2.2.2 hn
     obtain ⟨b2,off2,rfl,hb2,hc2⟩:=H2.out.2.2.2 hn;have HC:=hid hc;have HC2:=hid hc2;clear hc hc2
     go_enter Tryz.func37,Tryz.ntmps37
     go_wp2
     go_loopw [5] (fun i wr=>∃k:Nat,k≤n∧i=.int .i64 (k:Int)∧(∀j,j<k→xs.getD j 0=ys.getD j 0)∧Drew w wr) (fun i _=>n - (intOf i).toNat)
     case atStart=>exact ⟨0,by omega,rfl,fun j hj=>absurd hj (by omega),Drew.refl _⟩
     case round=>
      obtain ⟨k,hk,rfl,hal,m,rfl⟩:=hrel;have AL:=hid hal;clear hal
      by_cases hlt:k<n
      · have c0:w.cell? ⟨b,off+k,none⟩=some (.int .u32 (xs.getD k 0)):=HC.out k hlt
        have c1:w.cell? ⟨b2,off2+k,none⟩=some (.int .u32 (ys.getD k 0)):=HC2.out k hlt;generalize hx:xs.getD k 0=x at c0;generalize hy:ys.getD k 0=y at c1;have HX:=hid hx;have HY:=hid hy;clear hx hy
        by_cases hxy:x=y
        · subst hxy
          go_wp2
          go_quiet (fail)
          go_wp2
          go_roundw
          case rel=>exact ⟨k+1,by omega,by go_num,fun j hj=>by
           by_cases e:j=k
           · subst e;rw [HX.out,HY.out]
           · exact AL.out j (by omega),⟨m+nq,rfl⟩⟩
          case measure=>simp [intOf];omega
        · have E:=hid (show (xs == ys)=false by
           rw [beq_eq_false_iff_ne];intro e;subst e
           exact hxy (HX.out.symm.trans HY.out))
          go_wp2
          go_quiet (fail)
          go_wp2;go_ret;exact ⟨by rw [E.out];rfl,⟨m+nq,by rw [vDc]⟩⟩
      · obtain rfl:k=n:=by omega
        have E:=hid (show (xs == ys)=true by rw [beq_iff_eq];exact vFt H.out.len H2.out.len AL.out);go_wp2;go_ret;exact ⟨by rw [E.out];rfl,⟨m,rfl⟩⟩
   · obtain rfl:n=0:=by omega
     obtain rfl:xs=[]:=List.eq_nil_of_length_eq_zero H.out.len;obtain rfl:ys=[]:=List.eq_nil_of_length_eq_zero H2.out.len
     go_enter Tryz.func37,Tryz.ntmps37
     go_wp2
     go_loop [5] (fun i=>i=.int .i64 0) (fun i=>0)
     case atStart=>rfl
     case round=>
      subst hrel;go_wp2;go_ret;exact ⟨rfl,Drew.refl _⟩
 · have E:=hid (show (xs == ys)=false by
    rw [beq_eq_false_iff_ne];intro e;subst e
    exact hne (H.out.len.symm.trans H2.out.len))
   go_enter Tryz.func37,Tryz.ntmps37
   go_wp2;go_ret;exact ⟨by rw [E.out];rfl,Drew.refl _⟩
end Go.Proofs.YtkpbbfehglihlaaGreatDoor
