import Derived.Test.YtkpbbfehglihlaaGreatDoorDs05
import Derived.Test.YtkpbbfehglihlaaGreatDoorDs12
import Derived.Test.YtkpbbfehglihlaaGreatDoorDs08
import Derived.WalkSpells
import Derived.Test.YtkpbbfehglihlaaGreatDoorShelf
set_option maxRecDepth 100000
set_option maxHeartbeats 40000000
namespace Go.Proofs.YtkpbbfehglihlaaGreatDoor
open Go.Lib (hid)
open Go.RowKit
theorem vFt {xs ys:List Int} {n:Nat} (hx:xs.length=n) (hy:ys.length=n) (h:∀j,j<n→xs.getD j 0=ys.getD j 0):xs=ys:=by
 apply List.ext_getElem (by omega)
 intro j h1 h2
 have:=h j (by omega)
 simpa [List.getD,List.getElem?_eq_getElem h1,List.getElem?_eq_getElem h2] using this
theorem vDj (s:SlV) (xs:List Int) (x:Int) (w:World) (h:ISl w .i64 s.A s.n s.c xs):
 Calls Tryz.prog 87 #[.slice s.A s.n s.c,.int .i64 x] w fun e w'=>e=.returned (.bool (xs.contains x))∧w=w':=by
 obtain ⟨A,n,c⟩:=s;have hl:=h.len;have hle:=h.le;have hcap:=h.cap
 by_cases hn:0<n
 · obtain ⟨b,off,e,hb,hc⟩:=h.2.2.2 hn
   dsimp only at e hl hc ⊢;subst e;refine (Tryz.slices_Contains_int b off n c xs x w (by omega) (by dsimp only at hle hcap;omega) (fun j hj=>hc j (by omega))).mono ?_;rintro e w' ⟨rfl,rfl⟩;exact ⟨by rw [←hl,List.take_length],rfl⟩
 · dsimp only at hl ⊢
   obtain rfl:n=0:=by omega
   obtain rfl:xs=[]:=List.eq_nil_of_length_eq_zero hl;refine (Tryz.slices_Contains_int_empty A c x w).mono ?_;rintro e w' ⟨rfl,rfl⟩;exact ⟨rfl,rfl⟩
theorem vFa (s t:SlV) (xs ys:List Int) (w:World) (h:ISl w .i64 s.A s.n s.c xs) (h2:ISl w .i64 t.A t.n t.c ys):
 Calls Tryz.prog 117 #[.slice s.A s.n s.c,.slice t.A t.n t.c] w fun e w'=>e=.returned (.bool (xs == ys))∧Drew w w':=by
 obtain ⟨A,n,c⟩:=s;obtain ⟨B,n2,c2⟩:=t;dsimp only at h h2 ⊢;have hle:=h.le;have hcap:=h.cap;have hle2:=h2.le;have hcap2:=h2.cap;have H:=hid h;have H2:=hid h2;clear h h2
 by_cases hne:n=n2
 · subst hne
   by_cases hn:0<n
   · obtain ⟨b,off,rfl,hb,hc⟩:=H.out.2.2.2 hn
     obtain ⟨b2,off2,rfl,hb2,hc2⟩:=H2.out.2.2.2 hn;have HC:=hid hc;have HC2:=hid hc2;clear hc hc2
     go_enter Tryz.func117,Tryz.ntmps117
     go_wp2
     go_loopw [13] (fun i wr=>∃k:Nat,k≤n∧i=.int .i64 (k:Int)∧(∀j,j<k→xs.getD j 0=ys.getD j 0)∧Drew w wr) (fun i _=>n - (intOf i).toNat)
     case atStart=>exact ⟨0,by omega,rfl,fun j hj=>absurd hj (by omega),Drew.refl _⟩
     case round=>
      obtain ⟨k,hk,rfl,hal,m,rfl⟩:=hrel;have AL:=hid hal;clear hal
      by_cases hlt:k<n
      · have c0:w.cell? ⟨b,off+k,none⟩=some (.int .i64 (xs.getD k 0)):=HC.out k hlt
        have c1:w.cell? ⟨b2,off2+k,none⟩=some (.int .i64 (ys.getD k 0)):=HC2.out k hlt;generalize hx:xs.getD k 0=x at c0;generalize hy:ys.getD k 0=y at c1;have HX:=hid hx;have HY:=hid hy;clear hx hy
        by_cases hxy:x=y
        · subst hxy
          go_wp2
          go_quiet (fail)
          go_wp2
          go_roundw
          case rel=>exact ⟨k+1,by omega,by go_num,fun j hj=>by
           by_cases e:j=k
           · subst e;rw [HX.out,HY.out]
           · exact AL.out j (by omega),⟨m+nq,rfl⟩⟩
          case measure=>simp [intOf];omega
        · have E:=hid (show (xs == ys)=false by
           rw [beq_eq_false_iff_ne];intro e;subst e
           exact hxy (HX.out.symm.trans HY.out))
          go_wp2
          go_quiet (fail)
          go_wp2;go_ret;exact ⟨by rw [E.out];rfl,⟨m+nq,by rw [vDc]⟩⟩
      · obtain rfl:k=n:=by omega
        have E:=hid (show (xs == ys)=true by rw [beq_iff_eq];exact vFt H.out.len H2.out.len AL.out);go_wp2;go_ret;exact ⟨by rw [E.out];rfl,⟨m,rfl⟩⟩
   · obtain rfl:n=0:=by omega
     obtain rfl:xs=[]:=List.eq_nil_of_length_eq_zero H.out.len;obtain rfl:ys=[]:=List.eq_nil_of_length_eq_zero H2.out.len
     go_enter Tryz.func117,Tryz.ntmps117
     go_wp2
     go_loop [13] (fun i=>i=.int .i64 0) (fun i=>0)
     case atStart=>rfl
     case round=>
      subst hrel;go_wp2;go_ret;exact ⟨rfl,Drew.refl _⟩
 · have E:=hid (show (xs == ys)=false by
    rw [beq_eq_false_iff_ne];intro e;subst e
    exact hne (H.out.len.symm.trans H2.out.len))
   go_enter Tryz.func117,Tryz.ntmps117
   go_wp2;go_ret;exact ⟨by rw [E.out];rfl,Drew.refl _⟩
theorem eq_uint32 (s t:SlV) (xs ys:List Int) (w:World) (h:ISl w .u32 s.A s.n s.c xs) (h2:ISl w .u32 t.A t.n t.c ys):
 Calls Tryz.prog 118 #[.slice s.A s.n s.c,.slice t.A t.n t.c] w fun e w'=>e=.returned (.bool (xs == ys))∧Drew w w':=by
 obtain ⟨A,n,c⟩:=s;obtain ⟨B,n2,c2⟩:=t;dsimp only at h h2 ⊢;have hle:=h.le;have hcap:=h.cap;have hle2:=h2.le;have hcap2:=h2.cap;have H:=hid h;have H2:=hid h2;clear h h2
 by_cases hne:n=n2
 · subst hne
   by_cases hn:0<n
   · obtain ⟨b,off,rfl,hb,hc⟩:=H.out.2.2.2 hn
     obtain ⟨b2,off2,rfl,hb2,hc2⟩:=H2.out.2.2.2 hn;have HC:=hid hc;have HC2:=hid hc2;clear hc hc2
     go_enter Tryz.func118,Tryz.ntmps118
     go_wp2
     go_loopw [13] (fun i wr=>∃k:Nat,k≤n∧i=.int .i64 (k:Int)∧(∀j,j<k→xs.getD j 0=ys.getD j 0)∧Drew w wr) (fun i _=>n - (intOf i).toNat)
     case atStart=>exact ⟨0,by omega,rfl,fun j hj=>absurd hj (by omega),Drew.refl _⟩
     case round=>
      obtain ⟨k,hk,rfl,hal,m,rfl⟩:=hrel;have AL:=hid hal;clear hal
      by_cases hlt:k<n
      · have c0:w.cell? ⟨b,off+k,none⟩=some (.int .u32 (xs.getD k 0)):=HC.out k hlt
        have c1:w.cell? ⟨b2,off2+k,none⟩=some (.int .u32 (ys.getD k 0)):=HC2.out k hlt;generalize hx:xs.getD k 0=x at c0;generalize hy:ys.getD k 0=y at c1;have HX:=hid hx;have HY:=hid hy;clear hx hy
        by_cases hxy:x=y
        · subst hxy
          go_wp2
          go_quiet (fail)
          go_wp2
          go_roundw
          case rel=>exact ⟨k+1,by omega,by go_num,fun j hj=>by
           by_cases e:j=k
           · subst e;rw [HX.out,HY.out]
           · exact AL.out j (by omega),⟨m+nq,rfl⟩⟩
          case measure=>simp [intOf];omega
        · have E:=hid (show (xs == ys)=false by
           rw [beq_eq_false_iff_ne];intro e;subst e
           exact hxy (HX.out.symm.trans HY.out))
          go_wp2
          go_quiet (fail)
          go_wp2;go_ret;exact ⟨by rw [E.out];rfl,⟨m+nq,by rw [vDc]⟩⟩
      · obtain rfl:k=n:=by omega
        have E:=hid (show (xs == ys)=true by rw [beq_iff_eq];exact vFt H.out.len H2.out.len AL.out);go_wp2;go_ret;exact ⟨by rw [E.out];rfl,⟨m,rfl⟩⟩
   · obtain rfl:n=0:=by omega
     obtain rfl:xs=[]:=List.eq_nil_of_length_eq_zero H.out.len;obtain rfl:ys=[]:=List.eq_nil_of_length_eq_zero H2.out.len
     go_enter Tryz.func118,Tryz.ntmps118
     go_wp2
     go_loop [13] (fun i=>i=.int .i64 0) (fun i=>0)
     case atStart=>rfl
     case round=>
      subst hrel;go_wp2;go_ret;exact ⟨rfl,Drew.refl _⟩
 · have E:=hid (show (xs == ys)=false by
    rw [beq_eq_false_iff_ne];intro e;subst e
    exact hne (H.out.len.symm.trans H2.out.len))
   go_enter Tryz.func118,Tryz.ntmps118
   go_wp2;go_ret;exact ⟨by rw [E.out];rfl,Drew.refl _⟩
def vBi (P:Program) (f:FuncId):Prop:=∀args w,(callFunc f args).run P w=.ok (.enter f args) w
theorem vBc {P:Program} {f:FuncId} {fn:Func} {c:Code} (hf:P.funcs[f]?=some fn) (hname:(fn.name == "runtime.NumGoroutine")=false) (hb:fn.body=some c):vBi P f:=fun args w=>by
 have h2:¬fn.name="runtime.NumGoroutine":=by simpa using hname
 unfold callFunc;simp [go_sem,hf,h2,hb]
theorem vHe (i:Int) (A:Option Addr) (n c:Nat) (_hle:n≤c) (_hcap:c≤9223372036854775807) (w:World):Calls Tryz.prog 123 #[.int .i64 i,.slice A n c] w fun e w'=>e=.returned (.bool (plB i (n:Int)))∧w=w':=by
 unfold plB
 by_cases h0:0≤i
 · by_cases h1:i<(n:Int)
   · have e:(decide (0≤i) && decide (i<(n:Int)))=true:=by simp;omega
     rw [e]
     go_enter Tryz.func123,Tryz.ntmps123
     go_wp2;go_ret;exact ⟨rfl,rfl⟩
   · have e:(decide (0≤i) && decide (i<(n:Int)))=false:=by simp;omega
     rw [e]
     go_enter Tryz.func123,Tryz.ntmps123
     go_wp2;go_ret;exact ⟨rfl,rfl⟩
 · have e:(decide (0≤i) && decide (i<(n:Int)))=false:=by simp;omega
   rw [e]
   go_enter Tryz.func123,Tryz.ntmps123
   go_wp2;go_ret;exact ⟨rfl,rfl⟩
theorem vHl (i:Int) (A:Option Addr) (n c:Nat) (_hle:n≤c) (_hcap:c≤9223372036854775807) (w:World):Calls Tryz.prog 131 #[.int .i64 i,.slice A n c] w fun e w'=>e=.returned (.bool (plB i (n:Int)))∧w=w':=by
 unfold plB
 by_cases h0:0≤i
 · by_cases h1:i<(n:Int)
   · have e:(decide (0≤i) && decide (i<(n:Int)))=true:=by simp;omega
     rw [e]
     go_enter Tryz.func131,Tryz.ntmps131
     go_wp2;go_ret;exact ⟨rfl,rfl⟩
   · have e:(decide (0≤i) && decide (i<(n:Int)))=false:=by simp;omega
     rw [e]
     go_enter Tryz.func131,Tryz.ntmps131
     go_wp2;go_ret;exact ⟨rfl,rfl⟩
 · have e:(decide (0≤i) && decide (i<(n:Int)))=false:=by simp;omega
   rw [e]
   go_enter Tryz.func131,Tryz.ntmps131
   go_wp2;go_ret;exact ⟨rfl,rfl⟩
theorem place_link (i:Int) (A:Option Addr) (n c:Nat) (_hle:n≤c) (_hcap:c≤9223372036854775807) (w:World):Calls Tryz.prog 127 #[.int .i64 i,.slice A n c] w fun e w'=>e=.returned (.bool (plB i (n:Int)))∧w=w':=by
 unfold plB
 by_cases h0:0≤i
 · by_cases h1:i<(n:Int)
   · have e:(decide (0≤i) && decide (i<(n:Int)))=true:=by simp;omega
     rw [e]
     go_enter Tryz.func127,Tryz.ntmps127
     go_wp2;go_ret;exact ⟨rfl,rfl⟩
   · have e:(decide (0≤i) && decide (i<(n:Int)))=false:=by simp;omega
     rw [e]
     go_enter Tryz.func127,Tryz.ntmps127
     go_wp2;go_ret;exact ⟨rfl,rfl⟩
 · have e:(decide (0≤i) && decide (i<(n:Int)))=false:=by simp;omega
   rw [e]
   go_enter Tryz.func127,Tryz.ntmps127
   go_wp2;go_ret;exact ⟨rfl,rfl⟩
theorem vHc (i:Int) (A:Option Addr) (n c:Nat) (_hle:n≤c) (_hcap:c≤9223372036854775807) (w:World):Calls Tryz.prog 110 #[.int .i64 i,.slice A n c] w fun e w'=>e=.returned (.bool (plB i (n:Int)))∧w=w':=by
 unfold plB
 by_cases h0:0≤i
 · by_cases h1:i<(n:Int)
   · have e:(decide (0≤i) && decide (i<(n:Int)))=true:=by simp;omega
     rw [e]
     go_enter Tryz.func110,Tryz.ntmps110
     go_wp2;go_ret;exact ⟨rfl,rfl⟩
   · have e:(decide (0≤i) && decide (i<(n:Int)))=false:=by simp;omega
     rw [e]
     go_enter Tryz.func110,Tryz.ntmps110
     go_wp2;go_ret;exact ⟨rfl,rfl⟩
 · have e:(decide (0≤i) && decide (i<(n:Int)))=false:=by simp;omega
   rw [e]
   go_enter Tryz.func110,Tryz.ntmps110
   go_wp2;go_ret;exact ⟨rfl,rfl⟩
theorem place_vrf (i:Int) (A:Option Addr) (n c:Nat) (_hle:n≤c) (_hcap:c≤9223372036854775807) (w:World):Calls Tryz.prog 136 #[.int .i64 i,.slice A n c] w fun e w'=>e=.returned (.bool (plB i (n:Int)))∧w=w':=by
 unfold plB
 by_cases h0:0≤i
 · by_cases h1:i<(n:Int)
   · have e:(decide (0≤i) && decide (i<(n:Int)))=true:=by simp;omega
     rw [e]
     go_enter Tryz.func136,Tryz.ntmps136
     go_wp2;go_ret;exact ⟨rfl,rfl⟩
   · have e:(decide (0≤i) && decide (i<(n:Int)))=false:=by simp;omega
     rw [e]
     go_enter Tryz.func136,Tryz.ntmps136
     go_wp2;go_ret;exact ⟨rfl,rfl⟩
 · have e:(decide (0≤i) && decide (i<(n:Int)))=false:=by simp;omega
   rw [e]
   go_enter Tryz.func136,Tryz.ntmps136
   go_wp2;go_ret;exact ⟨rfl,rfl⟩
theorem place_irb (i:Int) (A:Option Addr) (n c:Nat) (_hle:n≤c) (_hcap:c≤9223372036854775807) (w:World):Calls Tryz.prog 132 #[.int .i64 i,.slice A n c] w fun e w'=>e=.returned (.bool (plB i (n:Int)))∧w=w':=by
 unfold plB
 by_cases h0:0≤i
 · by_cases h1:i<(n:Int)
   · have e:(decide (0≤i) && decide (i<(n:Int)))=true:=by simp;omega
     rw [e]
     go_enter Tryz.func132,Tryz.ntmps132
     go_wp2;go_ret;exact ⟨rfl,rfl⟩
   · have e:(decide (0≤i) && decide (i<(n:Int)))=false:=by simp;omega
     rw [e]
     go_enter Tryz.func132,Tryz.ntmps132
     go_wp2;go_ret;exact ⟨rfl,rfl⟩
 · have e:(decide (0≤i) && decide (i<(n:Int)))=false:=by simp;omega
   rw [e]
   go_enter Tryz.func132,Tryz.ntmps132
   go_wp2;go_ret;exact ⟨rfl,rfl⟩
end Go.Proofs.YtkpbbfehglihlaaGreatDoor
