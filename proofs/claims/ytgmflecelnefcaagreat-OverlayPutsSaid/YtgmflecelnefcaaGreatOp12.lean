import Derived.Test.YtgmflecelnefcaaGreatOp07
import Derived.Test.YtgmflecelnefcaaGreatOp11
set_option maxRecDepth 100000
set_option maxHeartbeats 40000000
namespace Go.Proofs.YtgmflecelnefcaaGreat
open Go.Lib (hid)
open Go.RowKit
def vAz (P:Program) (f:FuncId):Prop:=∀args w,(callFunc f args).run P w=.ok (.enter f args) w
theorem vAt {P:Program} {f:FuncId} {fn:Func} {c:Code} (hf:P.funcs[f]?=some fn) (hname:(fn.name == "runtime.NumGoroutine")=false) (hb:fn.body=some c):vAz P f:=fun args w=>by
 have h2:¬fn.name="runtime.NumGoroutine":=by simpa using hname
 unfold callFunc;simp [go_sem,hf,h2,hb]
theorem vHe (i:Int) (A:Option Addr) (n c:Nat) (_hle:n≤c) (_hcap:c≤9223372036854775807) (w:World):Calls Tryz.prog 118 #[.int .i64 i,.slice A n c] w fun e w'=>e=.returned (.bool (plB i (n:Int)))∧w=w':=by
 unfold plB
 by_cases h0:0≤i
 · by_cases h1:i<(n:Int)
   · have e:(decide (0≤i) && decide (i<(n:Int)))=true:=by simp;omega
     rw [e]
     go_enter Tryz.func118,Tryz.ntmps118
     go_wp2;go_ret;exact ⟨rfl,rfl⟩
   · have e:(decide (0≤i) && decide (i<(n:Int)))=false:=by simp;omega
     rw [e]
     go_enter Tryz.func118,Tryz.ntmps118
     go_wp2;go_ret;exact ⟨rfl,rfl⟩
 · have e:(decide (0≤i) && decide (i<(n:Int)))=false:=by simp;omega
   rw [e]
   go_enter Tryz.func118,Tryz.ntmps118
   go_wp2;go_ret;exact ⟨rfl,rfl⟩
theorem vHq (i:Int) (A:Option Addr) (n c:Nat) (_hle:n≤c) (_hcap:c≤9223372036854775807) (w:World):Calls Tryz.prog 127 #[.int .i64 i,.slice A n c] w fun e w'=>e=.returned (.bool (plB i (n:Int)))∧w=w':=by
 unfold plB
 by_cases h0:0≤i
 · by_cases h1:i<(n:Int)
   · have e:(decide (0≤i) && decide (i<(n:Int)))=true:=by simp;omega
     rw [e]
     go_enter Tryz.func127,Tryz.ntmps127
     go_wp2;go_ret;exact ⟨rfl,rfl⟩
   · have e:(decide (0≤i) && decide (i<(n:Int)))=false:=by simp;omega
     rw [e]
     go_enter Tryz.func127,Tryz.ntmps127
     go_wp2;go_ret;exact ⟨rfl,rfl⟩
 · have e:(decide (0≤i) && decide (i<(n:Int)))=false:=by simp;omega
   rw [e]
   go_enter Tryz.func127,Tryz.ntmps127
   go_wp2;go_ret;exact ⟨rfl,rfl⟩
theorem place_link (i:Int) (A:Option Addr) (n c:Nat) (_hle:n≤c) (_hcap:c≤9223372036854775807) (w:World):Calls Tryz.prog 123 #[.int .i64 i,.slice A n c] w fun e w'=>e=.returned (.bool (plB i (n:Int)))∧w=w':=by
 unfold plB
 by_cases h0:0≤i
 · by_cases h1:i<(n:Int)
   · have e:(decide (0≤i) && decide (i<(n:Int)))=true:=by simp;omega
     rw [e]
     go_enter Tryz.func123,Tryz.ntmps123
     go_wp2;go_ret;exact ⟨rfl,rfl⟩
   · have e:(decide (0≤i) && decide (i<(n:Int)))=false:=by simp;omega
     rw [e]
     go_enter Tryz.func123,Tryz.ntmps123
     go_wp2;go_ret;exact ⟨rfl,rfl⟩
 · have e:(decide (0≤i) && decide (i<(n:Int)))=false:=by simp;omega
   rw [e]
   go_enter Tryz.func123,Tryz.ntmps123
   go_wp2;go_ret;exact ⟨rfl,rfl⟩
theorem place_dom (i:Int) (A:Option Addr) (n c:Nat) (_hle:n≤c) (_hcap:c≤9223372036854775807) (w:World):Calls Tryz.prog 130 #[.int .i64 i,.slice A n c] w fun e w'=>e=.returned (.bool (plB i (n:Int)))∧w=w':=by
 unfold plB
 by_cases h0:0≤i
 · by_cases h1:i<(n:Int)
   · have e:(decide (0≤i) && decide (i<(n:Int)))=true:=by simp;omega
     rw [e]
     go_enter Tryz.func130,Tryz.ntmps130
     go_wp2;go_ret;exact ⟨rfl,rfl⟩
   · have e:(decide (0≤i) && decide (i<(n:Int)))=false:=by simp;omega
     rw [e]
     go_enter Tryz.func130,Tryz.ntmps130
     go_wp2;go_ret;exact ⟨rfl,rfl⟩
 · have e:(decide (0≤i) && decide (i<(n:Int)))=false:=by simp;omega
   rw [e]
   go_enter Tryz.func130,Tryz.ntmps130
   go_wp2;go_ret;exact ⟨rfl,rfl⟩
theorem place_vrf (i:Int) (A:Option Addr) (n c:Nat) (_hle:n≤c) (_hcap:c≤9223372036854775807) (w:World):Calls Tryz.prog 134 #[.int .i64 i,.slice A n c] w fun e w'=>e=.returned (.bool (plB i (n:Int)))∧w=w':=by
 unfold plB
 by_cases h0:0≤i
 · by_cases h1:i<(n:Int)
   · have e:(decide (0≤i) && decide (i<(n:Int)))=true:=by simp;omega
     rw [e]
     go_enter Tryz.func134,Tryz.ntmps134
     go_wp2;go_ret;exact ⟨rfl,rfl⟩
   · have e:(decide (0≤i) && decide (i<(n:Int)))=false:=by simp;omega
     rw [e]
     go_enter Tryz.func134,Tryz.ntmps134
     go_wp2;go_ret;exact ⟨rfl,rfl⟩
 · have e:(decide (0≤i) && decide (i<(n:Int)))=false:=by simp;omega
   rw [e]
   go_enter Tryz.func134,Tryz.ntmps134
   go_wp2;go_ret;exact ⟨rfl,rfl⟩
theorem place_irb (i:Int) (A:Option Addr) (n c:Nat) (_hle:n≤c) (_hcap:c≤9223372036854775807) (w:World):Calls Tryz.prog 128 #[.int .i64 i,.slice A n c] w fun e w'=>e=.returned (.bool (plB i (n:Int)))∧w=w':=by
 unfold plB
 by_cases h0:0≤i
 · by_cases h1:i<(n:Int)
   · have e:(decide (0≤i) && decide (i<(n:Int)))=true:=by simp;omega
     rw [e]
     go_enter Tryz.func128,Tryz.ntmps128
     go_wp2;go_ret;exact ⟨rfl,rfl⟩
   · have e:(decide (0≤i) && decide (i<(n:Int)))=false:=by simp;omega
     rw [e]
     go_enter Tryz.func128,Tryz.ntmps128
     go_wp2;go_ret;exact ⟨rfl,rfl⟩
 · have e:(decide (0≤i) && decide (i<(n:Int)))=false:=by simp;omega
   rw [e]
   go_enter Tryz.func128,Tryz.ntmps128
   go_wp2;go_ret;exact ⟨rfl,rfl⟩
def IsFst (g:Nat→Bool) (n:Nat) (V:Int):Prop:=(∃k:Nat,k<n∧V=(k:Int)∧g k=true∧∀j,j<k→g j=false)∨(V= -1∧∀j,j<n→g j=false)
theorem IsFst.hit {g:Nat→Bool} {n:Nat} {V:Int} (h:IsFst g n V) {k:Nat} (hk:k<n) (hg:g k=true) (ha:∀j,j<k→g j=false):V=(k:Int):=by
 rcases h with ⟨k',h1,h2,h3,h4⟩|⟨_,h2⟩
 · rcases Nat.lt_trichotomy k k' with h|h|h
   · have:=h4 k h;rw [hg] at this;cases this
   · subst h;exact h2
   · have:=ha k' h;rw [h3] at this;cases this
 · have:=h2 k hk;rw [hg] at this;cases this
theorem IsFst.no {g:Nat→Bool} {n:Nat} {V:Int} (h:IsFst g n V) (ha:∀j,j<n→g j=false):V= -1:=by
 rcases h with ⟨k',h1,h2,h3,h4⟩|⟨h1,_⟩
 · have:=ha k' h1;rw [h3] at this;cases this
 · exact h1
theorem all_port (f:FuncId) (caps:Array Value) (hcf:vAz Tryz.prog f) (A:Option Addr) (n c:Nat) (xs:List PortV) (w:World) (h:RSl portR w (vAp w) A n c xs) (g:Nat→Bool)
 (hf:∀(k:Nat) (s:Sl3) (w':World),k<n→Below w.heap.size w w'→RSl (Rdr.int .i64) w (vAp w) s.A s.n s.c (xs.getD k PortV.zero).tagged→Calls Tryz.prog f (#[.int .i64 (k:Int),.agg #[.int .i64 (xs.getD k PortV.zero).row,.int .i64 (xs.getD k PortV.zero).dev,.int .i64 (xs.getD k PortV.zero).native,.int .i64 (xs.getD k PortV.zero).cost,.int .i64 (xs.getD k PortV.zero).link,.string (str (xs.getD k PortV.zero).name),.slice s.A s.n s.c]]++caps) w' fun e w2=>e=.returned (.bool (g k))∧Below w'.heap.size w' w2)
 (V:Bool) (hV:V=true↔∀k,k<n→g k=true):Calls Tryz.prog 64 #[.slice A n c,.func (.func f) #[] caps] w fun e w'=>e=.returned (.bool V)∧Below w.heap.size w w':=by
 have hle:=h.le;have hcap:=h.cap;have HL:=hid h.len;have H:=hid h;have HF:=hid hf;have HV:=hid hV;have CF:=hid hcf;clear h hf hV hcf
 go_enter Tryz.func64,Tryz.ntmps64
 go_wp2
 go_loopw [9] (fun i wr=>∃k:Nat,i=.int .i64 k∧k≤n∧Below w.heap.size w wr∧∀j,j<k→g j=true) (fun i _=>match i with| .int _ y=>(n - y).toNat|_=>0)
 case atStart=>exact ⟨0,rfl,by omega,Below.refl _ _,fun j hj=>absurd hj (by omega)⟩
 case round=>
  obtain ⟨k,rfl,hk,hb,hall⟩:=hrel;have W:=hid hb;have AL:=hid hall;clear hb hall
  by_cases hlt:k<n
  · obtain ⟨b0,o0,vs,rfl,_,hb0,⟨s,rfl,l1⟩,r0⟩:=vAi H.out k hlt PortV.zero
    have CK:=hid (fun w' hw=>HF.out k s w' hlt hw l1);have R1:=vAb r0 (W.out.block b0 hb0);generalize xs.getD k PortV.zero=X at *;have d0:=R1 0 _ rfl;have d1:=R1 1 _ rfl;have d2:=R1 2 _ rfl;have d3:=R1 3 _ rfl;have d4:=R1 4 _ rfl;have d5:=R1 5 _ rfl;have d6:=R1 6 _ rfl;simp only [Nat.add_zero] at d0;rw [show o0+k * portR.n=o0+k * 7 from rfl] at d0 d1 d2 d3 d4 d5 d6
    have lt2:(k:Int)<(n:Int):=by omega
    clear r0 R1 l1;obtain ⟨v,hv⟩:∃v,g k=v:=⟨_,rfl⟩;rw [hv] at CK
    cases v with
    |true=>
     have AK:=hid (show ∀j,j<k+1→g j=true from fun j hj=>by
      rcases Nat.lt_or_ge j k with h'|h'
      · exact AL.out j h'
      · obtain rfl:j=k:=by omega
        exact hv)
     clear hv;go_wp2_with ((rw [CF.out _ _]);(refine (CK.out _ (W.out.trans (((Below.refl _ _).alloc (Nat.le_refl _) _).mono W.out.size))).mono ?_);rintro e w2 ⟨rfl,hb2⟩;have W2:=hid (vAa (W.out.trans (((Below.refl _ _).alloc (Nat.le_refl _) _).mono W.out.size)) hb2);clear hb2)
     go_roundw
     case rel=>exact ⟨k+1,by simp,by omega,W2.out,AK.out⟩
     case measure=>simp only [];omega
    |false=>
     have EV:=hid (show V=false by
      cases hV:V with
      |false=>rfl
      |true=>have:=HV.out.1 hV k hlt;rw [hv] at this;cases this)
     clear hv;go_wp2_with ((rw [CF.out _ _]);(refine (CK.out _ (W.out.trans (((Below.refl _ _).alloc (Nat.le_refl _) _).mono W.out.size))).mono ?_);rintro e w2 ⟨rfl,hb2⟩;have W2:=hid (vAa (W.out.trans (((Below.refl _ _).alloc (Nat.le_refl _) _).mono W.out.size)) hb2);clear hb2);go_ret;exact ⟨by rw [EV.out];rfl,W2.out⟩
  · have EV:=hid (show V=true from HV.out.2 fun j hj=>AL.out j (by omega))
    have lt2:¬(k:Int)<(n:Int):=by omega
    go_wp2;go_ret;exact ⟨by rw [EV.out];rfl,W.out⟩
theorem all_link (f:FuncId) (caps:Array Value) (hcf:vAz Tryz.prog f) (A:Option Addr) (n c:Nat) (xs:List LinkV) (w:World) (h:RSl linkR w (vAp w) A n c xs) (g:Nat→Bool)
 (hf:∀(k:Nat) (w':World),k<n→Below w.heap.size w w'→Calls Tryz.prog f (#[.int .i64 (k:Int),.agg #[.int .i64 (xs.getD k LinkV.zero).row,.int .i64 (xs.getD k LinkV.zero).a,.int .i64 (xs.getD k LinkV.zero).b]]++caps) w' fun e w2=>e=.returned (.bool (g k))∧Below w'.heap.size w' w2)
 (V:Bool) (hV:V=true↔∀k,k<n→g k=true):Calls Tryz.prog 67 #[.slice A n c,.func (.func f) #[] caps] w fun e w'=>e=.returned (.bool V)∧Below w.heap.size w w':=by
 have hle:=h.le;have hcap:=h.cap;have HL:=hid h.len;have H:=hid h;have HF:=hid hf;have HV:=hid hV;have CF:=hid hcf;clear h hf hV hcf
 go_enter Tryz.func67,Tryz.ntmps67
 go_wp2
 go_loopw [9] (fun i wr=>∃k:Nat,i=.int .i64 k∧k≤n∧Below w.heap.size w wr∧∀j,j<k→g j=true) (fun i _=>match i with| .int _ y=>(n - y).toNat|_=>0)
 case atStart=>exact ⟨0,rfl,by omega,Below.refl _ _,fun j hj=>absurd hj (by omega)⟩
 case round=>
  obtain ⟨k,rfl,hk,hb,hall⟩:=hrel;have W:=hid hb;have AL:=hid hall;clear hb hall
  by_cases hlt:k<n
  · obtain ⟨b0,o0,vs,rfl,_,hb0,hvs,r0⟩:=vAi H.out k hlt LinkV.zero
    have hvs:vs=vHl (xs.getD k LinkV.zero):=hvs;subst hvs;have CK:=hid (fun w' hw=>HF.out k w' hlt hw);have R1:=vAb r0 (W.out.block b0 hb0);generalize xs.getD k LinkV.zero=X at *;have d0:=R1 0 _ rfl;have d1:=R1 1 _ rfl;have d2:=R1 2 _ rfl;simp only [Nat.add_zero] at d0;rw [show o0+k * linkR.n=o0+k * 3 from rfl] at d0 d1 d2
    have lt2:(k:Int)<(n:Int):=by omega
    clear r0 R1;obtain ⟨v,hv⟩:∃v,g k=v:=⟨_,rfl⟩;rw [hv] at CK
    cases v with
    |true=>
     have AK:=hid (show ∀j,j<k+1→g j=true from fun j hj=>by
      rcases Nat.lt_or_ge j k with h'|h'
      · exact AL.out j h'
      · obtain rfl:j=k:=by omega
        exact hv)
     clear hv;go_wp2_with ((rw [CF.out _ _]);(refine (CK.out _ (W.out.trans (((Below.refl _ _).alloc (Nat.le_refl _) _).mono W.out.size))).mono ?_);rintro e w2 ⟨rfl,hb2⟩;have W2:=hid (vAa (W.out.trans (((Below.refl _ _).alloc (Nat.le_refl _) _).mono W.out.size)) hb2);clear hb2)
     go_roundw
     case rel=>exact ⟨k+1,by simp,by omega,W2.out,AK.out⟩
     case measure=>simp only [];omega
    |false=>
     have EV:=hid (show V=false by
      cases hV:V with
      |false=>rfl
      |true=>have:=HV.out.1 hV k hlt;rw [hv] at this;cases this)
     clear hv;go_wp2_with ((rw [CF.out _ _]);(refine (CK.out _ (W.out.trans (((Below.refl _ _).alloc (Nat.le_refl _) _).mono W.out.size))).mono ?_);rintro e w2 ⟨rfl,hb2⟩;have W2:=hid (vAa (W.out.trans (((Below.refl _ _).alloc (Nat.le_refl _) _).mono W.out.size)) hb2);clear hb2);go_ret;exact ⟨by rw [EV.out];rfl,W2.out⟩
  · have EV:=hid (show V=true from HV.out.2 fun j hj=>AL.out j (by omega))
    have lt2:¬(k:Int)<(n:Int):=by omega
    go_wp2;go_ret;exact ⟨by rw [EV.out];rfl,W.out⟩
theorem all_dom (f:FuncId) (caps:Array Value) (hcf:vAz Tryz.prog f) (A:Option Addr) (n c:Nat) (xs:List DomV) (w:World) (h:RSl domR w (vAp w) A n c xs) (g:Nat→Bool)
 (hf:∀(k:Nat) (s:Sl3) (w':World),k<n→Below w.heap.size w w'→RSl (Rdr.int .i64) w (vAp w) s.A s.n s.c (xs.getD k DomV.zero).peers→Calls Tryz.prog f (#[.int .i64 (k:Int),.agg #[.int .i64 (xs.getD k DomV.zero).dev,.int .i64 (xs.getD k DomV.zero).vlan,.int .i64 (xs.getD k DomV.zero).vni,.int .i64 (xs.getD k DomV.zero).irb,.int .i64 (xs.getD k DomV.zero).row,.slice s.A s.n s.c]]++caps) w' fun e w2=>e=.returned (.bool (g k))∧Below w'.heap.size w' w2)
 (V:Bool) (hV:V=true↔∀k,k<n→g k=true):Calls Tryz.prog 70 #[.slice A n c,.func (.func f) #[] caps] w fun e w'=>e=.returned (.bool V)∧Below w.heap.size w w':=by
 have hle:=h.le;have hcap:=h.cap;have HL:=hid h.len;have H:=hid h;have HF:=hid hf;have HV:=hid hV;have CF:=hid hcf;clear h hf hV hcf
 go_enter Tryz.func70,Tryz.ntmps70
 go_wp2
 go_loopw [9] (fun i wr=>∃k:Nat,i=.int .i64 k∧k≤n∧Below w.heap.size w wr∧∀j,j<k→g j=true) (fun i _=>match i with| .int _ y=>(n - y).toNat|_=>0)
 case atStart=>exact ⟨0,rfl,by omega,Below.refl _ _,fun j hj=>absurd hj (by omega)⟩
 case round=>
  obtain ⟨k,rfl,hk,hb,hall⟩:=hrel;have W:=hid hb;have AL:=hid hall;clear hb hall
  by_cases hlt:k<n
  · obtain ⟨b0,o0,vs,rfl,_,hb0,⟨s,rfl,l1⟩,r0⟩:=vAi H.out k hlt DomV.zero
    have CK:=hid (fun w' hw=>HF.out k s w' hlt hw l1);have R1:=vAb r0 (W.out.block b0 hb0);generalize xs.getD k DomV.zero=X at *;have d0:=R1 0 _ rfl;have d1:=R1 1 _ rfl;have d2:=R1 2 _ rfl;have d3:=R1 3 _ rfl;have d4:=R1 4 _ rfl;have d5:=R1 5 _ rfl;simp only [Nat.add_zero] at d0;rw [show o0+k * domR.n=o0+k * 6 from rfl] at d0 d1 d2 d3 d4 d5
    have lt2:(k:Int)<(n:Int):=by omega
    clear r0 R1 l1;obtain ⟨v,hv⟩:∃v,g k=v:=⟨_,rfl⟩;rw [hv] at CK
    cases v with
    |true=>
     have AK:=hid (show ∀j,j<k+1→g j=true from fun j hj=>by
      rcases Nat.lt_or_ge j k with h'|h'
      · exact AL.out j h'
      · obtain rfl:j=k:=by omega
        exact hv)
     clear hv;go_wp2_with ((rw [CF.out _ _]);(refine (CK.out _ (W.out.trans (((Below.refl _ _).alloc (Nat.le_refl _) _).mono W.out.size))).mono ?_);rintro e w2 ⟨rfl,hb2⟩;have W2:=hid (vAa (W.out.trans (((Below.refl _ _).alloc (Nat.le_refl _) _).mono W.out.size)) hb2);clear hb2)
     go_roundw
     case rel=>exact ⟨k+1,by simp,by omega,W2.out,AK.out⟩
     case measure=>simp only [];omega
    |false=>
     have EV:=hid (show V=false by
      cases hV:V with
      |false=>rfl
      |true=>have:=HV.out.1 hV k hlt;rw [hv] at this;cases this)
     clear hv;go_wp2_with ((rw [CF.out _ _]);(refine (CK.out _ (W.out.trans (((Below.refl _ _).alloc (Nat.le_refl _) _).mono W.out.size))).mono ?_);rintro e w2 ⟨rfl,hb2⟩;have W2:=hid (vAa (W.out.trans (((Below.refl _ _).alloc (Nat.le_refl _) _).mono W.out.size)) hb2);clear hb2);go_ret;exact ⟨by rw [EV.out];rfl,W2.out⟩
  · have EV:=hid (show V=true from HV.out.2 fun j hj=>AL.out j (by omega))
    have lt2:¬(k:Int)<(n:Int):=by omega
    go_wp2;go_ret;exact ⟨by rw [EV.out];rfl,W.out⟩
theorem all_stat (f:FuncId) (caps:Array Value) (hcf:vAz Tryz.prog f) (A:Option Addr) (n c:Nat) (xs:List StatV) (w:World) (h:RSl statR w (vAp w) A n c xs) (g:Nat→Bool)
 (hf:∀(k:Nat) (w':World),k<n→Below w.heap.size w w'→Calls Tryz.prog f (#[.int .i64 (k:Int),.agg #[.int .i64 (xs.getD k StatV.zero).row,.int .i64 (xs.getD k StatV.zero).dom,.int .i64 (xs.getD k StatV.zero).port,.int .u64 (xs.getD k StatV.zero).mac]]++caps) w' fun e w2=>e=.returned (.bool (g k))∧Below w'.heap.size w' w2)
 (V:Bool) (hV:V=true↔∀k,k<n→g k=true):Calls Tryz.prog 73 #[.slice A n c,.func (.func f) #[] caps] w fun e w'=>e=.returned (.bool V)∧Below w.heap.size w w':=by
 have hle:=h.le;have hcap:=h.cap;have HL:=hid h.len;have H:=hid h;have HF:=hid hf;have HV:=hid hV;have CF:=hid hcf;clear h hf hV hcf
 go_enter Tryz.func73,Tryz.ntmps73
 go_wp2
 go_loopw [9] (fun i wr=>∃k:Nat,i=.int .i64 k∧k≤n∧Below w.heap.size w wr∧∀j,j<k→g j=true) (fun i _=>match i with| .int _ y=>(n - y).toNat|_=>0)
 case atStart=>exact ⟨0,rfl,by omega,Below.refl _ _,fun j hj=>absurd hj (by omega)⟩
 case round=>
  obtain ⟨k,rfl,hk,hb,hall⟩:=hrel;have W:=hid hb;have AL:=hid hall;clear hb hall
  by_cases hlt:k<n
  · obtain ⟨b0,o0,vs,rfl,_,hb0,hvs,r0⟩:=vAi H.out k hlt StatV.zero
    have hvs:vs=statC (xs.getD k StatV.zero):=hvs;subst hvs;have CK:=hid (fun w' hw=>HF.out k w' hlt hw);have R1:=vAb r0 (W.out.block b0 hb0);generalize xs.getD k StatV.zero=X at *;have d0:=R1 0 _ rfl;have d1:=R1 1 _ rfl;have d2:=R1 2 _ rfl;have d3:=R1 3 _ rfl;simp only [Nat.add_zero] at d0;rw [show o0+k * statR.n=o0+k * 4 from rfl] at d0 d1 d2 d3
    have lt2:(k:Int)<(n:Int):=by omega
    clear r0 R1;obtain ⟨v,hv⟩:∃v,g k=v:=⟨_,rfl⟩;rw [hv] at CK
    cases v with
    |true=>
     have AK:=hid (show ∀j,j<k+1→g j=true from fun j hj=>by
      rcases Nat.lt_or_ge j k with h'|h'
      · exact AL.out j h'
      · obtain rfl:j=k:=by omega
        exact hv)
     clear hv;go_wp2_with ((rw [CF.out _ _]);(refine (CK.out _ (W.out.trans (((Below.refl _ _).alloc (Nat.le_refl _) _).mono W.out.size))).mono ?_);rintro e w2 ⟨rfl,hb2⟩;have W2:=hid (vAa (W.out.trans (((Below.refl _ _).alloc (Nat.le_refl _) _).mono W.out.size)) hb2);clear hb2)
     go_roundw
     case rel=>exact ⟨k+1,by simp,by omega,W2.out,AK.out⟩
     case measure=>simp only [];omega
    |false=>
     have EV:=hid (show V=false by
      cases hV:V with
      |false=>rfl
      |true=>have:=HV.out.1 hV k hlt;rw [hv] at this;cases this)
     clear hv;go_wp2_with ((rw [CF.out _ _]);(refine (CK.out _ (W.out.trans (((Below.refl _ _).alloc (Nat.le_refl _) _).mono W.out.size))).mono ?_);rintro e w2 ⟨rfl,hb2⟩;have W2:=hid (vAa (W.out.trans (((Below.refl _ _).alloc (Nat.le_refl _) _).mono W.out.size)) hb2);clear hb2);go_ret;exact ⟨by rw [EV.out];rfl,W2.out⟩
  · have EV:=hid (show V=true from HV.out.2 fun j hj=>AL.out j (by omega))
    have lt2:¬(k:Int)<(n:Int):=by omega
    go_wp2;go_ret;exact ⟨by rw [EV.out];rfl,W.out⟩
theorem all_flood (f:FuncId) (caps:Array Value) (hcf:vAz Tryz.prog f) (A:Option Addr) (n c:Nat) (xs:List FloodV) (w:World) (h:RSl floodR w (vAp w) A n c xs) (g:Nat→Bool)
 (hf:∀(k:Nat) (s:Sl3) (w':World),k<n→Below w.heap.size w w'→RSl (Rdr.int .u32) w (vAp w) s.A s.n s.c (xs.getD k FloodV.zero).addrs→Calls Tryz.prog f (#[.int .i64 (k:Int),.agg #[.int .i64 (xs.getD k FloodV.zero).row,.int .i64 (xs.getD k FloodV.zero).dev,.int .i64 (xs.getD k FloodV.zero).vni,.slice s.A s.n s.c]]++caps) w' fun e w2=>e=.returned (.bool (g k))∧Below w'.heap.size w' w2)
 (V:Bool) (hV:V=true↔∀k,k<n→g k=true):Calls Tryz.prog 76 #[.slice A n c,.func (.func f) #[] caps] w fun e w'=>e=.returned (.bool V)∧Below w.heap.size w w':=by
 have hle:=h.le;have hcap:=h.cap;have HL:=hid h.len;have H:=hid h;have HF:=hid hf;have HV:=hid hV;have CF:=hid hcf;clear h hf hV hcf
 go_enter Tryz.func76,Tryz.ntmps76
 go_wp2
 go_loopw [9] (fun i wr=>∃k:Nat,i=.int .i64 k∧k≤n∧Below w.heap.size w wr∧∀j,j<k→g j=true) (fun i _=>match i with| .int _ y=>(n - y).toNat|_=>0)
 case atStart=>exact ⟨0,rfl,by omega,Below.refl _ _,fun j hj=>absurd hj (by omega)⟩
 case round=>
  obtain ⟨k,rfl,hk,hb,hall⟩:=hrel;have W:=hid hb;have AL:=hid hall;clear hb hall
  by_cases hlt:k<n
  · obtain ⟨b0,o0,vs,rfl,_,hb0,⟨s,rfl,l1⟩,r0⟩:=vAi H.out k hlt FloodV.zero
    have CK:=hid (fun w' hw=>HF.out k s w' hlt hw l1);have R1:=vAb r0 (W.out.block b0 hb0);generalize xs.getD k FloodV.zero=X at *;have d0:=R1 0 _ rfl;have d1:=R1 1 _ rfl;have d2:=R1 2 _ rfl;have d3:=R1 3 _ rfl;simp only [Nat.add_zero] at d0;rw [show o0+k * floodR.n=o0+k * 4 from rfl] at d0 d1 d2 d3
    have lt2:(k:Int)<(n:Int):=by omega
    clear r0 R1 l1;obtain ⟨v,hv⟩:∃v,g k=v:=⟨_,rfl⟩;rw [hv] at CK
    cases v with
    |true=>
     have AK:=hid (show ∀j,j<k+1→g j=true from fun j hj=>by
      rcases Nat.lt_or_ge j k with h'|h'
      · exact AL.out j h'
      · obtain rfl:j=k:=by omega
        exact hv)
     clear hv;go_wp2_with ((rw [CF.out _ _]);(refine (CK.out _ (W.out.trans (((Below.refl _ _).alloc (Nat.le_refl _) _).mono W.out.size))).mono ?_);rintro e w2 ⟨rfl,hb2⟩;have W2:=hid (vAa (W.out.trans (((Below.refl _ _).alloc (Nat.le_refl _) _).mono W.out.size)) hb2);clear hb2)
     go_roundw
     case rel=>exact ⟨k+1,by simp,by omega,W2.out,AK.out⟩
     case measure=>simp only [];omega
    |false=>
     have EV:=hid (show V=false by
      cases hV:V with
      |false=>rfl
      |true=>have:=HV.out.1 hV k hlt;rw [hv] at this;cases this)
     clear hv;go_wp2_with ((rw [CF.out _ _]);(refine (CK.out _ (W.out.trans (((Below.refl _ _).alloc (Nat.le_refl _) _).mono W.out.size))).mono ?_);rintro e w2 ⟨rfl,hb2⟩;have W2:=hid (vAa (W.out.trans (((Below.refl _ _).alloc (Nat.le_refl _) _).mono W.out.size)) hb2);clear hb2);go_ret;exact ⟨by rw [EV.out];rfl,W2.out⟩
  · have EV:=hid (show V=true from HV.out.2 fun j hj=>AL.out j (by omega))
    have lt2:¬(k:Int)<(n:Int):=by omega
    go_wp2;go_ret;exact ⟨by rw [EV.out];rfl,W.out⟩
theorem all_vrf (f:FuncId) (caps:Array Value) (hcf:vAz Tryz.prog f) (A:Option Addr) (n c:Nat) (xs:List VrfV) (w:World) (h:RSl vrfR w (vAp w) A n c xs) (g:Nat→Bool)
 (hf:∀(k:Nat) (s t:Sl3) (w':World),k<n→Below w.heap.size w w'→RSl (Rdr.int .i64) w (vAp w) s.A s.n s.c (xs.getD k VrfV.zero).imports→RSl (Rdr.int .i64) w (vAp w) t.A t.n t.c (xs.getD k VrfV.zero).exports→Calls Tryz.prog f (#[.int .i64 (k:Int),.agg #[.int .i64 (xs.getD k VrfV.zero).row,.int .i64 (xs.getD k VrfV.zero).dev,.string (str (xs.getD k VrfV.zero).name),.slice s.A s.n s.c,.slice t.A t.n t.c]]++caps) w' fun e w2=>e=.returned (.bool (g k))∧Below w'.heap.size w' w2)
 (V:Bool) (hV:V=true↔∀k,k<n→g k=true):Calls Tryz.prog 78 #[.slice A n c,.func (.func f) #[] caps] w fun e w'=>e=.returned (.bool V)∧Below w.heap.size w w':=by
 have hle:=h.le;have hcap:=h.cap;have HL:=hid h.len;have H:=hid h;have HF:=hid hf;have HV:=hid hV;have CF:=hid hcf;clear h hf hV hcf
 go_enter Tryz.func78,Tryz.ntmps78
 go_wp2
 go_loopw [9] (fun i wr=>∃k:Nat,i=.int .i64 k∧k≤n∧Below w.heap.size w wr∧∀j,j<k→g j=true) (fun i _=>match i with| .int _ y=>(n - y).toNat|_=>0)
 case atStart=>exact ⟨0,rfl,by omega,Below.refl _ _,fun j hj=>absurd hj (by omega)⟩
 case round=>
  obtain ⟨k,rfl,hk,hb,hall⟩:=hrel;have W:=hid hb;have AL:=hid hall;clear hb hall
  by_cases hlt:k<n
  · obtain ⟨b0,o0,vs,rfl,_,hb0,⟨s,t,rfl,l1,l2⟩,r0⟩:=vAi H.out k hlt VrfV.zero
    have CK:=hid (fun w' hw=>HF.out k s t w' hlt hw l1 l2);have R1:=vAb r0 (W.out.block b0 hb0);generalize xs.getD k VrfV.zero=X at *;have d0:=R1 0 _ rfl;have d1:=R1 1 _ rfl;have d2:=R1 2 _ rfl;have d3:=R1 3 _ rfl;have d4:=R1 4 _ rfl;simp only [Nat.add_zero] at d0;rw [show o0+k * vrfR.n=o0+k * 5 from rfl] at d0 d1 d2 d3 d4
    have lt2:(k:Int)<(n:Int):=by omega
    clear r0 R1 l1 l2;obtain ⟨v,hv⟩:∃v,g k=v:=⟨_,rfl⟩;rw [hv] at CK
    cases v with
    |true=>
     have AK:=hid (show ∀j,j<k+1→g j=true from fun j hj=>by
      rcases Nat.lt_or_ge j k with h'|h'
      · exact AL.out j h'
      · obtain rfl:j=k:=by omega
        exact hv)
     clear hv;go_wp2_with ((rw [CF.out _ _]);(refine (CK.out _ (W.out.trans (((Below.refl _ _).alloc (Nat.le_refl _) _).mono W.out.size))).mono ?_);rintro e w2 ⟨rfl,hb2⟩;have W2:=hid (vAa (W.out.trans (((Below.refl _ _).alloc (Nat.le_refl _) _).mono W.out.size)) hb2);clear hb2)
     go_roundw
     case rel=>exact ⟨k+1,by simp,by omega,W2.out,AK.out⟩
     case measure=>simp only [];omega
    |false=>
     have EV:=hid (show V=false by
      cases hV:V with
      |false=>rfl
      |true=>have:=HV.out.1 hV k hlt;rw [hv] at this;cases this)
     clear hv;go_wp2_with ((rw [CF.out _ _]);(refine (CK.out _ (W.out.trans (((Below.refl _ _).alloc (Nat.le_refl _) _).mono W.out.size))).mono ?_);rintro e w2 ⟨rfl,hb2⟩;have W2:=hid (vAa (W.out.trans (((Below.refl _ _).alloc (Nat.le_refl _) _).mono W.out.size)) hb2);clear hb2);go_ret;exact ⟨by rw [EV.out];rfl,W2.out⟩
  · have EV:=hid (show V=true from HV.out.2 fun j hj=>AL.out j (by omega))
    have lt2:¬(k:Int)<(n:Int):=by omega
    go_wp2;go_ret;exact ⟨by rw [EV.out];rfl,W.out⟩
theorem all_irb (f:FuncId) (caps:Array Value) (hcf:vAz Tryz.prog f) (A:Option Addr) (n c:Nat) (xs:List IrbV) (w:World) (h:RSl irbR w (vAp w) A n c xs) (g:Nat→Bool)
 (hf:∀(k:Nat) (w':World),k<n→Below w.heap.size w w'→Calls Tryz.prog f (#[.int .i64 (k:Int),.agg #[.int .i64 (xs.getD k IrbV.zero).row,.int .i64 (xs.getD k IrbV.zero).dom,.int .i64 (xs.getD k IrbV.zero).vrf,.int .u32 (xs.getD k IrbV.zero).addr,.int .i64 (xs.getD k IrbV.zero).bits]]++caps) w' fun e w2=>e=.returned (.bool (g k))∧Below w'.heap.size w' w2)
 (V:Bool) (hV:V=true↔∀k,k<n→g k=true):Calls Tryz.prog 81 #[.slice A n c,.func (.func f) #[] caps] w fun e w'=>e=.returned (.bool V)∧Below w.heap.size w w':=by
 have hle:=h.le;have hcap:=h.cap;have HL:=hid h.len;have H:=hid h;have HF:=hid hf;have HV:=hid hV;have CF:=hid hcf;clear h hf hV hcf
 go_enter Tryz.func81,Tryz.ntmps81
 go_wp2
 go_loopw [9] (fun i wr=>∃k:Nat,i=.int .i64 k∧k≤n∧Below w.heap.size w wr∧∀j,j<k→g j=true) (fun i _=>match i with| .int _ y=>(n - y).toNat|_=>0)
 case atStart=>exact ⟨0,rfl,by omega,Below.refl _ _,fun j hj=>absurd hj (by omega)⟩
 case round=>
  obtain ⟨k,rfl,hk,hb,hall⟩:=hrel;have W:=hid hb;have AL:=hid hall;clear hb hall
  by_cases hlt:k<n
  · obtain ⟨b0,o0,vs,rfl,_,hb0,hvs,r0⟩:=vAi H.out k hlt IrbV.zero
    have hvs:vs=irbC (xs.getD k IrbV.zero):=hvs;subst hvs;have CK:=hid (fun w' hw=>HF.out k w' hlt hw);have R1:=vAb r0 (W.out.block b0 hb0);generalize xs.getD k IrbV.zero=X at *;have d0:=R1 0 _ rfl;have d1:=R1 1 _ rfl;have d2:=R1 2 _ rfl;have d3:=R1 3 _ rfl;have d4:=R1 4 _ rfl;simp only [Nat.add_zero] at d0;rw [show o0+k * irbR.n=o0+k * 5 from rfl] at d0 d1 d2 d3 d4
    have lt2:(k:Int)<(n:Int):=by omega
    clear r0 R1;obtain ⟨v,hv⟩:∃v,g k=v:=⟨_,rfl⟩;rw [hv] at CK
    cases v with
    |true=>
     have AK:=hid (show ∀j,j<k+1→g j=true from fun j hj=>by
      rcases Nat.lt_or_ge j k with h'|h'
      · exact AL.out j h'
      · obtain rfl:j=k:=by omega
        exact hv)
     clear hv;go_wp2_with ((rw [CF.out _ _]);(refine (CK.out _ (W.out.trans (((Below.refl _ _).alloc (Nat.le_refl _) _).mono W.out.size))).mono ?_);rintro e w2 ⟨rfl,hb2⟩;have W2:=hid (vAa (W.out.trans (((Below.refl _ _).alloc (Nat.le_refl _) _).mono W.out.size)) hb2);clear hb2)
     go_roundw
     case rel=>exact ⟨k+1,by simp,by omega,W2.out,AK.out⟩
     case measure=>simp only [];omega
    |false=>
     have EV:=hid (show V=false by
      cases hV:V with
      |false=>rfl
      |true=>have:=HV.out.1 hV k hlt;rw [hv] at this;cases this)
     clear hv;go_wp2_with ((rw [CF.out _ _]);(refine (CK.out _ (W.out.trans (((Below.refl _ _).alloc (Nat.le_refl _) _).mono W.out.size))).mono ?_);rintro e w2 ⟨rfl,hb2⟩;have W2:=hid (vAa (W.out.trans (((Below.refl _ _).alloc (Nat.le_refl _) _).mono W.out.size)) hb2);clear hb2);go_ret;exact ⟨by rw [EV.out];rfl,W2.out⟩
  · have EV:=hid (show V=true from HV.out.2 fun j hj=>AL.out j (by omega))
    have lt2:¬(k:Int)<(n:Int):=by omega
    go_wp2;go_ret;exact ⟨by rw [EV.out];rfl,W.out⟩
theorem idx_dev (f:FuncId) (caps:Array Value) (hcf:vAz Tryz.prog f) (A:Option Addr) (n c:Nat) (xs:List DevV) (w:World) (h:RSl devR w (vAp w) A n c xs) (g:Nat→Bool)
 (hf:∀(k:Nat) (w':World),k<n→Below w.heap.size w w'→Calls Tryz.prog f (#[.agg #[.int .i64 (xs.getD k DevV.zero).row,.int .i64 (xs.getD k DevV.zero).prio,.string (str (xs.getD k DevV.zero).name),.int .u64 (xs.getD k DevV.zero).mac,.int .u32 (xs.getD k DevV.zero).vtep]]++caps) w' fun e w2=>e=.returned (.bool (g k))∧Below w'.heap.size w' w2)
 (V:Int) (hV:IsFst g n V):Calls Tryz.prog 135 #[.slice A n c,.func (.func f) #[] caps] w fun e w'=>e=.returned (.int .i64 V)∧Below w.heap.size w w':=by
 have hle:=h.le;have hcap:=h.cap;have HL:=hid h.len;have H:=hid h;have HF:=hid hf;have HV:=hid hV;have CF:=hid hcf;clear h hf hV hcf
 go_enter Tryz.func135,Tryz.ntmps135
 go_wp2
 go_loopw [8] (fun i wr=>∃k:Nat,i=.int .i64 k∧k≤n∧Below w.heap.size w wr∧∀j,j<k→g j=false) (fun i _=>match i with| .int _ y=>(n - y).toNat|_=>0)
 case atStart=>exact ⟨0,rfl,by omega,Below.refl _ _,fun j hj=>absurd hj (by omega)⟩
 case round=>
  obtain ⟨k,rfl,hk,hb,hall⟩:=hrel;have W:=hid hb;have AL:=hid hall;clear hb hall
  by_cases hlt:k<n
  · obtain ⟨b0,o0,vs,rfl,_,hb0,hvs,r0⟩:=vAi H.out k hlt DevV.zero
    have hvs:vs=vGt (xs.getD k DevV.zero):=hvs;subst hvs;have CK:=hid (fun w' hw=>HF.out k w' hlt hw);have R1:=vAb r0 (W.out.block b0 hb0);generalize xs.getD k DevV.zero=X at *;have d0:=R1 0 _ rfl;have d1:=R1 1 _ rfl;have d2:=R1 2 _ rfl;have d3:=R1 3 _ rfl;have d4:=R1 4 _ rfl;simp only [Nat.add_zero] at d0;rw [show o0+k * devR.n=o0+k * 5 from rfl] at d0 d1 d2 d3 d4
    have lt2:(k:Int)<(n:Int):=by omega
    clear r0 R1;obtain ⟨v,hv⟩:∃v,g k=v:=⟨_,rfl⟩;rw [hv] at CK
    cases v with
    |false=>
     have AK:=hid (show ∀j,j<k+1→g j=false from fun j hj=>by
      rcases Nat.lt_or_ge j k with h'|h'
      · exact AL.out j h'
      · obtain rfl:j=k:=by omega
        exact hv)
     clear hv;go_wp2_with ((rw [CF.out _ _]);(refine (CK.out _ W.out).mono ?_);rintro e w2 ⟨rfl,hb2⟩;have W2:=hid (vAa W.out hb2);clear hb2)
     go_roundw
     case rel=>exact ⟨k+1,by simp,by omega,W2.out,AK.out⟩
     case measure=>simp only [];omega
    |true=>
     have EV:=hid (HV.out.hit hlt hv AL.out);clear hv;go_wp2_with ((rw [CF.out _ _]);(refine (CK.out _ W.out).mono ?_);rintro e w2 ⟨rfl,hb2⟩;have W2:=hid (vAa W.out hb2);clear hb2);go_ret;exact ⟨by rw [EV.out];rfl,W2.out⟩
  · have EV:=hid (HV.out.no (fun j hj=>AL.out j (by omega)))
    have lt2:¬(k:Int)<(n:Int):=by omega
    go_wp2;go_ret;exact ⟨by rw [EV.out];rfl,W.out⟩
theorem idx_dom (f:FuncId) (caps:Array Value) (hcf:vAz Tryz.prog f) (A:Option Addr) (n c:Nat) (xs:List DomV) (w:World) (h:RSl domR w (vAp w) A n c xs) (g:Nat→Bool)
 (hf:∀(k:Nat) (s:Sl3) (w':World),k<n→Below w.heap.size w w'→RSl (Rdr.int .i64) w (vAp w) s.A s.n s.c (xs.getD k DomV.zero).peers→Calls Tryz.prog f (#[.agg #[.int .i64 (xs.getD k DomV.zero).dev,.int .i64 (xs.getD k DomV.zero).vlan,.int .i64 (xs.getD k DomV.zero).vni,.int .i64 (xs.getD k DomV.zero).irb,.int .i64 (xs.getD k DomV.zero).row,.slice s.A s.n s.c]]++caps) w' fun e w2=>e=.returned (.bool (g k))∧Below w'.heap.size w' w2)
 (V:Int) (hV:IsFst g n V):Calls Tryz.prog 113 #[.slice A n c,.func (.func f) #[] caps] w fun e w'=>e=.returned (.int .i64 V)∧Below w.heap.size w w':=by
 have hle:=h.le;have hcap:=h.cap;have HL:=hid h.len;have H:=hid h;have HF:=hid hf;have HV:=hid hV;have CF:=hid hcf;clear h hf hV hcf
 go_enter Tryz.func113,Tryz.ntmps113
 go_wp2
 go_loopw [8] (fun i wr=>∃k:Nat,i=.int .i64 k∧k≤n∧Below w.heap.size w wr∧∀j,j<k→g j=false) (fun i _=>match i with| .int _ y=>(n - y).toNat|_=>0)
 case atStart=>exact ⟨0,rfl,by omega,Below.refl _ _,fun j hj=>absurd hj (by omega)⟩
 case round=>
  obtain ⟨k,rfl,hk,hb,hall⟩:=hrel;have W:=hid hb;have AL:=hid hall;clear hb hall
  by_cases hlt:k<n
  · obtain ⟨b0,o0,vs,rfl,_,hb0,⟨s,rfl,l1⟩,r0⟩:=vAi H.out k hlt DomV.zero
    have CK:=hid (fun w' hw=>HF.out k s w' hlt hw l1);have R1:=vAb r0 (W.out.block b0 hb0);generalize xs.getD k DomV.zero=X at *;have d0:=R1 0 _ rfl;have d1:=R1 1 _ rfl;have d2:=R1 2 _ rfl;have d3:=R1 3 _ rfl;have d4:=R1 4 _ rfl;have d5:=R1 5 _ rfl;simp only [Nat.add_zero] at d0;rw [show o0+k * domR.n=o0+k * 6 from rfl] at d0 d1 d2 d3 d4 d5
    have lt2:(k:Int)<(n:Int):=by omega
    clear r0 R1 l1;obtain ⟨v,hv⟩:∃v,g k=v:=⟨_,rfl⟩;rw [hv] at CK
    cases v with
    |false=>
     have AK:=hid (show ∀j,j<k+1→g j=false from fun j hj=>by
      rcases Nat.lt_or_ge j k with h'|h'
      · exact AL.out j h'
      · obtain rfl:j=k:=by omega
        exact hv)
     clear hv;go_wp2_with ((rw [CF.out _ _]);(refine (CK.out _ W.out).mono ?_);rintro e w2 ⟨rfl,hb2⟩;have W2:=hid (vAa W.out hb2);clear hb2)
     go_roundw
     case rel=>exact ⟨k+1,by simp,by omega,W2.out,AK.out⟩
     case measure=>simp only [];omega
    |true=>
     have EV:=hid (HV.out.hit hlt hv AL.out);clear hv;go_wp2_with ((rw [CF.out _ _]);(refine (CK.out _ W.out).mono ?_);rintro e w2 ⟨rfl,hb2⟩;have W2:=hid (vAa W.out hb2);clear hb2);go_ret;exact ⟨by rw [EV.out];rfl,W2.out⟩
  · have EV:=hid (HV.out.no (fun j hj=>AL.out j (by omega)))
    have lt2:¬(k:Int)<(n:Int):=by omega
    go_wp2;go_ret;exact ⟨by rw [EV.out];rfl,W.out⟩
theorem all_int (f:FuncId) (caps:Array Value) (hcf:vAz Tryz.prog f) (A:Option Addr) (n c:Nat) (xs:List Int) (w:World) (h:ISl w .i64 A n c xs) (g:Nat→Bool)
 (hf:∀(k:Nat) w',k<n→Below w.heap.size w w'→Calls Tryz.prog f (#[.int .i64 (k:Int),.int .i64 (xs.getD k 0)]++caps) w' fun e w2=>e=.returned (.bool (g k))∧Below w'.heap.size w' w2)
 (V:Bool) (hV:V=true↔∀k,k<n→g k=true):Calls Tryz.prog 126 #[.slice A n c,.func (.func f) #[] caps] w fun e w'=>e=.returned (.bool V)∧Below w.heap.size w w':=by
 have hle:=h.le;have hcap:=h.cap;have H:=hid h;have HF:=hid hf;have HV:=hid hV;have CF:=hid hcf;clear h hf hV hcf
 go_enter Tryz.func126,Tryz.ntmps126
 go_wp2
 go_loopw [9] (fun i wr=>∃k:Nat,i=.int .i64 k∧k≤n∧Below w.heap.size w wr∧∀j,j<k→g j=true) (fun i _=>match i with| .int _ y=>(n - y).toNat|_=>0)
 case atStart=>exact ⟨0,rfl,by omega,Below.refl _ _,fun j hj=>absurd hj (by omega)⟩
 case round=>
  obtain ⟨k,rfl,hk,hb,hall⟩:=hrel;have W:=hid hb;have AL:=hid hall;clear hb hall
  by_cases hlt:k<n
  · obtain ⟨b0,o0,rfl,hb0,hc0⟩:=H.out.2.2.2 (by omega)
    have CK:=hid (fun w' hw=>HF.out k w' hlt hw);have d0:=(W.out.cell (p:=⟨b0,o0+k,none⟩) hb0).trans (hc0 k hlt);generalize xs.getD k 0=X at *
    have lt2:(k:Int)<(n:Int):=by omega
    clear hc0;obtain ⟨v,hv⟩:∃v,g k=v:=⟨_,rfl⟩;rw [hv] at CK
    cases v with
    |true=>
     have AK:=hid (show ∀j,j<k+1→g j=true from fun j hj=>by
      rcases Nat.lt_or_ge j k with h'|h'
      · exact AL.out j h'
      · obtain rfl:j=k:=by omega
        exact hv)
     clear hv;go_wp2_with ((rw [CF.out _ _]);(refine (CK.out _ W.out).mono ?_);rintro e w2 ⟨rfl,hb2⟩;have W2:=hid (vAa W.out hb2);clear hb2)
     go_roundw
     case rel=>exact ⟨k+1,by simp,by omega,W2.out,AK.out⟩
     case measure=>simp only [];omega
    |false=>
     have EV:=hid (show V=false by
      cases hV:V with
      |false=>rfl
      |true=>have:=HV.out.1 hV k hlt;rw [hv] at this;cases this)
     clear hv;go_wp2_with ((rw [CF.out _ _]);(refine (CK.out _ W.out).mono ?_);rintro e w2 ⟨rfl,hb2⟩;have W2:=hid (vAa W.out hb2);clear hb2);go_ret;exact ⟨by rw [EV.out];rfl,W2.out⟩
  · have EV:=hid (show V=true from HV.out.2 fun j hj=>AL.out j (by omega))
    have lt2:¬(k:Int)<(n:Int):=by omega
    go_wp2;go_ret;exact ⟨by rw [EV.out];rfl,W.out⟩
end Go.Proofs.YtgmflecelnefcaaGreat
