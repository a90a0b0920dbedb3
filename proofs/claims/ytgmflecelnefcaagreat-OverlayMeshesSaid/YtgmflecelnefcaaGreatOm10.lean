import Derived.Test.YtgmflecelnefcaaGreatOm05
import Derived.Test.YtgmflecelnefcaaGreatOm09
set_option maxRecDepth 100000
set_option maxHeartbeats 40000000
namespace Go.Proofs.YtgmflecelnefcaaGreat
open Go.RowKit
def Enters (P:Program) (f:FuncId):Prop:=∀args w,(callFunc f args).run P w=.ok (.enter f args) w
theorem enters_of {P:Program} {f:FuncId} {fn:Func} {c:Code} (hf:P.funcs[f]?=some fn) (hname:(fn.name == "runtime.NumGoroutine")=false) (hb:fn.body=some c):Enters P f:=fun args w=>by
 have h2:¬fn.name="runtime.NumGoroutine":=by simpa using hname
 unfold callFunc;simp [go_sem,hf,h2,hb]
theorem place_dev (i:Int) (A:Option Addr) (n c:Nat) (_hle:n≤c) (_hcap:c≤9223372036854775807) (w:World):Calls Tryz.prog 118 #[.int .i64 i,.slice A n c] w fun e w'=>e=.returned (.bool (plB i (n:Int)))∧w=w':=by
 unfold plB
 by_cases h0:0≤i
 · by_cases h1:i<(n:Int)
   · have e:(decide (0≤i) && decide (i<(n:Int)))=true:=by simp;omega
     rw [e]
     go_enter Tryz.func118,Tryz.ntmps118
     go_wp2;go_ret;exact ⟨rfl,rfl⟩
   · have e:(decide (0≤i) && decide (i<(n:Int)))=false:=by simp;omega
     rw [e]
     go_enter Tryz.func118,Tryz.ntmps118
     go_wp2;go_ret;exact ⟨rfl,rfl⟩
 · have e:(decide (0≤i) && decide (i<(n:Int)))=false:=by simp;omega
   rw [e]
   go_enter Tryz.func118,Tryz.ntmps118
   go_wp2;go_ret;exact ⟨rfl,rfl⟩
theorem place_port (i:Int) (A:Option Addr) (n c:Nat) (_hle:n≤c) (_hcap:c≤9223372036854775807) (w:World):Calls Tryz.prog 127 #[.int .i64 i,.slice A n c] w fun e w'=>e=.returned (.bool (plB i (n:Int)))∧w=w':=by
 unfold plB
 by_cases h0:0≤i
 · by_cases h1:i<(n:Int)
   · have e:(decide (0≤i) && decide (i<(n:Int)))=true:=by simp;omega
     rw [e]
     go_enter Tryz.func127,Tryz.ntmps127
     go_wp2;go_ret;exact ⟨rfl,rfl⟩
   · have e:(decide (0≤i) && decide (i<(n:Int)))=false:=by simp;omega
     rw [e]
     go_enter Tryz.func127,Tryz.ntmps127
     go_wp2;go_ret;exact ⟨rfl,rfl⟩
 · have e:(decide (0≤i) && decide (i<(n:Int)))=false:=by simp;omega
   rw [e]
   go_enter Tryz.func127,Tryz.ntmps127
   go_wp2;go_ret;exact ⟨rfl,rfl⟩
theorem place_link (i:Int) (A:Option Addr) (n c:Nat) (_hle:n≤c) (_hcap:c≤9223372036854775807) (w:World):Calls Tryz.prog 123 #[.int .i64 i,.slice A n c] w fun e w'=>e=.returned (.bool (plB i (n:Int)))∧w=w':=by
 unfold plB
 by_cases h0:0≤i
 · by_cases h1:i<(n:Int)
   · have e:(decide (0≤i) && decide (i<(n:Int)))=true:=by simp;omega
     rw [e]
     go_enter Tryz.func123,Tryz.ntmps123
     go_wp2;go_ret;exact ⟨rfl,rfl⟩
   · have e:(decide (0≤i) && decide (i<(n:Int)))=false:=by simp;omega
     rw [e]
     go_enter Tryz.func123,Tryz.ntmps123
     go_wp2;go_ret;exact ⟨rfl,rfl⟩
 · have e:(decide (0≤i) && decide (i<(n:Int)))=false:=by simp;omega
   rw [e]
   go_enter Tryz.func123,Tryz.ntmps123
   go_wp2;go_ret;exact ⟨rfl,rfl⟩
theorem place_dom (i:Int) (A:Option Addr) (n c:Nat) (_hle:n≤c) (_hcap:c≤9223372036854775807) (w:World):Calls Tryz.prog 130 #[.int .i64 i,.slice A n c] w fun e w'=>e=.returned (.bool (plB i (n:Int)))∧w=w':=by
 unfold plB
 by_cases h0:0≤i
 · by_cases h1:i<(n:Int)
   · have e:(decide (0≤i) && decide (i<(n:Int)))=true:=by simp;omega
     rw [e]
     go_enter Tryz.func130,Tryz.ntmps130
     go_wp2;go_ret;exact ⟨rfl,rfl⟩
   · have e:(decide (0≤i) && decide (i<(n:Int)))=false:=by simp;omega
     rw [e]
     go_enter Tryz.func130,Tryz.ntmps130
     go_wp2;go_ret;exact ⟨rfl,rfl⟩
 · have e:(decide (0≤i) && decide (i<(n:Int)))=false:=by simp;omega
   rw [e]
   go_enter Tryz.func130,Tryz.ntmps130
   go_wp2;go_ret;exact ⟨rfl,rfl⟩
theorem place_vrf (i:Int) (A:Option Addr) (n c:Nat) (_hle:n≤c) (_hcap:c≤9223372036854775807) (w:World):Calls Tryz.prog 134 #[.int .i64 i,.slice A n c] w fun e w'=>e=.returned (.bool (plB i (n:Int)))∧w=w':=by
 unfold plB
 by_cases h0:0≤i
 · by_cases h1:i<(n:Int)
   · have e:(decide (0≤i) && decide (i<(n:Int)))=true:=by simp;omega
     rw [e]
     go_enter Tryz.func134,Tryz.ntmps134
     go_wp2;go_ret;exact ⟨rfl,rfl⟩
   · have e:(decide (0≤i) && decide (i<(n:Int)))=false:=by simp;omega
     rw [e]
     go_enter Tryz.func134,Tryz.ntmps134
     go_wp2;go_ret;exact ⟨rfl,rfl⟩
 · have e:(decide (0≤i) && decide (i<(n:Int)))=false:=by simp;omega
   rw [e]
   go_enter Tryz.func134,Tryz.ntmps134
   go_wp2;go_ret;exact ⟨rfl,rfl⟩
theorem place_irb (i:Int) (A:Option Addr) (n c:Nat) (_hle:n≤c) (_hcap:c≤9223372036854775807) (w:World):Calls Tryz.prog 128 #[.int .i64 i,.slice A n c] w fun e w'=>e=.returned (.bool (plB i (n:Int)))∧w=w':=by
 unfold plB
 by_cases h0:0≤i
 · by_cases h1:i<(n:Int)
   · have e:(decide (0≤i) && decide (i<(n:Int)))=true:=by simp;omega
     rw [e]
     go_enter Tryz.func128,Tryz.ntmps128
     go_wp2;go_ret;exact ⟨rfl,rfl⟩
   · have e:(decide (0≤i) && decide (i<(n:Int)))=false:=by simp;omega
     rw [e]
     go_enter Tryz.func128,Tryz.ntmps128
     go_wp2;go_ret;exact ⟨rfl,rfl⟩
 · have e:(decide (0≤i) && decide (i<(n:Int)))=false:=by simp;omega
   rw [e]
   go_enter Tryz.func128,Tryz.ntmps128
   go_wp2;go_ret;exact ⟨rfl,rfl⟩
end Go.Proofs.YtgmflecelnefcaaGreat
