import Derived.Test.YtgmflecelnefcaaGreatOp09
import Derived.Test.YtgmflecelnefcaaGreatOp11
import Derived.Test.YtgmflecelnefcaaGreatOp15
import Derived.Test.YtgmflecelnefcaaGreatOp16
import Derived.Test.YtgmflecelnefcaaGreatOp01
import Derived.Test.YtgmflecelnefcaaGreatOp05
import Derived.Test.YtgmflecelnefcaaGreatOp03
import Derived.WalkMore
import Derived.Deep.QuietTactic
import Derived.WalkKit
import Derived.ProofKit
import Derived.Lib.Hide
import Derived.Deep.AppendLies
import Derived.Deep.RegionLaw
import Derived.Deep.RegionHeld3
import Derived.ShutString
import Derived.StillTailTactics
import Derived.BigQuiet
import Derived.Lib.Bytealg
import Derived.Deep.DeepFit
import Derived.Test.YtgmflecelnefcaaGreatRows
set_option maxRecDepth 100000
set_option maxHeartbeats 40000000
namespace Go.Proofs.YtgmflecelnefcaaGreat
open Go.Lib (hid)
open Go.RowKit
theorem atK_place (dev v:Int):∀(xs:List DomV) (k:Nat),0≤atK xs dev v k→∃j,j<xs.length∧atK xs dev v k=((k+j:Nat):Int)∧(xs.getD j DomV.zero).dev=dev∧(xs.getD j DomV.zero).vlan=v
 | [],k,h=>absurd h (by simp [atK])
 |d :: r,k,h=>by
  unfold atK at h ⊢
  by_cases c:d.dev=dev∧d.vlan=v
  · refine ⟨0,by simp,?_,by simpa using c.1,by simpa using c.2⟩
    rw [if_pos c]
    rfl
  · rw [if_neg c] at h ⊢
    obtain ⟨j,h1,h2,h3,h4⟩:=atK_place dev v r (k+1) h;exact ⟨j+1,by simpa using h1,by rw [h2];congr 1;omega,by simpa using h3,by simpa using h4⟩
theorem own_one (w:World) (x:Int) (T:TypeId):RSl (Rdr.int .i64) (w.alloc (.cells #[.int .i64 x] T)) (fun b=>b=w.heap.size) (some ⟨w.heap.size,0,none⟩) 1 1 [x]:=by
 refine ⟨rfl,Nat.le_refl _,by unfold maxLen;omega,(fun h=>by cases h),fun _=>⟨w.heap.size,0,rfl,rfl,by simp,?_⟩⟩;intro j y hy
 match j,hy with
 |0,hy=>
  obtain rfl:x=y:=by simpa using hy
  refine ⟨[.int .i64 x],rfl,?_⟩;intro i v hv
  match i,hv with
  |0,hv=>
   obtain rfl:Value.int .i64 x=v:=by simpa using hv
   simp
  |i+1,hv=>simp at hv
 |j+1,hy=>simp at hy
def dvK:List DevV→List UInt8→Nat→Int
 | [],_,_=> -1
 |d :: r,s,k=>if d.name=s then (k:Int) else dvK r s (k+1)
def dvF (N:NV) (s:List UInt8):Int:=dvK N.devices s 0
theorem rsl_one {α:Type} (R:Rdr α) (w:World) (F:Nat→Prop) (b:Nat) (vs:List Value) (x:α) (hF:F b) (hb:b<w.heap.size) (h:R.rd w F vs x) (hc:w.rangeAt b 0 vs):RSl R w F (some ⟨b,0,none⟩) 1 1 [x]:=by
 refine ⟨rfl,Nat.le_refl _,by unfold maxLen;omega,(fun h=>by cases h),fun _=>⟨b,0,rfl,hF,hb,?_⟩⟩;intro j y hy
 match j,hy with
 |0,hy=>
  obtain rfl:x=y:=by simpa using hy
  exact ⟨vs,h,by simpa using hc⟩
 |j+1,hy=>simp at hy
theorem range_list {w:World} {b:Nat} {vs:List Value} {T:TypeId} (h:w.heap[b]?=some (.cells vs.toArray T)):w.rangeAt b 0 vs:=by
 intro i v hv;rw [Nat.zero_add,World.cell?,h];simpa using hv
theorem dvK_fst (s:List UInt8):∀(xs:List DevV) (k n:Nat),n=xs.length→(∃j,j<n∧dvK xs s k=((k+j:Nat):Int)∧((xs.getD j DevV.zero).name=s)∧∀i,i<j→¬((xs.getD i DevV.zero).name=s))∨(dvK xs s k= -1∧∀i,i<n→¬((xs.getD i DevV.zero).name=s))
 | [],k,n,h=>.inr ⟨rfl,fun i hi=>absurd hi (by simp at h;omega)⟩
 |d :: r,k,n,h=>by
  by_cases hd:d.name=s
  · exact .inl ⟨0,by simp at h;omega,by rw [dvK,if_pos hd];simp,hd,fun i hi=>absurd hi (by omega)⟩
  · rcases dvK_fst s r (k+1) r.length rfl with ⟨j,h1,h2,h3,h4⟩|⟨h1,h2⟩
    · refine .inl ⟨j+1,by simp at h;omega,by rw [dvK,if_neg hd,h2];congr 1;omega,by simpa using h3,fun i hi=>?_⟩
      match i with
      |0=>simpa using hd
      |i+1=>simpa using h4 i (by omega)
    · refine .inr ⟨by rw [dvK,if_neg hd,h1],fun i hi=>?_⟩
      match i with
      |0=>simpa using hd
      |i+1=>simpa using h2 i (by simp at h;omega)
theorem dvF_fst (N:NV) (s:List UInt8) (n:Nat) (hn:N.devices.length=n):IsFst (fun k=>decide ((N.devices.getD k DevV.zero).name=s)) n (dvF N s):=by
 rcases dvK_fst s N.devices 0 n hn.symm with ⟨j,h1,h2,h3,h4⟩|⟨h1,h2⟩
 · exact .inl ⟨j,h1,by unfold dvF;rw [h2];congr 1;omega,decide_eq_true h3,fun i hi=>decide_eq_false (h4 i hi)⟩
 · exact .inr ⟨h1,fun i hi=>decide_eq_false (h2 i hi)⟩
theorem device1_any (X:DevV) (l:List UInt8) (q:Nat) (w:World) (c1:w.cell? ⟨q,0,none⟩=some (.string (str l))):Calls Tryz.prog 85 #[.agg #[.int .i64 X.row,.int .i64 X.prio,.string (str X.name),.int .u64 X.mac,.int .u32 X.vtep],.pointer (some ⟨q,0,none⟩)] w fun e w'=>e=.returned (.bool (decide (X.name=l)))∧Below w.heap.size w w':=by
 have ql:q<w.heap.size:=World.block_lt_of_cell? w _ c1;obtain ⟨v,hv⟩:∃v,(X.name == l)=v:=⟨_,rfl⟩
 rw [show decide (X.name=l)=v by rw [←hv];by_cases g:X.name=l<;>simp [g]]
 go_enter Tryz.func85,Tryz.ntmps85
 go_wp2;go_ret;exact ⟨by first|rfl|simp [hv],vAc _ _⟩
theorem enters_device1:vAz Tryz.prog 85:=vAt Tryz.func85 (by kernel_rfl) rfl
theorem first_dev (N:NV) (S:NSl3) (A:Option Addr) (n c:Nat) (g:Value) (Z:Int) (w:World) (h:NRead w (vAp w) N S) (hs:NvSz N) (hn:NetOk N)
 (IX:∀w',Below w.heap.size w w'→Calls Tryz.prog 135 #[.slice A n c,g] w' fun e w2=>e=.returned (.int .i64 Z)∧Below w'.heap.size w' w2):
 Calls Tryz.prog 84 #[vAm S,.slice A n c,g] w fun e w'=>e=.returned (.int .i64 Z)∧Below w.heap.size w w':=by
 have RT:=fun (w':World) (hb:Below w.heap.size w w')=>vDt N S w' (h.up hb) hs
 rw [vFq hn] at RT;unfold vAm at RT ⊢;have RT:=hid RT;have IX:=hid IX;clear h hs hn
 go_enter Tryz.func84,Tryz.ntmps84
 go_wp2_with (first
  |(go_at_call 23;(with_reducible refine (RT.out _ (vAc _ _)).mono ?_);rintro e wr ⟨rfl,hb⟩;have Y:=hid hb;have X:=hid (vAa (vAc _ _) hb);clear hb)
  |(go_at_call 135;(with_reducible refine (IX.out _ X.out).mono ?_);rintro e wi ⟨rfl,hb⟩;have X2:=hid (vAa X.out hb);clear hb))
 go_ret;exact ⟨rfl,X2.out⟩
theorem xndomain_any (N:NV) (S:NSl3) (dev v:Int) (w:World) (h:NRead w (vAp w) N S) (hs:NvSz N) (hn:NetOk N):Calls Tryz.prog 26 #[vAm S,.int .i64 dev,.int .i64 v] w fun e w'=>e=.returned (.int .i64 (atF N dev v))∧Below w.heap.size w w':=by
 have RT:=fun (w':World) (hb:Below w.heap.size w w')=>vDt N S w' (h.up hb) hs
 have FD:=fun (w':World) (hb:Below w.heap.size w w')=>find_any N S dev v w' (h.up hb)
 have KB:=hid (show ∀W,w.alloc (.cells (nA S) 31)=W→∀wx,Below W.heap.size W wx→(NF wx w.heap.size S) from fun W hW wx hx=>by
  have n:=((net_c1 S _ hW).1.below hx).1
  exact ⟨n 0 _ rfl,n 1 _ rfl,n 2 _ rfl,n 3 _ rfl,n 4 _ rfl,n 5 _ rfl,n 6 _ rfl,n 7 _ rfl⟩)
 rw [vFq hn] at RT;generalize atF N dev v=Z at *;unfold vAm at RT FD ⊢;have RT:=hid RT;have FD:=hid FD;clear h hs hn
 go_enter Tryz.func26,Tryz.ntmps26
 go_wp2_with (first
  |(go_at_call 23;(with_reducible refine (RT.out _ (vAc _ _)).mono ?_);rintro e wr ⟨rfl,hb⟩;have Y:=hid hb;have X:=hid (vAa (vAc _ _) hb);obtain ⟨f0,f1,f2,f3,f4,f5,f6,f7⟩:=KB.out _ rfl _ Y.out;clear hb)
  |(go_at_call 86;(with_reducible refine (FD.out _ X.out).mono ?_);rintro e wi ⟨rfl,hb⟩;have X2:=hid (vAa X.out hb);clear hb))
 go_ret;exact ⟨rfl,X2.out⟩
theorem xndevice_any (N:NV) (S:NSl3) (l:List UInt8) (w:World) (h:NRead w (vAp w) N S) (hs:NvSz N) (hn:NetOk N) (_hl:l.length≤9223372036854775807):Calls Tryz.prog 25 #[vAm S,.string (str l)] w fun e w'=>e=.returned (.int .i64 (dvF N l))∧Below w.heap.size w w':=by
 obtain ⟨W,hW⟩:∃W,(w.alloc (.cells (nA S) 31)).alloc (.cells #[.string (str l)] 9)=W:=⟨_,rfl⟩;have NC:=vHk S _ _ [.string (str l)] hW
 have FS:=first_dev N S S.dv.A S.dv.n S.dv.c (.func (.func 85) #[] #[.pointer (some ⟨w.heap.size+1,0,none⟩)]) (dvF N l) W (h.up NC.2.2) hs hn (fun w' hb=>
  idx_dev 85 #[.pointer (some ⟨w.heap.size+1,0,none⟩)] enters_device1 S.dv.A S.dv.n S.dv.c N.devices w' (vAn (vAn h.dv NC.2.2) hb) _ (fun k w2 hk hb2=>by
   rw [app1]
   exact device1_any _ l _ w2 (((NC.2.1.below hb).below hb2).1 0 _ rfl)) _ (dvF_fst N l S.dv.n h.dv.len))
 generalize dvF N l=Z at *;have B0:=hid NC.2.2;subst hW;unfold vAm at FS ⊢;have FS:=hid FS;clear h hs hn NC
 go_enter Tryz.func25,Tryz.ntmps25
 go_wp2_with (go_at_call 84;(with_reducible refine FS.out.mono ?_);rintro e wi ⟨rfl,hb⟩;have X2:=hid (vAa B0.out hb);clear hb);go_ret;exact ⟨rfl,X2.out⟩
open Go.Lib (byteCells)
open Go.Lib (byteCells)
open Go.Lib (byteCells)
def os (E:Int) (ps:List (List UInt8)):List (List UInt8):=if E=0 then ps else []
open Go.Lib (byteCells)
end Go.Proofs.YtgmflecelnefcaaGreat
namespace Go.Proofs.YtgmflecelnefcaaGreat.Mac
open Go.Lib (hid)
open Go.RowKit
theorem host_or (a:Int) (h0:0≤a) (h1:a<4294967296):bits .or .u64 2199023255552 a=2199023255552+a:=by
 rw [u64_or _ _ (by omega) (by omega) h0 (by omega)]
 have:(2199023255552:Int).toNat |||a.toNat=2199023255552+a.toNat:=by
  have:=Nat.two_pow_add_eq_or_of_lt (i:=41) (b:=a.toNat) (by omega) 1
  simpa using this.symm
 rw [this];omega
theorem mask_48 (m:Int) (h0:0≤m) (h1:m<18446744073709551616):bits .and .u64 m 281474976710655=m % 281474976710656:=by
 rw [u64_and _ _ h0 h1 (by omega) (by omega)]
 have:m.toNat &&& (281474976710655:Int).toNat=m.toNat % 281474976710656:=Nat.and_two_pow_sub_one_eq_mod m.toNat 48
 rw [this];omega
theorem bit_40 (m:Nat):m &&& 1099511627776=(m / 1099511627776 % 2) * 1099511627776:=by
 apply Nat.eq_of_testBit_eq
 intro i;rw [Nat.testBit_and,show (1099511627776:Nat)=2 ^ 40 from rfl,Nat.testBit_two_pow,Nat.testBit_mul_two_pow]
 by_cases hi:40=i
 · subst hi
   rw [Nat.testBit_eq_decide_div_mod_eq];simp
 · rcases Nat.lt_or_ge i 40 with h|h
   · simp [hi];omega
   · have:(m / 2 ^ 40 % 2).testBit (i - 40)=false:=Nat.testBit_lt_two_pow (Nat.lt_of_lt_of_le (Nat.mod_lt _ (by decide)) (Nat.pow_le_pow_right (by decide:0<2) (by omega:1≤i - 40)))
     simp [hi,this]
def byt (m:Int) (i:Nat):Int:=m / 256 ^ (5 - i) % 256
theorem byt_lo (m:Int) (i:Nat):0≤byt m i:=by unfold byt;exact Int.emod_nonneg _ (by decide)
theorem byt_hi (m:Int) (i:Nat):byt m i<256:=by unfold byt;exact Int.emod_lt_of_pos _ (by decide)
def grp (m:Int):Bool:=decide (m / 1099511627776 % 2=1)
theorem group_and (m:Int) (h0:0≤m) (h1:m<18446744073709551616):(bits .and .u64 m 1099511627776 != 0)=grp m:=by
 rw [u64_and _ _ h0 h1 (by omega) (by omega)];obtain ⟨n,rfl⟩:=Int.eq_ofNat_of_zero_le h0
 have:=bit_40 n
 simp only [Int.toNat_natCast,show (1099511627776:Int).toNat=1099511627776 from rfl,this];unfold grp;rw [Bool.eq_iff_iff];simp;omega
theorem host_any (a:Int) (w:World) (h0:0≤a) (h1:a<4294967296):
 Calls Tryz.prog 198 #[.int .u32 a] w fun e w'=>e=.returned (.int .u64 (2199023255552+a))∧w=w':=by
 have h:=host_or a h0 h1
 go_enter Tryz.func198,Tryz.ntmps198
 go_wp2;go_ret;exact ⟨by simp,rfl⟩
theorem group_any (m:Int) (w:World) (h0:0≤m) (h1:m<18446744073709551616):
 Calls Tryz.prog 185 #[.int .u64 m] w fun e w'=>e=.returned (.bool (grp m))∧w=w':=by
 have h:=group_and m h0 h1
 go_enter Tryz.func185,Tryz.ntmps185
 go_wp2;go_ret;exact ⟨by simp,rfl⟩
def isHostB (m:Int):Bool:=decide (2199023255552+m % 4294967296=m % 281474976710656)
theorem isHost_any (m:Int) (w:World) (h0:0≤m) (h1:m<18446744073709551616):
 Calls Tryz.prog 184 #[.int .u64 m] w fun e w'=>e=.returned (.tuple #[.int .u32 (if isHostB m=true then m % 4294967296 else 0),.bool (isHostB m)])∧w=w':=by
 have h:=mask_48 m h0 h1
 by_cases hh:isHostB m=true
 · have hd:((2199023255552+m % 4294967296) != (m % 281474976710656))=false:=by
    unfold isHostB at hh;simp at hh;simp [hh]
   rw [hh];have hx:Hid (isHostB m=true):=hid hh;clear hh
   go_enter Tryz.func184,Tryz.ntmps184
   go_wp2_with (go_at_call 198;refine (host_any _ _ (by omega) (by omega)).mono ?_;rintro e w' ⟨rfl,rfl⟩);go_ret2;exact ⟨by simp,rfl⟩
 · have hd:((2199023255552+m % 4294967296) != (m % 281474976710656))=true:=by
    unfold isHostB at hh;simp at hh;simp [hh]
   have h2:isHostB m=false:=by simpa using hh
   rw [h2];clear hh h2
   go_enter Tryz.func184,Tryz.ntmps184
   go_wp2_with (go_at_call 198;refine (host_any _ _ (by omega) (by omega)).mono ?_;rintro e w' ⟨rfl,rfl⟩);go_ret2;exact ⟨by simp,rfl⟩
theorem Tryz.info5:(Tryz.prog.info? 5).map (fun i=>(i.zero,i.size,i.bytes))=some (some (.int .u8 0),1,1):=by kernel_rfl
def hx (d:Int):Int:=if d<10 then 48+d else 87+d
def textPre (m:Int):Nat→List Int
 |0=>[]
 |k+1=>textPre m k++(if 0<k then [58] else [])++[hx (byt m k / 16),hx (byt m k % 16)]
def vDz (ns:List Int):ByteArray:=⟨(ns.map fun n=>UInt8.ofNat n.toNat).toArray⟩
abbrev digs:ByteArray:=⟨#[48,49,50,51,52,53,54,55,56,57,97,98,99,100,101,102]⟩
theorem index_dig (d:Int) (h0:0≤d) (h1:d<16) (w:World):(Instr.index 9 (.string digs) (.int .u8 d)).run Tryz.prog w=.ok (.int .u8 (hx d)) w:=by
 have:d=0∨d=1∨d=2∨d=3∨d=4∨d=5∨d=6∨d=7∨d=8∨d=9∨d=10∨d=11∨d=12∨d=13∨d=14∨d=15:=by omega
 rcases this with rfl|rfl|rfl|rfl|rfl|rfl|rfl|rfl|rfl|rfl|rfl|rfl|rfl|rfl|rfl|rfl<;>(show Sem.run _ _ _=Result.ok _ _;kernel_rfl)
theorem textPre_len (m:Int) (k:Nat):(textPre m k).length≤3 * k:=by
 induction k with
 |zero=>simp [textPre]
 |succ k ih=>simp only [textPre,List.length_append];split<;>simp<;>omega
theorem vDc {a w w':World} {e:TypeId} {s n:Nat} {v:Value} {xs:List Value} (h:Below a.heap.size a w) (ho:w.ownsRow a.heap.size e s v n xs) (hg:w.grownBy w' v.ownBlock):Below a.heap.size a w':=
 h.grown hg h.size (fun k hk=>(ho.lt k hk).1)
def vCf (m:Int):Nat→List Int
 |0=>[]
 |r+1=>vCf m r++[byt m r]
theorem bytesPre_len (m:Int) (r:Nat):(vCf m r).length=r:=by
 induction r with
 |zero=>rfl
 |succ r ih=>simp [vCf,ih]
theorem div_more (m:Int) (k:Nat):m / 256 ^ k / 256=m / 256 ^ (k+1):=by
 rw [Int.pow_succ,Int.ediv_ediv_of_nonneg (by exact Int.le_of_lt (Int.pow_pos (by decide)))]
theorem quo_u64 (x c:Int) (h0:0≤x) (h1:x<18446744073709551616) (hc:1≤c):IntKind.u64.wrap (x.tdiv c)=x / c:=by
 rw [Int.tdiv_eq_ediv_of_nonneg h0];have h2:0≤x / c:=Int.ediv_nonneg h0 (by omega);have h3:x / c≤x:=Int.ediv_le_self c h0;simp only [IntKind.wrap,IntKind.bits,IntKind.signed]
 have:x / c % 2 ^ 64=x / c:=Int.emod_eq_of_lt h2 (by omega)
 simpa using this
theorem pow_div_le (m:Int) (k:Nat) (h0:0≤m):0≤m / 256 ^ k∧m / 256 ^ k≤m:=
 ⟨Int.ediv_nonneg h0 (Int.le_of_lt (Int.pow_pos (by decide))),Int.ediv_le_self _ h0⟩
theorem bytes_more {a wr w1:World} {m:Int} {r g cap:Nat} {u3:Value} {o1:Obj} (hbel:Below a.heap.size a wr)
 (hown:wr.ownsRow a.heap.size 5 1 u3 r ((vCf m r).map (Value.int .u8)))
 (hown1:w1.ownsRow a.heap.size 5 1 (.slice (some ⟨g,0,none⟩) (r+1) cap) (r+1) ((vCf m r).map (Value.int .u8)++[.int .u8 (byt m r)]))
 (hg1:(wr.alloc o1).grownBy w1 u3.ownBlock):
 w1.ownsRow a.heap.size 5 1 (.slice (some ⟨g,0,none⟩) (r+1) cap) (r+1) ((vCf m (r+1)).map (Value.int .u8))∧Below a.heap.size a w1:=by
 have b1:=vDc (hbel.alloc hbel.size o1) (hown.alloc o1) hg1;exact ⟨by simpa [vCf] using hown1,b1⟩
theorem refBytes_any (m:Int) (w:World) (h0:0≤m) (h1:m<18446744073709551616):
 Calls Tryz.prog 212 #[.int .u64 m] w fun e w'=>∃v,e=.returned v∧w'.ownsRow w.heap.size 5 1 v 6 ((vCf m 6).map (Value.int .u8))∧Below w.heap.size w w':=by
 obtain ⟨i0,hi,hz0,hz1,hz2⟩:=info_parts Tryz.info5;have Hi:=hid hi;have Hz0:=hid hz0;have Hz1:=hid hz1;have Hz2:=hid hz2;clear hi hz0 hz1 hz2
 go_enter Tryz.func212,Tryz.ntmps212
 go_wp2
 go_loopw [3,4] (fun v i wr=>∃r:Nat,r≤6∧i=.int .i64 (5 - (r:Int))∧wr.ownsRow w.heap.size 5 1 v r ((vCf m r).map (Value.int .u8))∧Below w.heap.size w wr) (fun _ i _=>(intOf i+1).toNat)
 case atStart=>exact ⟨0,by omega,rfl,World.ownsRow_nil _ _ _ _,Below.refl _ _⟩
 case round=>
  obtain ⟨r,hr,rfl,hown,hbel⟩:=hrel
  by_cases hlt:r<6
  · obtain ⟨wo,rfl⟩:∃wo:World,wo=wr:=⟨_,rfl⟩
    go_wp2
    go_loop [5,6] (fun x k=>∃j:Nat,j≤5 - r∧k=.int .i64 j∧x=.int .u64 (m / 256 ^ j)) (fun _ k=>5 - r - (intOf k).toNat)
    case atStart=>exact ⟨0,by omega,rfl,by simp⟩
    case round=>
     obtain ⟨j,hj,rfl,rfl⟩:=hrel;obtain ⟨hn0,hn1⟩:=pow_div_le m j h0
     by_cases hlt2:j<5 - r
     · have hlt3:(j:Int)<5 - (r:Int):=by omega
       have hq:IntKind.u64.wrap ((m / 256 ^ j).tdiv 256)=m / 256 ^ (j+1):=by rw [quo_u64 _ _ hn0 (by omega) (by omega),div_more]
       go_wp2
       go_round
       case rel=>exact ⟨j+1,by omega,by go_num,rfl⟩
       case measure=>simp [intOf];omega
     · obtain rfl:j=5 - r:=by omega
       go_wp2_with (at_builtin;refine wpList_append_lies _ rfl (.tmp 19) (.tmp 23) 197 rfl w.heap.size 5 i0 (.int .u8 0) 1 1 Tryz.underlying197 Hi.out Hz0.out Hz1.out Hz2.out rfl (by decide) _ _ _ (by rfl) (hown.alloc _) ⟨wo.heap.size,0,none⟩ 1 1 [.int .u8 (byt m r)] (by rfl) rfl (World.news_of_block (heap_alloc_new wo _)) (by simp [Value.oneCell']) (by omega) (by unfold maxLen;omega) (by omega) (by have:=hbel.size;simp;omega) _ rfl ?_;intro g cap w1 hown1 hgrow1 _ _)
       have hend:=bytes_more hbel hown hown1 hgrow1;clear hbel hown hown1 hgrow1;go_wp2
       go_roundw
       case rel=>exact ⟨r+1,by omega,by go_num,hend.1,hend.2⟩
       case measure=>simp [intOf];omega
  · obtain rfl:r=6:=by omega
    go_wp2;go_ret;exact ⟨_,rfl,hown,hbel⟩
theorem bytesPre_get (m:Int) (r j:Nat) (h:j<r):(vCf m r)[j]?=some (byt m j):=by
 induction r with
 |zero=>omega
 |succ r ih=>
  rw [vCf,List.getElem?_append,bytesPre_len]
  split
  · exact ih (by assumption)
  · obtain rfl:j=r:=by omega
    simp
theorem refBytes_cells (m:Int) (w:World) (h0:0≤m) (h1:m<18446744073709551616):
 Calls Tryz.prog 212 #[.int .u64 m] w fun e w'=>∃g cap,e=.returned (.slice (some ⟨g,0,none⟩) 6 cap)∧6≤cap∧cap≤maxLen∧w.heap.size≤g∧
  w'.ownsRow w.heap.size 5 1 (.slice (some ⟨g,0,none⟩) 6 cap) 6 ((vCf m 6).map (Value.int .u8))∧(∀j,j<6→w'.cell? ⟨g,j,none⟩=some (.int .u8 (byt m j)))∧Below w.heap.size w w':=by
 refine (refBytes_any m w h0 h1).mono ?_;rintro e w' ⟨v,rfl,hown,hb⟩
 rcases hown.2 with ⟨_,h6⟩|⟨g,cap,cur,rfl,hg,_,hc,hm,_⟩
 · omega
 · refine ⟨g,cap,rfl,hc,hm,hg,hown,fun j hj=>?_,hb⟩
   rw [hown.cellAt j (by omega),List.getElem?_map,bytesPre_get m 6 j hj]
   rfl
theorem slice_dig (d:Int) (h0:0≤d) (h1:d<16) (w:World):(Instr.sliceAt 9 (.string digs) (some (.int .u8 d)) (some (.int .u8 (d+1))) none).run Tryz.prog w=.ok (.string (vDz [hx d])) w:=by
 have:d=0∨d=1∨d=2∨d=3∨d=4∨d=5∨d=6∨d=7∨d=8∨d=9∨d=10∨d=11∨d=12∨d=13∨d=14∨d=15:=by omega
 rcases this with rfl|rfl|rfl|rfl|rfl|rfl|rfl|rfl|rfl|rfl|rfl|rfl|rfl|rfl|rfl|rfl<;>(show Sem.run _ _ _=Result.ok _ _;kernel_rfl)
theorem vCy (a b:List Int):vDz (a++b)=vDz a++vDz b:=by
 unfold vDz;rw [List.map_append,ByteArray.mk_append_mk]
theorem vIf (a:List Int):(vDz a).size=a.length:=by simp [vDz,ByteArray.size]
abbrev colonS:ByteArray:=⟨#[58]⟩
theorem colonS_of:colonS=vDz [58]:=by decide +kernel
theorem vAd {B:Nat} {a w:World} (h:Below B a w) (n:Nat):Below B a (w.drewN n):=⟨h.os,h.tape,h.output,h.size,h.block⟩
theorem text_next (m:Int) (k:Nat) (h:0<k):vDz (textPre m (k+1))=vDz (textPre m k)++⟨#[58]⟩++vDz [hx (byt m k / 16)]++vDz [hx (byt m k % 16)]:=by
 rw [show (⟨#[58]⟩:ByteArray)=vDz [58] from colonS_of,←vCy,←vCy,←vCy];simp [textPre,h]
theorem text_next0 (m:Int) (k:Nat) (h:¬0<k):vDz (textPre m (k+1))=vDz (textPre m k)++vDz [hx (byt m k / 16)]++vDz [hx (byt m k % 16)]:=by
 rw [←vCy,←vCy];simp [textPre,h]
theorem refText_any (m:Int) (w:World) (h0:0≤m) (h1:m<18446744073709551616):
 Calls Tryz.prog 193 #[.int .u64 m] w fun e w'=>e=.returned (.string (vDz (textPre m 6)))∧Below w.heap.size w w':=by
 go_enter Tryz.func193,Tryz.ntmps193
 go_wp2_with (go_at_call 212;refine (refBytes_cells m _ h0 h1).mono ?_;rintro e w1 ⟨g,cap,rfl,hc6,hcm,hg,hown,hcell,hb⟩;have H:=hid hcell;clear hcell;unfold maxLen at hcm)
 go_loopw [5,6] (fun v i wr=>∃k:Nat,k≤6∧i=.int .i64 k∧v=.string (vDz (textPre m k))∧∃n,wr=w1.drewN n) (fun _ i _=>6 - (intOf i).toNat)
 case atStart=>exact ⟨0,by omega,rfl,rfl,0,rfl⟩
 case round=>
  obtain ⟨k,hk,rfl,rfl,nn,rfl⟩:=hrel
  by_cases hlt:k<6
  · have hlt2:(k:Int)<6:=by omega
    have b0:=byt_lo m k;have b1:=byt_hi m k;have c0:=H.out k hlt;have S1:=slice_dig (byt m k / 16) (by omega) (by omega);have S2:=slice_dig (byt m k % 16) (by omega) (by omega)
    have z1:(vDz (textPre m k)).size≤18:=by rw [vIf];have:=textPre_len m k;omega
    have z2:(vDz [hx (byt m k / 16)]).size≤1:=by rw [vIf];simp
    have z3:(vDz [hx (byt m k % 16)]).size≤1:=by rw [vIf];simp
    by_cases hk0:0<k
    · have HN:=hid (text_next m k hk0)
      go_wp2
      go_quiet (fail)
      go_wp2
      go_roundw
      case rel=>exact ⟨k+1,by omega,by go_num,by rw [HN.out],_,rfl⟩
      case measure=>simp [intOf];omega
    · have HN:=hid (text_next0 m k hk0)
      go_wp2
      go_quiet (fail)
      go_wp2
      go_roundw
      case rel=>exact ⟨k+1,by omega,by go_num,by rw [HN.out],_,rfl⟩
      case measure=>simp [intOf];omega
  · obtain rfl:k=6:=by omega
    go_wp2;go_ret;exact ⟨rfl,vAd hb nn⟩
def dg (c:Int):Int:=if 48≤c∧c≤57 then c - 48 else if 97≤c∧c≤102 then c - 87 else -1
def sb (s:ByteArray) (j:Nat):Int:=((s.data.toList.getD j 0).toNat:Int)
def good (s:ByteArray) (j:Nat):Prop:=0≤dg (sb s (3 * j))∧0≤dg (sb s (3 * j+1))∧(0<j→sb s (3 * j - 1)=58)
instance (s:ByteArray) (j:Nat):Decidable (good s j):=by unfold good;infer_instance
def val (s:ByteArray):Nat→Int
 |0=>0
 |k+1=>val s k * 256+(dg (sb s (3 * k)) * 16+dg (sb s (3 * k+1)))
def rdB (s:ByteArray):Bool:=decide (s.size=17) && (List.range 6).all fun j=>decide (good s j)
def rdV (s:ByteArray):Int:=if rdB s=true then val s 6 else 0
end Go.Proofs.YtgmflecelnefcaaGreat.Mac
namespace Go.Proofs.YtgmflecelnefcaaGreat
open Go.Lib (hid)
open Go.RowKit
noncomputable def nmB (s:List UInt8):Bool:=@decide (vIi (str s)) (Classical.propDecidable _)
theorem vGi (s:List UInt8):nmB s=true↔vIi (str s):=by
 unfold nmB;exact @decide_eq_true_iff _ (Classical.propDecidable _)
def mcV (s:List UInt8):Int:=Mac.rdV (str s)
def mcB (s:List UInt8):Bool:=Mac.rdB (str s)
def stB (m:Int):Bool:=!Mac.isHostB m && !Mac.grp m
def snB (A B:Int):Bool:=decide (1≤B) && decide (B≤30) && !decide (A=FS A B) && !decide (A=LS A B)
def paV (s:List UInt8):Int:=(((pfF s).getD (0,0)).1:Nat)
def pbV (s:List UInt8):Int:=(((pfF s).getD (0,0)).2:Nat)
def dash:List UInt8:=[45]
def vDe:List UInt8:=[97,99,99,101,115,115]
def vEy:List UInt8:=[116,114,117,110,107]
def sPort:List UInt8:=[112,111,114,116]
def lsD (s:List UInt8) (hi:Int):List Int:=if s=dash then [] else lsV (rdI 1 hi) s
def lsDB (s:List UInt8) (hi:Int):Bool:=if s=dash then true else lsB (rdI 1 hi) s
def wdB (c:UInt8) (s:List UInt8):Bool:=
 if c=80 then nB s 0 65535 else if c=67 then nB s 1 65535 else if c=77 then mcB s && stB (mcV s) else if c=86 then nB s 1 4094
 else if c=87 then nB s 1 4094 || decide (s=dash) else if c=84 then lsDB s 4094 else if c=73 then nB s 1 16777215
 else if c=65 then rdB s && decide (0<rdV s) else if c=76 then lsB rdA s && decide (0<(lsV rdA s).getD 0 0) else if c=82 then lsDB s 65535
 else if c=83 then pfB s && snB (paV s) (pbV s) else false
noncomputable def wdE (c:UInt8) (s:List UInt8):Int:=
 if c=78 then (if nmB s=true then 0 else 20) else if c=75 then (if s=vDe∨s=vEy then 0 else 20) else if wdB c s=true then 0 else 21
def nmL (s:List UInt8) (k:Nat) (L:LV):LV:=
 if k=0 then {L with dev:=s} else if L.kind=8∨L.kind=9 then {L with name:=s} else if k=1 then {L with port:=s} else if k=2 then {L with peer:=s} else if k=3 then {L with far:=s} else L
def wdL (c:UInt8) (s:List UInt8) (k:Nat) (L:LV):LV:=
 if c=78 then nmL s k L else if c=75 then L else if c=80 then {L with num:=nV s 0 65535} else if c=67 then {L with cost:=nV s 1 65535} else if c=77 then {L with mac:=mcV s}
 else if c=86 then {L with vlan:=nV s 1 4094} else if c=87 then {L with vlan:=nV s 1 4094} else if c=84 then {L with tagged:=lsD s 4094} else if c=73 then {L with num:=nV s 1 16777215}
 else if c=65 then {L with addr:=rdV s} else if c=76 then {L with addrs:=lsV rdA s} else if c=82 then {L with imports:=L.exports,exports:=lsD s 65535}
 else if c=83 then {L with addr:=paV s,bits:=pbV s} else L
noncomputable def vDy:List UInt8→List (List UInt8)→Nat→LV→Int×LV
 |c :: f,s :: ws,k,L=>if wdE c s=0 then vDy f ws (if c=78 then k+1 else k) (wdL c s k L) else (wdE c s,L)
 |_,_,_,L=>(0,L)
def kdV (s:List UInt8):Int:=
 if s=[100,101,118,105,99,101] then 1 else if s=sPort then 2 else if s=[108,105,110,107] then 3 else if s=[115,116,97,116,105,99] then 4 else if s=[118,116,101,112] then 5
 else if s=[118,110,105] then 6 else if s=[102,108,111,111,100] then 7 else if s=[118,114,102] then 8 else if s=[105,114,98] then 9 else 0
def wat (ws:List (List UInt8)) (i:Nat):List UInt8:=ws.getD i []
def fmV (ws:List (List UInt8)):List UInt8:=
 if ws=[] then [] else if kdV (wat ws 0)=1 then [78,80,77] else if kdV (wat ws 0)=3 then [78,78,78,78] else if kdV (wat ws 0)=4 then [78,86,77,78] else if kdV (wat ws 0)=5 then [78,65]
 else if kdV (wat ws 0)=6 then [78,86,73] else if kdV (wat ws 0)=7 then [78,73,76] else if kdV (wat ws 0)=8 then [78,78,82,82] else if kdV (wat ws 0)=9 then [78,86,78,83]
 else if kdV (wat ws 0)=2 then (if ws.length=7∧¬wat ws 4=vDe then [78,78,67,75,87,84] else if ws.length=6∧¬wat ws 4=vEy then [78,78,67,75,86] else []) else []
def ltV (ws:List (List UInt8)):List UInt8:=if fmV ws≠[]∧ws.length=(fmV ws).length+1 then fmV ws else []
def mbB (L:LV):Bool:=L.tagged.all (fun x=>!decide (x=L.vlan)) && (decide (0<L.vlan) || decide (0<L.tagged.length))
def LV.new (row kind:Int):LV:=⟨row,kind,[],[],[],[],[],0,0,0,0,0,0,[],[],[],[]⟩
noncomputable def rdE (ws:List (List UInt8)) (row:Int):Int:=
 if ltV ws=[] then 22 else
 let r:=vDy (ltV ws) (ws.drop 1) 0 (LV.new row (kdV (wat ws 0)))
 if r.1=0 then (if r.2.kind=2∧mbB r.2=false then 21 else 0) else r.1
noncomputable def rdL (ws:List (List UInt8)) (row:Int):LV:=if rdE ws row=0 then (vDy (ltV ws) (ws.drop 1) 0 (LV.new row (kdV (wat ws 0)))).2 else LV.zero
end Go.Proofs.YtgmflecelnefcaaGreat
